import Derived.Test.YtlnndkilaklifaaZNNum
import Derived.Deep.RegionWith
import Derived.Deep.AppendLies
import Derived.Deep.RegionHeld3
import Derived.Deep.DeepCutAuto
import Derived.Maps.AppendAt
import Derived.BigQuiet
import Derived.Deep.QuietTactic
namespace Go.Proofs.Ytlnndkilaklifaa
open Go.RowKit Go.Maps Go.WideElems Go.ChangeMaps Go.MapKept
set_option linter.unusedVariables false
set_option linter.unusedSimpArgs false

theorem Try.info_ints : (Try.prog.info? 25).map (fun i => (i.zero, i.size, i.bytes)) = some (some (.slice none 0 0), 1, 24) := by kernel_rfl
theorem Try.info_eds : (Try.prog.info? 22).map (fun i => (i.zero, i.size, i.bytes)) = some (some (.slice none 0 0), 1, 24) := by kernel_rfl
theorem make_ints (N : Nat) (hN : N ≤ 2147483647) (W : World) : (Instr.makeSlice 28 (.int .i64 ((N : Nat) : Int)) (.int .i64 ((N : Nat) : Int))).run Try.prog W = .ok (.slice (some ⟨W.heap.size, 0, none⟩) N N) (W.alloc (.cells (madeCells #[.slice none 0 0] N) 25)) := by
  have := run_make_row' (P := Try.prog) 28 25 (.slice none 0 0) 24 Try.underlying28 Try.info_ints rfl .i64 .i64 N (by omega) (by omega) W
  simpa using this

/-- Rows of rows of the call's own: block g (of type ts) holds M slices, each of cells of type te. -/
def GridAt (w : World) (B ts te sz g M : Nat) (vs : Nat → Value) (len : Nat → Nat) (xs : Nat → List Value) : Prop :=
  St w ts g ((List.range M).map vs).toArray ∧ (∀ i, i < M → w.ownsRow B te sz (vs i) (len i) (xs i)) ∧ ∀ i j, i < M → j < M → i ≠ j → ∀ b, (vs i).ownBlock = some b → (vs j).ownBlock ≠ some b
theorem GridAt.keep {w w' : World} {B ts te sz g M : Nat} {vs : Nat → Value} {len : Nat → Nat} {xs : Nat → List Value} (h : GridAt w B ts te sz g M vs len xs) (k : Below w.heap.size w w') : GridAt w' B ts te sz g M vs len xs :=
  ⟨h.1.keep k, fun i hi => ownsRow_keep (h.2.1 i hi) k, h.2.2⟩
theorem GridAt.cell {w : World} {B ts te sz g M : Nat} {vs : Nat → Value} {len : Nat → Nat} {xs : Nat → List Value} (h : GridAt w B ts te sz g M vs len xs) (i : Nat) (hi : i < M) : w.cell? ⟨g, i, none⟩ = some (vs i) ∧ w.frozen? ⟨g, i, none⟩ = false :=
  ⟨by rw [h.1.at_]; simp [hi], h.1.thaw_ i⟩
theorem GridAt.congr {w : World} {B ts te sz g M : Nat} {vs : Nat → Value} {len len' : Nat → Nat} {xs xs' : Nat → List Value} (h : GridAt w B ts te sz g M vs len xs) (e : ∀ i, i < M → len i = len' i ∧ xs i = xs' i) : GridAt w B ts te sz g M vs len' xs' :=
  ⟨h.1, fun i hi => by rw [← (e i hi).1, ← (e i hi).2]; exact h.2.1 i hi, h.2.2⟩
theorem GridAt.made (w : World) (B ts te sz M : Nat) : GridAt (w.alloc (.cells (madeCells #[.slice none 0 0] M) ts)) B ts te sz w.heap.size M (fun _ => .slice none 0 0) (fun _ => 0) (fun _ => []) := by
  refine ⟨?_, fun i _ => World.ownsRow_nil _ _ _ _, fun i j _ _ _ b h => by simp [Value.ownBlock] at h⟩
  have e1 : madeCells #[.slice none 0 0] M = ((List.range M).map (fun _ => Value.slice none 0 0)).toArray := by
    apply Array.ext'
    apply List.ext_getElem?
    intro i
    by_cases hi : i < M
    · simp [madeCells, hi, Nat.mod_one]
    · simp [madeCells, hi]
  rw [← e1]
  exact St.new _ _ _
/-- A store into a block of yet another type. -/
theorem GridAt.far {w : World} {B ts te sz g M : Nat} {vs : Nat → Value} {len : Nat → Nat} {xs : Nat → List Value} (h : GridAt w B ts te sz g M vs len xs) {t b : Nat} {cs : Array Value} (hs : St w t b cs) (h1 : ts ≠ t) (h2 : te ≠ t) (i : Nat) (u : Value) : GridAt (w.setCell ⟨b, i, none⟩ u) B ts te sz g M vs len xs :=
  ⟨h.1.set_far hs h1 i u, fun j hj => own_set (h.2.1 j hj) hs h2 i u, h.2.2⟩
/-- What grew is a row of another type. -/
theorem GridAt.grown_own {w w' : World} {B ts te sz g M : Nat} {vs : Nat → Value} {len : Nat → Nat} {xs : Nat → List Value} (h : GridAt w B ts te sz g M vs len xs) {B' t size n : Nat} {v : Value} {ys : List Value} (ho : w.ownsRow B' t size v n ys) (h1 : t ≠ ts) (h2 : t ≠ te) (hg : w.grownBy w' v.ownBlock) : GridAt w' B ts te sz g M vs len xs :=
  ⟨h.1.grown_own ho h1 hg, fun j hj => own_grown_own (h.2.1 j hj) ho h2 hg, h.2.2⟩
/-- One row has grown, and is stored back. -/
theorem GridAt.app {w w' : World} {B ts te sz g M : Nat} {vs : Nat → Value} {len : Nat → Nat} {xs : Nat → List Value} (h : GridAt w B ts te sz g M vs len xs) (ht : te ≠ ts) {i : Nat} (hi : i < M) {v' : Value} {n' : Nat} {ys : List Value} (ho : w'.ownsRow B te sz v' n' ys) (hg : w.grownBy w' (vs i).ownBlock)
    (hat : ∀ b, v'.ownBlock = some b → (vs i).ownBlock = some b ∨ w.heap.size ≤ b) : GridAt (w'.setCell ⟨g, i, none⟩ v') B ts te sz g M (fun j => if j = i then v' else vs j) (fun j => if j = i then n' else len j) (fun j => if j = i then ys else xs j) := by
  have hs := h.1.grown_own (h.2.1 i hi) ht hg
  have hlt : ∀ j, j < M → ∀ b, (vs j).ownBlock = some b → b < w.heap.size := fun j hj b e => by
    obtain ⟨c, fz, hc⟩ := own_kind (h.2.1 j hj) b e
    exact (Array.getElem?_eq_some_iff.1 hc).1
  refine ⟨?_, fun j hj => ?_, fun j k hj hk hjk b => ?_⟩
  · have := hs.set i v'
    have e : (((List.range M).map vs).toArray).setIfInBounds i v' = ((List.range M).map (fun j => if j = i then v' else vs j)).toArray := by
      apply Array.ext'
      apply List.ext_getElem?
      intro j
      rw [Array.toList_setIfInBounds, List.getElem?_set]
      by_cases e : i = j
      · subst e; simp [hi]
      · have e' : ¬ j = i := fun h => e h.symm
        simp only [if_neg e, List.getElem?_map]
        by_cases hj : j < M
        · simp [hj, e']
        · simp [hj]
    rw [e] at this
    exact this
  · by_cases e : j = i
    · subst e
      simp only [if_pos rfl]
      exact own_set ho hs ht j v'
    · simp only [if_neg e]
      refine own_set (own_grown (h.2.1 j hj) hg (fun b e1 e2 => h.2.2 j i hj hi e b e1 e2.symm)) hs ht i v'
  · by_cases e1 : j = i
    · subst e1
      have e2 : ¬ k = j := fun e => hjk e.symm
      simp only [if_pos rfl, if_neg e2]
      intro e3 e4
      rcases hat b e3 with h1 | h1
      · exact h.2.2 j k hj hk hjk b h1 e4
      · have := hlt k hk b e4; omega
    · by_cases e2 : k = i
      · subst e2
        simp only [if_pos rfl, if_neg e1]
        intro e3 e4
        rcases hat b e4 with h1 | h1
        · exact h.2.2 j k hj hk hjk b e3 h1
        · have := hlt j hj b e3; omega
      · simp only [if_neg e1, if_neg e2]
        exact h.2.2 j k hj hk hjk b
/-- The rows by their states. -/
def rowF (L : List En) (i : Nat) : List Nat := (L.filter fun e => e.b && e.f == i).map (·.t)
def rowB (L : List En) (i : Nat) : List En := L.filter fun e => !e.b && e.f == i
theorem rowF_snoc (L : List En) (x : En) (i : Nat) : rowF (L ++ [x]) i = if x.b = true ∧ x.f = i then rowF L i ++ [x.t] else rowF L i := by
  unfold rowF
  rw [List.filter_append, List.map_append]
  by_cases h : x.b = true ∧ x.f = i
  · rw [if_pos h]; simp [h.1, h.2]
  · rw [if_neg h]
    by_cases hb : x.b = true
    · have : ¬ x.f = i := fun e => h ⟨hb, e⟩
      simp [hb, this]
    · simp [hb]
theorem rowB_snoc (L : List En) (x : En) (i : Nat) : rowB (L ++ [x]) i = if x.b = false ∧ x.f = i then rowB L i ++ [x] else rowB L i := by
  unfold rowB
  rw [List.filter_append]
  by_cases h : x.b = false ∧ x.f = i
  · rw [if_pos h]; simp [h.1, h.2]
  · rw [if_neg h]
    by_cases hb : x.b = false
    · have : ¬ x.f = i := fun e => h ⟨hb, e⟩
      simp [hb, this]
    · simp [hb]
theorem rowF_len (L : List En) (i : Nat) : (rowF L i).length ≤ L.length := by simp [rowF]; exact List.length_filter_le _ _
theorem rowB_len (L : List En) (i : Nat) : (rowB L i).length ≤ L.length := List.length_filter_le _ _
theorem rowF_mem (L : List En) (i y : Nat) : y ∈ rowF L i ↔ ∃ e ∈ L, e.b = true ∧ e.f = i ∧ e.t = y := by
  simp only [rowF, List.mem_map, List.mem_filter, Bool.and_eq_true, beq_iff_eq]
  exact ⟨fun ⟨e, ⟨h1, h2, h3⟩, h4⟩ => ⟨e, h1, h2, h3, h4⟩, fun ⟨e, h1, h2, h3, h4⟩ => ⟨e, ⟨h1, h2, h3⟩, h4⟩⟩
theorem rowB_mem (L : List En) (i : Nat) (e : En) : e ∈ rowB L i ↔ e ∈ L ∧ e.b = false ∧ e.f = i := by
  simp [rowB, List.mem_filter]
end Go.Proofs.Ytlnndkilaklifaa

namespace Go.Proofs.Ytlnndkilaklifaa
open Go.RowKit Go.Maps Go.WideElems Go.ChangeMaps Go.MapKept
set_option linter.unusedVariables false
set_option linter.unusedSimpArgs false


theorem Try.info_edge9 : (Try.prog.info? 43).map (fun i => (i.zero, i.size, i.bytes)) = some (some (.agg #[.int .i64 0, .int .i64 0, .int .u64 0, .int .u64 0, .int .u64 0, .int .u64 0, .bool false]), 7, 56) := by kernel_rfl
theorem al (w : World) (o : Obj) : Below w.heap.size w (w.alloc o) := (Below.refl _ _).alloc (Nat.le_refl _) _
theorem below3 (W : World) (a b c : Obj) : Below W.heap.size W (((W.alloc a).alloc b).alloc c) := ((al W a).alloc (by simp) b).alloc (by simp; omega) c


end Go.Proofs.Ytlnndkilaklifaa

namespace Go.Proofs.Ytlnndkilaklifaa
open Go.RowKit Go.Maps Go.WideElems Go.ChangeMaps Go.MapKept
set_option linter.unusedVariables false
set_option linter.unusedSimpArgs false

theorem own_kinds {w : World} {B B' t t' s s' n n' : Nat} {v v' : Value} {xs xs' : List Value} (h : w.ownsRow B t s v n xs) (h' : w.ownsRow B' t' s' v' n' xs') (ht : t ≠ t') : ∀ g, v.ownBlock = some g → v'.ownBlock ≠ some g := by
  intro g e1 e2
  obtain ⟨c, fz, hc⟩ := own_kind h g e1
  obtain ⟨c', fz', hc'⟩ := own_kind h' g e2
  rw [hc] at hc'
  injection hc' with hc'
  injection hc' with _ hc'
  exact ht hc'
theorem row5w {w : World} {g t : Nat} {c0 c1 c2 c3 c4 : Value} (h : St w t g #[c0, c1, c2, c3, c4]) : w.cell? ⟨g, 0, none⟩ = some c0 ∧ w.cell? ⟨g, 1, none⟩ = some c1 ∧ w.cell? ⟨g, 2, none⟩ = some c2 ∧ w.cell? ⟨g, 3, none⟩ = some c3 ∧ w.cell? ⟨g, 4, none⟩ = some c4 :=
  ⟨h.at_ 0, h.at_ 1, h.at_ 2, h.at_ 3, h.at_ 4⟩

end Go.Proofs.Ytlnndkilaklifaa

namespace Go.Proofs.Ytlnndkilaklifaa
open Go.RowKit Go.Maps Go.WideElems Go.ChangeMaps Go.MapKept
set_option linter.unusedVariables false
set_option linter.unusedSimpArgs false

/-- Behind an enter. -/
structure Ent (l l' : List Nat) (s : Nat) : Prop where
  mem : ∀ x, x ∈ l' ↔ x ∈ l ∨ x = s
  pre : l <+: l'
/-- All states before number i are done with. -/
def Clo (L : List En) (l : List Nat) (i : Nat) : Prop := ∀ j (h : j < l.length), j < i → ∀ e ∈ L, e.b = true → e.f = l[j] → e.t ∈ l
theorem Clo.pre {L : List En} {l l' : List Nat} {i : Nat} (h : Clo L l i) (hi : i ≤ l.length) (k : l <+: l') : Clo L l' i := by
  intro j hj hji e he hb hf
  have h1 : l[j]'(by omega) = l'[j] := k.getElem (by omega)
  exact k.subset (h j (by omega) hji e he hb (by rw [h1]; exact hf))

end Go.Proofs.Ytlnndkilaklifaa

namespace Go.Proofs.Ytlnndkilaklifaa
open Go.RowKit Go.Maps Go.WideElems Go.ChangeMaps Go.MapKept
set_option linter.unusedVariables false
set_option linter.unusedSimpArgs false

theorem own_zero {w : World} {B e n c : Nat} {a : Option Addr} {xs : List Value} (h : w.ownsRow B e 1 (.slice a n c) n xs) : w.ownsRow B e 1 (.slice a 0 c) 0 [] := by
  refine ⟨rfl, ?_⟩
  rcases h.2 with ⟨h1, h2⟩ | ⟨g, cap, cur, h1, h2, h3, h4, h5, h6, h7⟩
  · injection h1 with e1 e2 e3
    subst e1 e3
    exact Or.inl ⟨rfl, rfl⟩
  · injection h1 with e1 e2 e3
    subst e1 e3
    exact Or.inr ⟨g, c, cur, rfl, h2, h3, Nat.zero_le _, h5, h6, rfl⟩
theorem own_edges {w : World} {B n c : Nat} {a : Option Addr} {R : List En} (h : w.ownsRow B 43 7 (.slice a n c) n (egs (R.map En.z))) : EdAt w a (R.map En.z) := by
  intro h0
  have hn : n = R.length := by
    have := h.1
    rw [egs_length, List.length_map] at this
    omega
  obtain ⟨g, e, _, hg, hc⟩ := ownsRow_read h (by simp at h0; omega)
  exact ⟨g, 0, e, hg, fun j hj => by rw [Nat.zero_add]; exact (hc j (by rw [hn]; simpa using hj)).1⟩

end Go.Proofs.Ytlnndkilaklifaa
