import Derived.Test.YtgmcfgkjhobiaaaZClasses
import Derived.Test.YtgmcfgkjhobiaaaZDBase
import Derived.Test.YtgmcfgkjhobiaaaZNMath
import Derived.Test.YtgmcfgkjhobiaaaZNNew
import Derived.Test.YtgmcfgkjhobiaaaZNRClose
import Derived.Test.YtgmcfgkjhobiaaaZSLeadN
import Derived.Deep.RegionWith
import Derived.Maps.AppendAt
import Derived.Deep.AppendLies
import Derived.BigQuiet
import Derived.Deep.QuietTactic
import Derived.Deep.RegionHeld3
namespace Go.Proofs.Ytgmcfgkjhobiaaa
open Go.RowKit Go.Maps Go.WideElems Go.ChangeMaps Go.MapKept
set_option linter.unusedVariables false
set_option linter.unusedSimpArgs false

/-- Rows of rows that grow. -/
structure GridOw (w : World) (B ts te sz : Nat) (v : Value) (M : Nat) (vs : Nat → Value) (len : Nat → Nat) (xs : Nat → List Value) : Prop where
  own : w.ownsRow B ts 1 v M ((List.range M).map vs)
  row : ∀ i, i < M → w.ownsRow B te sz (vs i) (len i) (xs i)
  sep : ∀ i j, i < M → j < M → i ≠ j → ∀ b, (vs i).ownBlock = some b → (vs j).ownBlock ≠ some b
theorem GridOw.keep {w w' : World} {B ts te sz M : Nat} {v : Value} {vs : Nat → Value} {len : Nat → Nat} {xs : Nat → List Value} (h : GridOw w B ts te sz v M vs len xs) (k : Below w.heap.size w w') : GridOw w' B ts te sz v M vs len xs :=
  ⟨ownsRow_keep h.own k, fun i hi => ownsRow_keep (h.row i hi) k, h.sep⟩
theorem GridOw.kept {w w' : World} {B ts te sz M : Nat} {v : Value} {vs : Nat → Value} {len : Nat → Nat} {xs : Nat → List Value} {bs : List Nat} (h : GridOw w B ts te sz v M vs len xs) (k : Kept [] bs w w') (h1 : ∀ b, v.ownBlock = some b → b ∉ bs) (h2 : ∀ i, i < M → ∀ b, (vs i).ownBlock = some b → b ∉ bs) : GridOw w' B ts te sz v M vs len xs :=
  ⟨own_kept h.own k (by simp) h1, fun i hi => own_kept (h.row i hi) k (by simp) (h2 i hi), h.sep⟩
theorem GridOw.congr {w : World} {B ts te sz M : Nat} {v : Value} {vs : Nat → Value} {len len' : Nat → Nat} {xs xs' : Nat → List Value} (h : GridOw w B ts te sz v M vs len xs) (e : ∀ i, i < M → len i = len' i ∧ xs i = xs' i) : GridOw w B ts te sz v M vs len' xs' :=
  ⟨h.own, fun i hi => by rw [← (e i hi).1, ← (e i hi).2]; exact h.row i hi, h.sep⟩
theorem GridOw.lt {w : World} {B ts te sz M : Nat} {v : Value} {vs : Nat → Value} {len : Nat → Nat} {xs : Nat → List Value} (h : GridOw w B ts te sz v M vs len xs) : (∀ b, v.ownBlock = some b → b < w.heap.size) ∧ ∀ i, i < M → ∀ b, (vs i).ownBlock = some b → b < w.heap.size := by
  have own : ∀ {t s n : Nat} {v : Value} {xs : List Value}, w.ownsRow B t s v n xs → ∀ g, v.ownBlock = some g → g < w.heap.size := fun ho g e => by
    obtain ⟨c, fz, hc⟩ := own_kind ho g e
    exact (Array.getElem?_eq_some_iff.1 hc).1
  exact ⟨own h.own, fun i hi => own (h.row i hi)⟩
/-- A row of none is put behind. -/
theorem GridOw.push {w w' : World} {B ts te sz M : Nat} {v v' : Value} {vs : Nat → Value} {len : Nat → Nat} {xs : Nat → List Value} (h : GridOw w B ts te sz v M vs len xs) (ht : te ≠ ts) (hl : len M = 0) (hx : xs M = [])
    (ho : w'.ownsRow B ts 1 v' (M + 1) ((List.range M).map vs ++ [.slice none 0 0])) (hg : w.grownBy w' v.ownBlock) : GridOw w' B ts te sz v' (M + 1) (fun j => if j = M then .slice none 0 0 else vs j) len xs := by
  refine ⟨?_, fun i hi => ?_, fun i j hi hj hij b => ?_⟩
  · have e : (List.range (M + 1)).map (fun j => if j = M then .slice none 0 0 else vs j) = (List.range M).map vs ++ [.slice none 0 0] := by
      rw [List.range_succ, List.map_append]
      congr 1
      · refine List.map_congr_left fun j hj => ?_
        have : j < M := by simpa using hj
        rw [if_neg (by omega)]
      · simp
    rw [e]
    exact ho
  · by_cases e : i = M
    · subst e
      simp only [if_pos rfl, hl, hx]
      exact World.ownsRow_nil _ _ _ _
    · simp only [if_neg e]
      exact own_grown (h.row i (by omega)) hg (fun b e1 e2 => own_kinds (h.row i (by omega)) h.own ht b e1 e2.symm)
  · by_cases e1 : i = M
    · simp only [if_pos e1]
      intro e; simp [Value.ownBlock] at e
    · by_cases e2 : j = M
      · simp only [if_pos e2]
        intro _ e; simp [Value.ownBlock] at e
      · simp only [if_neg e1, if_neg e2]
        exact h.sep i j (by omega) (by omega) hij b
/-- A row has grown, and is stored back. -/
theorem GridOw.app {w w' : World} {B ts te sz M g c : Nat} {vs : Nat → Value} {len : Nat → Nat} {xs : Nat → List Value} (h : GridOw w B ts te sz (.slice (some ⟨g, 0, none⟩) M c) M vs len xs) (ht : te ≠ ts) {i : Nat} (hi : i < M) {v' : Value} {n' : Nat} {ys : List Value} (ho : w'.ownsRow B te sz v' n' ys) (hg : w.grownBy w' (vs i).ownBlock)
    (hat : ∀ b, v'.ownBlock = some b → (vs i).ownBlock = some b ∨ w.heap.size ≤ b) : GridOw (w'.setCell ⟨g, i, none⟩ v') B ts te sz (.slice (some ⟨g, 0, none⟩) M c) M (fun j => if j = i then v' else vs j) (fun j => if j = i then n' else len j) (fun j => if j = i then ys else xs j) := by
  have hs := own_grown_own h.own (h.row i hi) ht hg
  have hlt := h.lt.2
  have hset : ∀ {n : Nat} {u : Value} {zs : List Value}, w'.ownsRow B te sz u n zs → (w'.setCell ⟨g, i, none⟩ v').ownsRow B te sz u n zs := fun ho2 =>
    own_kept (ts := []) (bs := [g]) ho2 ((Kept.refl _ _ _).setCell _ _ (Or.inl (by simp))) (by simp) (fun b e hm => own_kinds ho2 hs ht b e (by simp [List.mem_singleton.1 hm, Value.ownBlock]))
  refine ⟨?_, fun j hj => ?_, fun j k hj hk hjk b => ?_⟩
  · have := own_put hs i hi v'
    have e : ((List.range M).map vs).set i v' = (List.range M).map (fun j => if j = i then v' else vs j) := by
      apply List.ext_getElem?
      intro j
      rw [List.getElem?_set]
      by_cases e : i = j
      · subst e; simp [hi]
      · have e' : ¬ j = i := fun h => e h.symm
        simp only [if_neg e, List.getElem?_map]
        by_cases hj : j < M
        · simp [hj, e']
        · simp [hj]
    rwa [e] at this
  · by_cases e : j = i
    · subst e
      simp only [if_pos rfl]
      exact hset ho
    · simp only [if_neg e]
      exact hset (own_grown (h.row j hj) hg (fun b e1 e2 => h.sep j i hj hi e b e1 e2.symm))
  · by_cases e1 : j = i
    · subst e1
      have e2 : ¬ k = j := fun e => hjk e.symm
      simp only [if_pos rfl, if_neg e2]
      intro e3 e4
      rcases hat b e3 with h1 | h1
      · exact h.sep j k hj hk hjk b h1 e4
      · have := hlt k hk b e4; omega
    · by_cases e2 : k = i
      · subst e2
        simp only [if_pos rfl, if_neg e1]
        intro e3 e4
        rcases hat b e4 with h1 | h1
        · exact h.sep j k hj hk hjk b e3 h1
        · have := hlt j hj b e3; omega
      · simp only [if_neg e1, if_neg e2]
        exact h.sep j k hj hk hjk b
/-- Numbers in a block that no one changes. -/
def IAn (w : World) (bs : List Nat) (a : Option Addr) (l : List Nat) : Prop := 0 < l.length → ∃ g off, a = some ⟨g, off, none⟩ ∧ g < w.heap.size ∧ g ∉ bs ∧ ∀ j (h : j < l.length), w.cell? ⟨g, off + j, none⟩ = some (.int .i64 ((l[j] : Nat) : Int))
theorem IAn.kept {w w' : World} {bs bs' bs2 : List Nat} {a : Option Addr} {l : List Nat} (h : IAn w bs a l) (k : Kept [] bs2 w w') (hs : w.heap.size ≤ w'.heap.size) (h2 : ∀ x ∈ bs2, x ∈ bs ∨ w.heap.size ≤ x) (hb : ∀ x ∈ bs', x ∈ bs ∨ w.heap.size ≤ x) : IAn w' bs' a l := by
  intro h0
  obtain ⟨g, off, e, hg, hn, hc⟩ := h h0
  have hn2 : g ∉ bs2 := fun hm => by rcases h2 g hm with h | h; exact hn h; omega
  refine ⟨g, off, e, by omega, fun hm => ?_, fun j hj => ?_⟩
  · rcases hb g hm with h | h
    · exact hn h
    · omega
  · have h3 : w'.heap[g]? = w.heap[g]? := by rw [Array.getElem?_eq_getElem hg]; exact k g _ (Array.getElem?_eq_getElem hg) (fun _ _ _ _ => by simp) hn2
    rw [← hc j hj]
    simp only [World.cell?, h3]
/-- The cells of steps. -/
def StOk (w : World) (bs : List Nat) (cl : (Nat → Bool) → List Nat) (l : List En) (xs : List Value) : Prop :=
  xs.length = l.length * 2 ∧ ∀ k (h : k < l.length), ∃ a c, xs[k * 2]? = some (.slice a (cl l[k].p).length c) ∧ xs[k * 2 + 1]? = some (.int .i64 ((l[k].t : Nat) : Int)) ∧ IAn w bs a (cl l[k].p)
theorem StOk.kept {w w' : World} {bs bs' bs2 : List Nat} {cl : (Nat → Bool) → List Nat} {l : List En} {xs : List Value} (h : StOk w bs cl l xs) (k : Kept [] bs2 w w') (hs : w.heap.size ≤ w'.heap.size) (h2 : ∀ x ∈ bs2, x ∈ bs ∨ w.heap.size ≤ x) (hb : ∀ x ∈ bs', x ∈ bs ∨ w.heap.size ≤ x) : StOk w' bs' cl l xs :=
  ⟨h.1, fun i hi => by
    obtain ⟨a, c, h3, h4, h5⟩ := h.2 i hi
    exact ⟨a, c, h3, h4, h5.kept k hs h2 hb⟩⟩
/-- What a step of the making keeps. -/
structure NtF (B bn : Nat) (P P' : Nat → Prop) (w w' : World) : Prop where
  kept : ∃ bs, Kept [] bs w w' ∧ ∀ x ∈ bs, P x ∨ w.heap.size ≤ x
  new : ∀ x, P' x → P x ∨ w.heap.size ≤ x
  below : Below B w w'
theorem NtF.trans {B bn : Nat} {P P' P2 : Nat → Prop} {w w' w2 : World} (h : NtF B bn P P' w w') (k : NtF B bn P' P2 w' w2) : NtF B bn P P2 w w2 := by
  obtain ⟨b1, h1, h2⟩ := h.kept
  obtain ⟨b2, k1, k2⟩ := k.kept
  have hs := h.below.size
  refine ⟨⟨b1 ++ b2, (h1.mono (fun _ h => h) (fun x hx => List.mem_append.2 (Or.inl hx))).trans (k1.mono (fun _ h => h) (fun x hx => List.mem_append.2 (Or.inr hx))), fun x hx => ?_⟩, fun x hx => ?_, h.below.trans k.below⟩
  · rcases List.mem_append.1 hx with hx | hx
    · exact h2 x hx
    · rcases k2 x hx with h3 | h3
      · exact h.new x h3
      · exact Or.inr (by omega)
  · rcases k.new x hx with h3 | h3
    · exact h.new x h3
    · exact Or.inr (by omega)
theorem NtF.keep {B bn : Nat} {P : Nat → Prop} {w w' : World} (k : Below w.heap.size w w') (hB : B ≤ w.heap.size) : NtF B bn P P w w' :=
  ⟨⟨[], Kept.below (Kept.refl _ _ _) k, by simp⟩, fun x h => Or.inl h, k.mono hB⟩
end Go.Proofs.Ytgmcfgkjhobiaaa

namespace Go.Proofs.Ytgmcfgkjhobiaaa
open Go.RowKit Go.Maps Go.WideElems Go.ChangeMaps Go.MapKept
set_option linter.unusedVariables false
set_option linter.unusedSimpArgs false


end Go.Proofs.Ytgmcfgkjhobiaaa

namespace Go.Proofs.Ytgmcfgkjhobiaaa
open Go.RowKit Go.Maps Go.WideElems Go.ChangeMaps Go.MapKept
set_option linter.unusedVariables false
set_option linter.unusedSimpArgs false

theorem NtF.st {B bn t g : Nat} {P P' : Nat → Prop} {w w' : World} {cs : Array Value} (F : NtF B bn P P' w w') (h : St w t g cs) (hn : ¬ P g) : St w' t g cs := by
  obtain ⟨bs, k, h2⟩ := F.kept
  exact h.kept k (by simp) (fun hm => by rcases h2 g hm with h3 | h3; exact hn h3; have := h.lt; omega)
theorem NtF.map {B bn t b n : Nat} {P P' : Nat → Prop} {w w' : World} {Q : Value → Value → Prop} (F : NtF B bn P P' w w') (h : MapEx w t b n Q) (hn : ¬ P b) : MapEx w' t b n Q := by
  obtain ⟨bs, k, h2⟩ := F.kept
  exact h.kept k (fun hm => by rcases h2 b hm with h3 | h3; exact hn h3; have := h.lt; omega)
theorem NtF.own {B bn B' t s n : Nat} {P P' : Nat → Prop} {w w' : World} {v : Value} {xs : List Value} (F : NtF B bn P P' w w') (h : w.ownsRow B' t s v n xs) (hn : ∀ g, v.ownBlock = some g → ¬ P g) : w'.ownsRow B' t s v n xs := by
  obtain ⟨bs, k, h2⟩ := F.kept
  exact own_kept h k (by simp) (fun g e hm => by
    rcases h2 g hm with h3 | h3
    · exact hn g e h3
    · obtain ⟨c, fz, hc⟩ := own_kind h g e
      have := (Array.getElem?_eq_some_iff.1 hc).1; omega)
theorem NtF.ian {B bn : Nat} {P P' : Nat → Prop} {w w' : World} {a : Option Addr} {l : List Nat} (F : NtF B bn P P' w w') (h : 0 < l.length → ∃ g off, a = some ⟨g, off, none⟩ ∧ g < w.heap.size ∧ ¬ P g ∧ ∀ j (h : j < l.length), w.cell? ⟨g, off + j, none⟩ = some (.int .i64 ((l[j] : Nat) : Int))) :
    0 < l.length → ∃ g off, a = some ⟨g, off, none⟩ ∧ g < w'.heap.size ∧ ¬ P' g ∧ ∀ j (h : j < l.length), w'.cell? ⟨g, off + j, none⟩ = some (.int .i64 ((l[j] : Nat) : Int)) := by
  intro h0
  obtain ⟨g, off, e, hg, hn, hc⟩ := h h0
  obtain ⟨bs, k, h2⟩ := F.kept
  have hn2 : g ∉ bs := fun hm => by rcases h2 g hm with h | h; exact hn h; omega
  refine ⟨g, off, e, Nat.lt_of_lt_of_le hg F.below.size, fun hm => ?_, fun j hj => ?_⟩
  · rcases F.new g hm with h | h
    · exact hn h
    · omega
  · rw [k.cell9 hn2 hg]; exact hc j hj
theorem NtF.more {B bn : Nat} {P P' : Nat → Prop} {w w' : World} (F : NtF B bn P P' w w') (Z : Nat → Prop) : NtF B bn (fun x => Z x ∨ P x) (fun x => Z x ∨ P' x) w w' := by
  obtain ⟨bs, k, h2⟩ := F.kept
  exact ⟨⟨bs, k, fun x hx => (h2 x hx).elim (fun h => Or.inl (Or.inr h)) Or.inr⟩, fun x hx => hx.elim (fun h => Or.inl (Or.inl h)) (fun h => (F.new x h).elim (fun h => Or.inl (Or.inr h)) Or.inr), F.below⟩


end Go.Proofs.Ytgmcfgkjhobiaaa

namespace Go.Proofs.Ytgmcfgkjhobiaaa
open Go.RowKit Go.Maps Go.WideElems Go.ChangeMaps Go.MapKept
set_option linter.unusedVariables false
set_option linter.unusedSimpArgs false
set_option maxRecDepth 100000

/-! ### A map by sets -/
end Go.Proofs.Ytgmcfgkjhobiaaa

namespace Go.Proofs.Ytgmcfgkjhobiaaa
open Go.RowKit Go.Maps Go.WideElems Go.ChangeMaps Go.MapKept
set_option linter.unusedVariables false
set_option linter.unusedSimpArgs false

theorem zero_ints9 (w : World) : (zeroValue 24).run Try.prog w = .ok (.slice none 0 0) w := by kernel_rfl
/-- Numbers in a block that no one changes. -/
def IAp (w : World) (P : Nat → Prop) (a : Option Addr) (l : List Nat) : Prop := 0 < l.length → ∃ g off, a = some ⟨g, off, none⟩ ∧ g < w.heap.size ∧ ¬ P g ∧ ∀ j (h : j < l.length), w.cell? ⟨g, off + j, none⟩ = some (.int .i64 ((l[j] : Nat) : Int))

end Go.Proofs.Ytgmcfgkjhobiaaa

namespace Go.Proofs.Ytgmcfgkjhobiaaa
open Go.RowKit Go.Maps Go.WideElems Go.ChangeMaps Go.MapKept
set_option linter.unusedVariables false
set_option linter.unusedSimpArgs false

/-- The cells of steps, whose lists no one changes. -/
def StP (w : World) (P : Nat → Prop) (cl : (Nat → Bool) → List Nat) (l : List En) (xs : List Value) : Prop :=
  xs.length = l.length * 2 ∧ ∀ k (h : k < l.length), ∃ a c, xs[k * 2]? = some (.slice a (cl l[k].p).length c) ∧ xs[k * 2 + 1]? = some (.int .i64 ((l[k].t : Nat) : Int)) ∧ IAp w P a (cl l[k].p)
theorem StP.nil (w : World) (P : Nat → Prop) (cl : (Nat → Bool) → List Nat) : StP w P cl [] [] := ⟨rfl, fun k h => by simp at h⟩
theorem StP.frame {B bn : Nat} {w w' : World} {P P' : Nat → Prop} {cl : (Nat → Bool) → List Nat} {l : List En} {xs : List Value} (h : StP w P cl l xs) (F : NtF B bn P P' w w') : StP w' P' cl l xs :=
  ⟨h.1, fun k hk => by
    obtain ⟨a, c, h1, h2, h3⟩ := h.2 k hk
    exact ⟨a, c, h1, h2, F.ian h3⟩⟩
end Go.Proofs.Ytgmcfgkjhobiaaa

namespace Go.Proofs.Ytgmcfgkjhobiaaa
open Go.RowKit Go.Maps Go.WideElems Go.ChangeMaps Go.MapKept
set_option linter.unusedVariables false
set_option linter.unusedSimpArgs false

/-- Cells are put into others. -/
def putAt (cells vs : Array Value) (off : Nat) : Array Value := vs.zipIdx.foldl (fun cs (c, j) => cs.setIfInBounds (off + j) c) cells
theorem putL (l : List Value) (off : Nat) : ∀ (k : Nat) (cells : Array Value), ((l.zipIdx k).foldl (fun (cs : Array Value) (x : Value × Nat) => cs.setIfInBounds (off + x.2) x.1) cells).size = cells.size ∧
    ∀ i, ((l.zipIdx k).foldl (fun (cs : Array Value) (x : Value × Nat) => cs.setIfInBounds (off + x.2) x.1) cells)[i]? = if off + k ≤ i ∧ i < off + k + l.length ∧ i < cells.size then l[i - (off + k)]? else cells[i]? := by
  induction l with
  | nil => intro k cells; exact ⟨rfl, fun i => by rw [if_neg (by simp; omega)]; rfl⟩
  | cons v l ih =>
    intro k cells
    rw [List.zipIdx_cons, List.foldl_cons]
    obtain ⟨h1, h2⟩ := ih (k + 1) (cells.setIfInBounds (off + k) v)
    refine ⟨by rw [h1]; simp, fun i => ?_⟩
    rw [h2 i, Array.size_setIfInBounds]
    by_cases e : i = off + k
    · subst e
      rw [if_neg (by omega)]
      by_cases hlt : off + k < cells.size
      · rw [if_pos ⟨Nat.le_refl _, by simp, hlt⟩, Array.getElem?_setIfInBounds_self_of_lt hlt]
        simp
      · rw [if_neg (by omega), Array.getElem?_eq_none_iff.2 (by simp; omega), Array.getElem?_eq_none_iff.2 (by omega)]
    · by_cases hc : off + (k + 1) ≤ i ∧ i < off + (k + 1) + l.length ∧ i < cells.size
      · rw [if_pos hc, if_pos ⟨by omega, by simp; omega, hc.2.2⟩]
        have : i - (off + k) = (i - (off + (k + 1))) + 1 := by omega
        rw [this, List.getElem?_cons_succ]
      · rw [if_neg hc, Array.getElem?_setIfInBounds_ne (by omega)]
        rw [if_neg (by simp only [List.length_cons]; omega)]
theorem putAt_get (cells vs : Array Value) (off : Nat) (h : off + vs.size ≤ cells.size) : (putAt cells vs off).size = cells.size ∧ ∀ i, (putAt cells vs off)[i]? = if off ≤ i ∧ i < off + vs.size then vs[i - off]? else cells[i]? := by
  have e : putAt cells vs off = (vs.toList.zipIdx 0).foldl (fun (cs : Array Value) (x : Value × Nat) => cs.setIfInBounds (off + x.2) x.1) cells := by
    unfold putAt
    rw [← Array.foldl_toList, Array.toList_zipIdx]
  obtain ⟨h1, h2⟩ := putL vs.toList off 0 cells
  rw [e]
  refine ⟨h1, fun i => ?_⟩
  rw [h2 i, Nat.add_zero]
  by_cases hc : off ≤ i ∧ i < off + vs.size
  · rw [if_pos hc, if_pos ⟨hc.1, by simpa using hc.2, by omega⟩, Array.getElem?_toList]
  · rw [if_neg hc, if_neg (fun h3 => hc ⟨h3.1, by simpa using h3.2.1⟩)]
theorem fill_put (place : Nat → Option (Nat × Nat)) (cells : Array Value) (i off size : Nat) (v : Value) (rest : List (Nat × Value)) (hp : place i = some (off, size)) (hv : v.cells.size = size) (hs : off + size ≤ cells.size) :
    Instr.fill place cells ((i, v) :: rest) = Instr.fill place (putAt cells v.cells off) rest := by
  rw [Instr.fill, hp]
  simp only [hv]
  rw [if_neg (by simp; omega)]
  rfl
/-- The zero of a type, in cells. -/
noncomputable def zC (t : TypeId) : Array Value := match Try.prog.info? t with
  | some it => match it.zero with | some z => z.cells | none => #[]
  | none => #[]
theorem zDfa_size : (zC 26).size = 258 := by kernel_rfl
theorem zDfa_tail : (zC 26)[256]? = some (.slice none 0 0) ∧ (zC 26)[257]? = some (.slice none 0 0) := ⟨by kernel_rfl, by kernel_rfl⟩
/-- A value is built, by a law of one's own. -/
theorem wpList_build9 {P : Program} {ops : Array Oper} {rest : List Oper} {o : Oper} {a : Act} {w : World} {Q : Exit → Act → World → Prop} (hgd : o.guard = none) (t : TypeId) (parts : Array (Nat × Operand)) (ho : o.op = .build t parts) (ps : Array (Nat × Value)) (hp : (parts.map fun (i, x) => (i, a.eval x)) = ps) (v : Value)
    (hb : (Instr.build t ps).run P w = .ok v w) (h : wpList P ops Q rest (a.put o.dst v) w) : wpList P ops Q (o :: rest) a w :=
  wpList_plain hgd fun _ hK => by
    unfold Oper.wp execOp
    simp only [ho, hp, Sem.run_bind, hb, Result.andThen_ok]
    exact hK _ _ h
end Go.Proofs.Ytgmcfgkjhobiaaa

namespace Go.Proofs.Ytgmcfgkjhobiaaa
open Go.RowKit
set_option linter.unusedVariables false

/-- The sets of the edges that are not free. -/
def setsOf (L : List Eg) : List (Nat → Bool) := (L.filter fun e => !e.b).map (·.p)

end Go.Proofs.Ytgmcfgkjhobiaaa

namespace Go.Proofs.Ytgmcfgkjhobiaaa
open Go.RowKit Go.Maps

/-- Do the first i sets hold both or neither? -/
def same (s : Nat → Nat → Bool) (b c : Nat) : Nat → Bool
  | 0 => true
  | i + 1 => same s b c i && (s i b == s i c)

end Go.Proofs.Ytgmcfgkjhobiaaa
