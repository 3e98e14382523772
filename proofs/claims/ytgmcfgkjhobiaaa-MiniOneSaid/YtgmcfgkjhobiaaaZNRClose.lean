import Derived.Test.YtgmcfgkjhobiaaaZClasses
import Derived.Test.YtgmcfgkjhobiaaaZNNew
import Derived.Deep.RegionWith
import Derived.Deep.AppendLies
import Derived.Laws.CopyOwn
namespace Go.Proofs.Ytgmcfgkjhobiaaa
set_option linter.unusedVariables false

/-- A machine: its states, its first, its last, its edges. -/
structure NF where
  N : Nat
  F : Nat
  T : Nat
  L : List En
def NF.ok (m : NF) : Prop := Ok m.L m.N m.F m.T
/-- An edge moved. -/
def En.by (o : Nat) (e : En) : En := ⟨e.f + o, e.t + o, e.p, e.b⟩
/-- A free edge. -/
def fre (f t : Nat) : En := ⟨f, t, fun _ => false, true⟩
/-- A machine lies in a list of edges at p. -/
structure Seg (E : List En) (p : Nat) (m : NF) : Prop where
  pos : 1 ≤ p
  zero : ∀ e ∈ E, 1 ≤ e.t
  frm : ∀ e ∈ E, p ≤ e.t → e.t < p + m.N → e = fre 0 (p + m.F) ∨ ∃ e' ∈ m.L, e = e'.by p
  free : fre 0 (p + m.F) ∈ E
  all : ∀ e' ∈ m.L, e'.by p ∈ E
theorem Seg.fr0 {E : List En} {p : Nat} {m : NF} (h : Seg E p m) {A : Nat → Prop} (k : FR E A 0) : A 0 := by
  have : ∀ y, FR E A y → y = 0 → A 0 := by
    intro y k
    induction k with
    | base ha => intro e; subst e; exact ha
    | step e _ h1 h2 h3 h4 ih =>
      intro e0
      have := h.zero e h1
      omega
  exact this 0 k rfl
theorem Seg.fr {E : List En} {p : Nat} {m : NF} (h : Seg E p m) (hm : m.ok) {A : Nat → Prop} {q : Nat} (hq : q < m.N) : FR E A (p + q) ↔ FR m.L (fun q => q < m.N ∧ (A (p + q) ∨ (A 0 ∧ q = m.F))) q := by
  constructor
  · have : ∀ y, FR E A y → ∀ q, q < m.N → y = p + q → FR m.L (fun q => q < m.N ∧ (A (p + q) ∨ (A 0 ∧ q = m.F))) q := by
      intro y k
      induction k with
      | base ha => intro q hq e; subst e; exact .base ⟨hq, Or.inl ha⟩
      | step e k0 h1 h2 h3 h4 ih =>
        intro q hq e0
        rcases h.frm e h1 (by omega) (by omega) with rfl | ⟨e', he', rfl⟩
        · have e1 : 0 = _ := h3
          have e2 : p + m.F = _ := h4
          subst e1
          exact .base ⟨hq, Or.inr ⟨h.fr0 k0, by omega⟩⟩
        · have e1 : e'.f + p = _ := h3
          have e2 : e'.t + p = _ := h4
          exact .step e' (ih e'.f (hm.e e' he').1 (by omega)) he' h2 rfl (by omega)
    exact fun k => this _ k q hq rfl
  · intro k
    clear hq
    induction k with
    | base ha =>
      rcases ha.2 with h1 | ⟨h1, rfl⟩
      · exact .base h1
      · exact .step (fre 0 (p + m.F)) (.base h1) h.free rfl rfl rfl
    | step e _ h1 h2 h3 h4 ih =>
      subst h3 h4
      exact .step (e.by p) ih (h.all e h1) h2 (Nat.add_comm _ _) (Nat.add_comm _ _)
theorem Seg.mv {E : List En} {p : Nat} {m : NF} (h : Seg E p m) (hm : m.ok) {A B : Nat → Prop} (hAB : ∀ q, q < m.N → (A (p + q) ↔ B q)) {c q : Nat} (hq : q < m.N) : Mv E A c (p + q) ↔ Mv m.L B c q := by
  constructor
  · rintro ⟨e, h1, h2, h3, h4, h5⟩
    rcases h.frm e h1 (by omega) (by omega) with rfl | ⟨e', he', rfl⟩
    · cases h2
    · have e2 : e'.t + p = _ := h5
      refine ⟨e', he', h2, h3, (hAB _ (hm.e e' he').1).1 ?_, by omega⟩
      rw [Nat.add_comm]; exact h4
  · rintro ⟨e, h1, h2, h3, h4, h5⟩
    subst h5
    refine ⟨e.by p, h.all e h1, h2, h3, ?_, Nat.add_comm _ _⟩
    have := (hAB _ (hm.e e h1).1).2 h4
    rwa [Nat.add_comm] at this
/-- What is reached of a machine in a union is what is reached of it alone. -/
theorem Seg.run {E : List En} {p : Nat} {m : NF} (h : Seg E p m) (hm : m.ok) (z : Nat → Nat) (k : Nat) : ∀ q, q < m.N → (RunP E 0 z k (p + q) ↔ RunP m.L m.F z k q) := by
  induction k with
  | zero =>
    intro q hq
    have hp := h.pos
    have hf := hm.f
    rw [RunP, h.fr hm hq]
    exact FR.congr (fun x => ⟨fun ⟨h1, h2⟩ => by omega, fun h1 => ⟨by omega, Or.inr ⟨rfl, h1⟩⟩⟩) q
  | succ k ih =>
    intro q hq
    rw [RunP, h.fr hm hq]
    refine FR.congr (fun x => ?_) q
    constructor
    · rintro ⟨h1, h2 | ⟨⟨e, h3, h4, h5, h6, h7⟩, _⟩⟩
      · exact (h.mv hm ih h1).1 h2
      · have := h.zero e h3
        omega
    · intro h1
      have hx := Mv.lt (fun e he => (hm.e e he).2) h1
      exact ⟨hx, Or.inl ((h.mv hm ih hx).2 h1)⟩
end Go.Proofs.Ytgmcfgkjhobiaaa

namespace Go.Proofs.Ytgmcfgkjhobiaaa
open Go.RowKit Go.Maps Go.WideElems Go.ChangeMaps Go.MapKept
set_option linter.unusedVariables false

theorem NumAt.start (w : World) (B : Nat) (hB : B ≤ w.heap.size) : NumAt (((w.alloc (.cells #[.slice none 0 0] 24)).alloc (.map #[] 0)).alloc (.cells #[.map (some (w.heap.size + 1))] 77)) B (w.heap.size + 2) w.heap.size (w.heap.size + 1) (.slice none 0 0) [] := by
  refine ⟨?_, ?_, World.ownsRow_nil _ _ _ _, ?_, List.nodup_nil, by simp, by omega, by omega⟩
  · have := St.new ((w.alloc (.cells #[.slice none 0 0] 24)).alloc (.map #[] 0)) 77 #[.map (some (w.heap.size + 1))]
    simpa using this
  · exact ((St.new w _ _).alloc _).alloc _
  · have h1 : MapEx ((w.alloc (.cells #[.slice none 0 0] 24)).alloc (.map #[] 0)) 3 (w.heap.size + 1) 0 (NmQ []) := by
      have := MapEx.made (w.alloc (.cells #[.slice none 0 0] 24)) 3 (NmQ []) (fun x y ⟨k, s, h, _⟩ => by simp at h)
      simpa using this
    exact h1.same (Below.heap_alloc _ _ _ h1.lt)

theorem num_far {w wr : World} {B bMv bN bM : Nat} {vN : Value} {nm : List Nat} (h : NumAt wr B bMv bN bM vN nm) {t b : Nat} {cs : Array Value} (hs : St wr t b cs) (ht : t ≠ 24) : b ∉ [bM, bN] := by
  intro hm
  simp only [List.mem_cons, List.not_mem_nil, or_false] at hm
  rcases hm with rfl | rfl
  · obtain ⟨es, clock, he, _⟩ := h.map
    have h2 : wr.heap[_]? = _ := hs
    rw [h2] at he
    cases he
  · exact absurd rfl (hs.ne h.sN ht)
theorem St.num {w wr w1 : World} {B bMv bN bM : Nat} {vN : Value} {nm : List Nat} {t b : Nat} {cs : Array Value} (hs : St wr t b cs) (h : NumAt wr B bMv bN bM vN nm) (hk : Kept [3] [bM, bN] wr w1) (ht : t ≠ 24) (ht2 : t ≠ 3) : St w1 t b cs :=
  hs.kept hk (by simpa using ht2) (num_far h (w := w) hs ht)

theorem NumAt.set {wr : World} {B bMv bN bM : Nat} {vN : Value} {nm : List Nat} (h : NumAt wr B bMv bN bM vN nm) {t b : Nat} {cs : Array Value} (hs : St wr t b cs) (h1 : t ≠ 24) (h2 : t ≠ 3) (h3 : t ≠ 77) (i : Nat) (u : Value) : NumAt (wr.setCell ⟨b, i, none⟩ u) B bMv bN bM vN nm :=
  ⟨h.sM.set_far hs (Ne.symm h3) i u, h.sN.set_far hs (Ne.symm h1) i u, own_set h.own hs (Ne.symm h2) i u, h.map.set hs, h.nd, h.le, h.bM, h.bN⟩
/-- A state that is named. -/
def Src (L : List En) (F T x : Nat) : Prop := x = F ∨ x = T ∨ ∃ e ∈ L, e.f = x ∨ e.t = x

end Go.Proofs.Ytgmcfgkjhobiaaa

namespace Go.Proofs.Ytgmcfgkjhobiaaa
open Go.RowKit
set_option linter.unusedVariables false
set_option linter.unusedSimpArgs false


/-- A row that fills its block. -/
theorem own_full {w : World} {base e g n size : Nat} {xs : List Value} (h : w.ownsRow base e size (.slice (some ⟨g, 0, none⟩) n n) n xs) : w.heap[g]? = some (.cells xs.toArray e (0, 0)) ∧ base ≤ g ∧ n ≤ maxLen ∧ xs.length = n * size := by
  rcases h.2 with ⟨h1, _⟩ | ⟨g', cap, cur, h1, h2, h3, h4, h5, h6, h7⟩
  · cases h1
  · injection h1 with e1 _ e3
    injection e1 with e1
    injection e1 with e1
    subst e1 e3
    have e : cur = xs.toArray := by
      apply Array.toList_inj.1
      rw [← h7, List.take_of_length_le (by simp [h6])]
    subst e
    exact ⟨h3, h2, h5, by simpa using h6⟩
/-- A cell of a row turns. -/
theorem own_putn {w : World} {base e g n c size : Nat} {xs : List Value} (h : w.ownsRow base e size (.slice (some ⟨g, 0, none⟩) n c) n xs) (j : Nat) (hj : j < n * size) (u : Value) : (w.setCell ⟨g, j, none⟩ u).ownsRow base e size (.slice (some ⟨g, 0, none⟩) n c) n (xs.set j u) := by
  refine ⟨by rw [List.length_set]; exact h.1, ?_⟩
  rcases h.2 with ⟨h1, _⟩ | ⟨g', cap, cur, h1, h2, h3, h4, h5, h6, h7⟩
  · cases h1
  · injection h1 with e1 _ e3
    injection e1 with e1
    injection e1 with e1
    subst e1 e3
    refine Or.inr ⟨g, c, cur.setIfInBounds j u, rfl, h2, heap_setCell_same w g j cur e u h3, h4, h5, by simpa using h6, ?_⟩
    rw [Array.toList_setIfInBounds, ← h7]
    rw [List.take_set]
end Go.Proofs.Ytgmcfgkjhobiaaa

namespace Go.Proofs.Ytgmcfgkjhobiaaa
open Go.RowKit Go.Maps Go.WideElems Go.ChangeMaps Go.MapKept
set_option linter.unusedVariables false
set_option linter.unusedSimpArgs false



end Go.Proofs.Ytgmcfgkjhobiaaa

namespace Go.Proofs.Ytgmcfgkjhobiaaa
open Go.RowKit Go.Maps Go.WideElems Go.ChangeMaps Go.MapKept
set_option linter.unusedVariables false
set_option linter.unusedSimpArgs false

/-- The least mark of some states; -1: they have none. -/
def Least (mk : Nat → Int) (S : Nat → Prop) (r : Int) : Prop :=
  (r = -1 ∧ ∀ x, S x → mk x = -1) ∨ (0 ≤ r ∧ (∃ x, S x ∧ mk x = r) ∧ ∀ x, S x → mk x = -1 ∨ r ≤ mk x)
theorem Least.congr {mk : Nat → Int} {S S' : Nat → Prop} {r : Int} (h : Least mk S r) (e : ∀ x, S x ↔ S' x) : Least mk S' r := by
  rcases h with ⟨h1, h2⟩ | ⟨h1, ⟨x, hx, h2⟩, h3⟩
  · exact Or.inl ⟨h1, fun x hx => h2 x ((e x).2 hx)⟩
  · exact Or.inr ⟨h1, ⟨x, (e x).1 hx, h2⟩, fun x hx => h3 x ((e x).2 hx)⟩
theorem Least.none (mk : Nat → Int) : Least mk (fun x => x ∈ ([] : List Nat)) (-1) := Or.inl ⟨rfl, fun x hx => by simp at hx⟩
theorem Least.uniq {mk : Nat → Int} {S : Nat → Prop} {r r' : Int} (h : Least mk S r) (h' : Least mk S r') : r = r' := by
  rcases h with ⟨h1, h2⟩ | ⟨h1, ⟨x, hx, h2⟩, h3⟩ <;> rcases h' with ⟨g1, g2⟩ | ⟨g1, ⟨y, hy, g2⟩, g3⟩
  · omega
  · have := h2 y hy; omega
  · have := g2 x hx; omega
  · have := h3 y hy; have := g3 x hx; omega
theorem Least.skip {mk : Nat → Int} {l : List Nat} {r : Int} {x : Nat} (h : Least mk (fun y => y ∈ l) r) (hx : mk x = -1 ∨ (r ≠ -1 ∧ r ≤ mk x)) : Least mk (fun y => y ∈ l ++ [x]) r := by
  rcases h with ⟨h1, h2⟩ | ⟨h1, ⟨y, hy, h2⟩, h3⟩
  · refine Or.inl ⟨h1, fun y hy => ?_⟩
    rcases List.mem_append.1 hy with hy | hy
    · exact h2 y hy
    · rw [List.mem_singleton.1 hy]; omega
  · refine Or.inr ⟨h1, ⟨y, List.mem_append.2 (Or.inl hy), h2⟩, fun z hz => ?_⟩
    rcases List.mem_append.1 hz with hz | hz
    · exact h3 z hz
    · rw [List.mem_singleton.1 hz]; omega
theorem Least.take {mk : Nat → Int} {l : List Nat} {r : Int} {x : Nat} (h : Least mk (fun y => y ∈ l) r) (h0 : 0 ≤ mk x) (hx : r = -1 ∨ mk x ≤ r) : Least mk (fun y => y ∈ l ++ [x]) (mk x) := by
  refine Or.inr ⟨h0, ⟨x, by simp, rfl⟩, fun z hz => ?_⟩
  rcases List.mem_append.1 hz with hz | hz
  · rcases h with ⟨h1, h2⟩ | ⟨h1, _, h3⟩
    · exact Or.inl (h2 z hz)
    · rcases h3 z hz with h | h
      · exact Or.inl h
      · exact Or.inr (by omega)
  · rw [List.mem_singleton.1 hz]; exact Or.inr (Int.le_refl _)
/-- A net's marks, by the states. -/
structure NetMk (w : World) (B bn gM M cM : Nat) (mk : Nat → Int) : Prop where
  blk : bn < B ∧ gM < B
  fld : w.cell? ⟨bn, 257, none⟩ = some (.slice (some ⟨gM, 0, none⟩) M cM)
  at_ : ∀ i, i < M → w.cell? ⟨gM, i, none⟩ = some (.int .i64 (mk i))
theorem NetMk.below {w w' : World} {B bn gM M cM : Nat} {mk : Nat → Int} (h : NetMk w B bn gM M cM mk) (k : Below B w w') : NetMk w' B bn gM M cM mk :=
  ⟨h.blk, (k.cell (p := ⟨bn, 257, none⟩) h.blk.1).trans h.fld, fun i hi => (k.cell (p := ⟨gM, i, none⟩) h.blk.2).trans (h.at_ i hi)⟩

end Go.Proofs.Ytgmcfgkjhobiaaa

namespace Go.Proofs.Ytgmcfgkjhobiaaa
open Go.RowKit
set_option linter.unusedVariables false

/-- In a round of Close's: has it found one? -/
def Found (L : List En) (A : Nat → Prop) (N k : Nat) (f : Nat → Bool) (i : Nat) (ch : Bool) : Prop :=
  (ch = false ∧ Gat L A N k f ∧ ∀ j (h : j < L.length), j < i → Still f L[j]) ∨ (ch = true ∧ Gat L A N (k + 1) f)
theorem Found.skip {L : List En} {A : Nat → Prop} {N k : Nat} {f : Nat → Bool} {i : Nat} {ch : Bool} (h : Found L A N k f i ch) (hi : i < L.length) (hs : Still f L[i]) : Found L A N k f (i + 1) ch := by
  rcases h with ⟨h1, h2, h3⟩ | h
  · refine Or.inl ⟨h1, h2, fun j hj hji => ?_⟩
    by_cases e : j = i
    · subst e; exact hs
    · exact h3 j hj (by omega)
  · exact Or.inr h
theorem Found.add {L : List En} {A : Nat → Prop} {N k : Nat} {f : Nat → Bool} {i : Nat} {ch : Bool} (h : Found L A N k f i ch) {e : En} (he : e ∈ L) (hb : e.b = true) (hf : f e.f = true) (ht : f e.t = false) (hN : e.t < N) : Found L A N k (ins f e.t) (i + 1) true := by
  rcases h with ⟨h1, h2, h3⟩ | ⟨_, h⟩
  · exact Or.inr ⟨rfl, h2.add he hb hf ht hN⟩
  · exact Or.inr ⟨rfl, (h.add he hb hf ht hN).mono (by omega)⟩

end Go.Proofs.Ytgmcfgkjhobiaaa
