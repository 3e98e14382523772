import Derived.Test.YtgmcfgkjhobiaaaChecked
import Derived.Laws.Bits64b
import Derived.Laws.BitsAllLaws
import Derived.WalkKit
import Derived.WalkLawsBesides
import Derived.WalkSpells
import Derived.Outline
import Derived.Below
import Derived.Lib.Hide
import Derived.RegionTactic
import Derived.Laws.Rows
namespace Go.Proofs.Ytgmcfgkjhobiaaa

/-- The first n bits of word j of a set of numbers. -/
def wdUp (p : Nat → Bool) (j : Nat) : Nat → Nat
  | 0 => 0
  | n + 1 => wdUp p j n + if p (64 * j + n) then 2 ^ n else 0
/-- Word j of a set of numbers. -/
def wd (p : Nat → Bool) (j : Nat) : Nat := wdUp p j 64

/-- One more number. -/
def ins (p : Nat → Bool) (b : Nat) : Nat → Bool := fun x => p x || x == b

/-- The numbers below k of a set. -/
def upTo (p : Nat → Bool) (k : Nat) : Nat → Bool := fun x => decide (x < k) && p x
end Go.Proofs.Ytgmcfgkjhobiaaa

namespace Go.Proofs.Ytgmcfgkjhobiaaa
open Go.RowKit


end Go.Proofs.Ytgmcfgkjhobiaaa

namespace Go.Proofs.Ytgmcfgkjhobiaaa
open Go.RowKit

/-- Block g is cells cs of type t. -/
def St (w : World) (t g : Nat) (cs : Array Value) : Prop := w.heap[g]? = some (.cells cs t (0, 0))
theorem St.lt {w : World} {t g : Nat} {cs : Array Value} (h : St w t g cs) : g < w.heap.size := (Array.getElem?_eq_some_iff.1 h).1
theorem St.set {w : World} {t g : Nat} {cs : Array Value} (h : St w t g cs) (i : Nat) (u : Value) : St (w.setCell ⟨g, i, none⟩ u) t g (cs.setIfInBounds i u) := heap_setCell_same w g i cs t u h
theorem St.far {w : World} {t g : Nat} {cs : Array Value} (h : St w t g cs) {p : Addr} (hp : g ≠ p.block) (u : Value) : St (w.setCell p u) t g cs := (Below.heap_setCell w p u g hp).trans h
theorem St.below {w w' : World} {t g B : Nat} {cs : Array Value} (h : St w t g cs) (k : Below B w w') (hg : g < B) : St w' t g cs := (k.block g hg).trans h
theorem St.keep {w w' : World} {t g : Nat} {cs : Array Value} (h : St w t g cs) (k : Below w.heap.size w w') : St w' t g cs := h.below k h.lt
theorem St.drew {w : World} {t g : Nat} {cs : Array Value} (h : St w t g cs) : St w.drew t g cs := h
theorem St.new (w : World) (t : Nat) (cs : Array Value) : St (w.alloc (.cells cs t)) t w.heap.size cs := by
  show (w.heap.push _)[w.heap.size]? = _
  rw [Array.getElem?_push, if_pos rfl]
theorem St.alloc {w : World} {t g : Nat} {cs : Array Value} (h : St w t g cs) (o : Obj) : St (w.alloc o) t g cs := (Below.heap_alloc w o g h.lt).trans h
theorem row4 {w : World} {g : Nat} {c0 c1 c2 c3 : Value} {t : TypeId} (h : St w t g #[c0, c1, c2, c3]) :
    w.cell? ⟨g, 0, none⟩ = some c0 ∧ w.cell? ⟨g, 1, none⟩ = some c1 ∧ w.cell? ⟨g, 2, none⟩ = some c2 ∧ w.cell? ⟨g, 3, none⟩ = some c3 ∧
    w.frozen? ⟨g, 0, none⟩ = false ∧ w.frozen? ⟨g, 1, none⟩ = false ∧ w.frozen? ⟨g, 2, none⟩ = false ∧ w.frozen? ⟨g, 3, none⟩ = false := by
  have h : w.heap[g]? = some (.cells #[c0, c1, c2, c3] t (0, 0)) := h
  refine ⟨?_, ?_, ?_, ?_, frozen_of_row w g 0 _ _ h, frozen_of_row w g 1 _ _ h, frozen_of_row w g 2 _ _ h, frozen_of_row w g 3 _ _ h⟩ <;> (rw [cell_of_row w g _ _ _ _ h]; rfl)



end Go.Proofs.Ytgmcfgkjhobiaaa

namespace Go.Proofs.Ytgmcfgkjhobiaaa
set_option linter.unusedVariables false

/-- An edge between states: from, to, its bytes, is it free. -/
structure En where
  f : Nat
  t : Nat
  p : Nat → Bool
  b : Bool
/-- What is reached by free edges. -/
inductive FR (L : List En) (A : Nat → Prop) : Nat → Prop
  | base {x : Nat} : A x → FR L A x
  | step {x y : Nat} (e : En) : FR L A x → e ∈ L → e.b = true → e.f = x → e.t = y → FR L A y
/-- What is reached by a byte. -/
def Mv (L : List En) (A : Nat → Prop) (c : Nat) (y : Nat) : Prop := ∃ e ∈ L, e.b = false ∧ e.p c = true ∧ A e.f ∧ e.t = y
/-- .. by a text. -/
def RunP (L : List En) (f : Nat) (z : Nat → Nat) : Nat → Nat → Prop
  | 0 => FR L (fun x => x = f)
  | k + 1 => FR L (Mv L (RunP L f z k) (z k))
theorem FR.mono {L : List En} {A B : Nat → Prop} (h : ∀ x, A x → B x) {y : Nat} (k : FR L A y) : FR L B y := by
  induction k with
  | base ha => exact .base (h _ ha)
  | step e _ h1 h2 h3 h4 ih => exact .step e ih h1 h2 h3 h4
theorem FR.congr {L : List En} {A B : Nat → Prop} (h : ∀ x, A x ↔ B x) (y : Nat) : FR L A y ↔ FR L B y :=
  ⟨FR.mono fun x => (h x).1, FR.mono fun x => (h x).2⟩
theorem FR.within {L : List En} {A C : Nat → Prop} (h : ∀ x, A x → C x) (hc : ∀ e ∈ L, e.b = true → C e.f → C e.t) {y : Nat} (k : FR L A y) : C y := by
  induction k with
  | base ha => exact h _ ha
  | step e _ h1 h2 h3 h4 ih => subst h3 h4; exact hc e h1 h2 ih
theorem FR.lt {L : List En} {A : Nat → Prop} {N : Nat} (h : ∀ x, A x → x < N) (hL : ∀ e ∈ L, e.t < N) {y : Nat} (k : FR L A y) : y < N :=
  FR.within (C := fun x => x < N) h (fun e he _ _ => hL e he) k
theorem Mv.congr {L : List En} {A B : Nat → Prop} (h : ∀ x, A x ↔ B x) (c y : Nat) : Mv L A c y ↔ Mv L B c y :=
  ⟨fun ⟨e, a, b, d, f, g⟩ => ⟨e, a, b, d, (h _).1 f, g⟩, fun ⟨e, a, b, d, f, g⟩ => ⟨e, a, b, d, (h _).2 f, g⟩⟩
theorem Mv.lt {L : List En} {A : Nat → Prop} {N : Nat} (hL : ∀ e ∈ L, e.t < N) {c y : Nat} (k : Mv L A c y) : y < N := by
  obtain ⟨e, h, _, _, _, rfl⟩ := k
  exact hL e h
theorem RunP.lt {L : List En} {f N : Nat} {z : Nat → Nat} (hf : f < N) (hL : ∀ e ∈ L, e.t < N) (k : Nat) {y : Nat} (h : RunP L f z k y) : y < N := by
  cases k with
  | zero => exact FR.lt (fun x hx => by omega) hL h
  | succ k => exact FR.lt (fun x hx => Mv.lt hL hx) hL h

/-! ### New names -/
/-- An edge by the names of its states. -/
def En.ren (nm : List Nat) (e : En) : En := ⟨nm.getD e.f 0, nm.getD e.t 0, e.p, e.b⟩
/-- A is what A' is by names. -/
def Nam (nm : List Nat) (A' A : Nat → Prop) : Prop := (∀ i, A' i → i < nm.length) ∧ ∀ x, A x ↔ ∃ i, A' i ∧ nm.getD i 0 = x
theorem nd_inj {nm : List Nat} (h : nm.Nodup) {i j : Nat} (hi : i < nm.length) (hj : j < nm.length) (e : nm.getD i 0 = nm.getD j 0) : i = j := by
  rw [List.getD_eq_getElem?_getD, List.getD_eq_getElem?_getD, List.getElem?_eq_getElem hi, List.getElem?_eq_getElem hj] at e
  simp only [Option.getD_some] at e
  rcases Nat.lt_trichotomy i j with k | k | k
  · exact absurd e (List.pairwise_iff_getElem.1 h i j hi hj k)
  · exact k
  · exact absurd e.symm (List.pairwise_iff_getElem.1 h j i hj hi k)
theorem Nam.fr {nm : List Nat} (hn : nm.Nodup) {L' : List En} (hL : ∀ e ∈ L', e.f < nm.length ∧ e.t < nm.length) {A' A : Nat → Prop} (h : Nam nm A' A) : Nam nm (FR L' A') (FR (L'.map (En.ren nm)) A) := by
  refine ⟨fun i hi => FR.lt h.1 (fun e he => (hL e he).2) hi, fun x => ⟨fun k => ?_, ?_⟩⟩
  · induction k with
    | base ha => obtain ⟨i, h2, h3⟩ := (h.2 _).1 ha; exact ⟨i, .base h2, h3⟩
    | step e _ h1 h2 h3 h4 ih =>
      obtain ⟨e', he', rfl⟩ := List.mem_map.1 h1
      obtain ⟨i, g2, g3⟩ := ih
      have hb := hL e' he'
      have e1 : e'.f = i := nd_inj hn hb.1 (FR.lt h.1 (fun e he => (hL e he).2) g2) (by rw [g3]; exact h3)
      exact ⟨e'.t, .step e' g2 he' h2 e1 rfl, h4⟩
  · rintro ⟨i, h2, rfl⟩
    induction h2 with
    | base ha => exact .base ((h.2 _).2 ⟨_, ha, rfl⟩)
    | step e _ h1 h2 h3 h4 ih => exact .step (e.ren nm) ih (List.mem_map.2 ⟨e, h1, rfl⟩) h2 (by rw [← h3]; rfl) (by rw [← h4]; rfl)
theorem Nam.mv {nm : List Nat} (hn : nm.Nodup) {L' : List En} (hL : ∀ e ∈ L', e.f < nm.length ∧ e.t < nm.length) {A' A : Nat → Prop} (h : Nam nm A' A) (c : Nat) : Nam nm (Mv L' A' c) (Mv (L'.map (En.ren nm)) A c) := by
  refine ⟨fun i hi => Mv.lt (fun e he => (hL e he).2) hi, fun x => ⟨?_, ?_⟩⟩
  · rintro ⟨e, h1, h2, h3, h4, rfl⟩
    obtain ⟨e', he', rfl⟩ := List.mem_map.1 h1
    obtain ⟨i, g2, g3⟩ := (h.2 _).1 h4
    have e1 : e'.f = i := nd_inj hn (hL e' he').1 (h.1 _ g2) (by rw [g3]; rfl)
    exact ⟨e'.t, ⟨e', he', h2, h3, by rw [e1]; exact g2, rfl⟩, rfl⟩
  · rintro ⟨i, ⟨e, h1, h2, h3, h4, rfl⟩, rfl⟩
    exact ⟨e.ren nm, List.mem_map.2 ⟨e, h1, rfl⟩, h2, h3, (h.2 _).2 ⟨_, h4, rfl⟩, rfl⟩
theorem Nam.run {nm : List Nat} (hn : nm.Nodup) {L' : List En} (hL : ∀ e ∈ L', e.f < nm.length ∧ e.t < nm.length) {f : Nat} (hf : f < nm.length) (z : Nat → Nat) (k : Nat) : Nam nm (RunP L' f z k) (RunP (L'.map (En.ren nm)) (nm.getD f 0) z k) := by
  induction k with
  | zero => exact Nam.fr hn hL ⟨fun i h => by omega, fun x => ⟨fun h => ⟨f, rfl, h.symm⟩, fun ⟨i, h1, h2⟩ => by rw [← h2, h1]⟩⟩
  | succ k ih => exact Nam.fr hn hL (Nam.mv hn hL ih _)
/-- .. with a state at hand. -/
theorem Nam.at {nm : List Nat} (hn : nm.Nodup) {A' A : Nat → Prop} (h : Nam nm A' A) {i : Nat} (hi : i < nm.length) : A (nm.getD i 0) ↔ A' i := by
  rw [h.2]
  exact ⟨fun ⟨j, h1, h2⟩ => by rw [← nd_inj hn (h.1 _ h1) hi h2]; exact h1, fun h => ⟨i, h, rfl⟩⟩

/-! ### Rounds over all edges -/
def cnt9 (f : Nat → Bool) (N : Nat) : Nat := ((List.range N).filter f).length
theorem cnt9_succ (f : Nat → Bool) (N : Nat) : cnt9 f (N + 1) = cnt9 f N + if f N then 1 else 0 := by
  unfold cnt9
  rw [List.range_succ, List.filter_append, List.length_append]
  cases h : f N <;> simp [h]
theorem cnt9_far (f : Nat → Bool) (x N : Nat) (h : N ≤ x) : cnt9 (ins f x) N = cnt9 f N := by
  induction N with
  | zero => rfl
  | succ N ih =>
    have e : ins f x N = f N := by simp [ins]; omega
    rw [cnt9_succ, cnt9_succ, ih (by omega), e]
theorem cnt9_ins (f : Nat → Bool) (x N : Nat) (h : x < N) (hx : f x = false) : cnt9 (ins f x) N = cnt9 f N + 1 := by
  induction N with
  | zero => omega
  | succ N ih =>
    rw [cnt9_succ, cnt9_succ]
    by_cases e : x = N
    · subst e
      rw [cnt9_far f x x (Nat.le_refl _)]
      simp [ins, hx]
    · have e2 : ins f x N = f N := by simp [ins]; omega
      rw [ih (by omega), e2]
      omega
/-- Is what was gathered by some rounds all? f lies between A and what is reached; k rounds have each found one more at least. -/
structure Gat (L : List En) (A : Nat → Prop) (N k : Nat) (f : Nat → Bool) : Prop where
  lo : ∀ x, A x → f x = true
  hi : ∀ x, f x = true → FR L A x
  cn : k ≤ cnt9 f N
theorem Gat.add {L : List En} {A : Nat → Prop} {N k : Nat} {f : Nat → Bool} (h : Gat L A N k f) {e : En} (he : e ∈ L) (hb : e.b = true) (hf : f e.f = true) (ht : f e.t = false) (hN : e.t < N) : Gat L A N (k + 1) (ins f e.t) := by
  refine ⟨fun x hx => by simp [ins, h.lo x hx], fun x hx => ?_, by rw [cnt9_ins f _ N hN ht]; have := h.cn; omega⟩
  simp only [ins, Bool.or_eq_true, beq_iff_eq] at hx
  rcases hx with hx | rfl
  · exact h.hi x hx
  · exact .step e (h.hi _ hf) he hb rfl rfl
theorem Gat.mono {L : List En} {A : Nat → Prop} {N k k' : Nat} {f : Nat → Bool} (h : Gat L A N k f) (hk : k' ≤ k) : Gat L A N k' f := ⟨h.lo, h.hi, Nat.le_trans hk h.cn⟩
/-- An edge changes nothing. -/
def Still (f : Nat → Bool) (e : En) : Prop := ¬ (e.b = true ∧ f e.f = true ∧ f e.t = false)
theorem Gat.done {L : List En} {A : Nat → Prop} {N k : Nat} {f : Nat → Bool} (h : Gat L A N k f) (hs : ∀ e ∈ L, Still f e) (x : Nat) : f x = true ↔ FR L A x :=
  ⟨h.hi x, FR.within (C := fun x => f x = true) h.lo (fun e he hb hf => by
    have := hs e he
    cases ht : f e.t with
    | true => rfl
    | false => exact absurd ⟨hb, hf, ht⟩ this)⟩
end Go.Proofs.Ytgmcfgkjhobiaaa
