import Derived.Test.YthidhkaeebakjaaWith
import Derived.Laws.Rows
namespace Go.Proofs.Ythidhkaeebakjaa
open Go.RowKit

/-- Block g is cells cs of type t. -/
def St (w : World) (t g : Nat) (cs : Array Value) : Prop := w.heap[g]? = some (.cells cs t (0, 0))
theorem St.lt {w : World} {t g : Nat} {cs : Array Value} (h : St w t g cs) : g < w.heap.size := (Array.getElem?_eq_some_iff.1 h).1
theorem St.set {w : World} {t g : Nat} {cs : Array Value} (h : St w t g cs) (i : Nat) (u : Value) : St (w.setCell ⟨g, i, none⟩ u) t g (cs.setIfInBounds i u) := heap_setCell_same w g i cs t u h
theorem St.far {w : World} {t g : Nat} {cs : Array Value} (h : St w t g cs) {p : Addr} (hp : g ≠ p.block) (u : Value) : St (w.setCell p u) t g cs := (Below.heap_setCell w p u g hp).trans h
theorem St.below {w w' : World} {t g B : Nat} {cs : Array Value} (h : St w t g cs) (k : Below B w w') (hg : g < B) : St w' t g cs := (k.block g hg).trans h
theorem St.keep {w w' : World} {t g : Nat} {cs : Array Value} (h : St w t g cs) (k : Below w.heap.size w w') : St w' t g cs := h.below k h.lt
theorem St.drew {w : World} {t g : Nat} {cs : Array Value} (h : St w t g cs) : St w.drew t g cs := h
theorem St.set4 {w : World} {t g : Nat} {c0 c1 c2 c3 : Value} (h : St w t g #[c0, c1, c2, c3]) (d0 d1 d2 d3 : Value) :
    St ((((w.setCell ⟨g, 0, none⟩ d0).setCell ⟨g, 1, none⟩ d1).setCell ⟨g, 2, none⟩ d2).setCell ⟨g, 3, none⟩ d3) t g #[d0, d1, d2, d3] := by
  have := (((h.set 0 d0).set 1 d1).set 2 d2).set 3 d3
  simpa using this
theorem St.far4 {w : World} {t g g' : Nat} {cs : Array Value} (h : St w t g cs) (hn : g ≠ g') (d0 d1 d2 d3 : Value) :
    St ((((w.setCell ⟨g', 0, none⟩ d0).setCell ⟨g', 1, none⟩ d1).setCell ⟨g', 2, none⟩ d2).setCell ⟨g', 3, none⟩ d3) t g cs :=
  (((h.far (p := ⟨g', 0, none⟩) hn d0).far (p := ⟨g', 1, none⟩) hn d1).far (p := ⟨g', 2, none⟩) hn d2).far (p := ⟨g', 3, none⟩) hn d3
theorem below4 {w0 w : World} {B g : Nat} (h : Below B w0 w) (hg : B ≤ g) (d0 d1 d2 d3 : Value) :
    Below B w0 ((((w.setCell ⟨g, 0, none⟩ d0).setCell ⟨g, 1, none⟩ d1).setCell ⟨g, 2, none⟩ d2).setCell ⟨g, 3, none⟩ d3) :=
  (((h.setCell (p := ⟨g, 0, none⟩) hg d0).setCell (p := ⟨g, 1, none⟩) hg d1).setCell (p := ⟨g, 2, none⟩) hg d2).setCell (p := ⟨g, 3, none⟩) hg d3
theorem St.new (w : World) (t : Nat) (cs : Array Value) : St (w.alloc (.cells cs t)) t w.heap.size cs := by
  show (w.heap.push _)[w.heap.size]? = _
  rw [Array.getElem?_push, if_pos rfl]
theorem St.alloc {w : World} {t g : Nat} {cs : Array Value} (h : St w t g cs) (o : Obj) : St (w.alloc o) t g cs := (Below.heap_alloc w o g h.lt).trans h
theorem row4 {w : World} {g : Nat} {c0 c1 c2 c3 : Value} {t : TypeId} (h : St w t g #[c0, c1, c2, c3]) :
    w.cell? ⟨g, 0, none⟩ = some c0 ∧ w.cell? ⟨g, 1, none⟩ = some c1 ∧ w.cell? ⟨g, 2, none⟩ = some c2 ∧ w.cell? ⟨g, 3, none⟩ = some c3 ∧
    w.frozen? ⟨g, 0, none⟩ = false ∧ w.frozen? ⟨g, 1, none⟩ = false ∧ w.frozen? ⟨g, 2, none⟩ = false ∧ w.frozen? ⟨g, 3, none⟩ = false := by
  have h : w.heap[g]? = some (.cells #[c0, c1, c2, c3] t (0, 0)) := h
  refine ⟨?_, ?_, ?_, ?_, frozen_of_row w g 0 _ _ h, frozen_of_row w g 1 _ _ h, frozen_of_row w g 2 _ _ h, frozen_of_row w g 3 _ _ h⟩ <;> (rw [cell_of_row w g _ _ _ _ h]; rfl)
theorem size4 (w : World) (g : Nat) (d0 d1 d2 d3 : Value) : ((((w.setCell ⟨g, 0, none⟩ d0).setCell ⟨g, 1, none⟩ d1).setCell ⟨g, 2, none⟩ d2).setCell ⟨g, 3, none⟩ d3).heap.size = w.heap.size := by simp [World.setCell]

/-- The numbers that z gives at places below k. -/
def ofUp (z : Nat → Nat) : Nat → Nat → Bool
  | 0 => fun _ => false
  | k + 1 => ins (ofUp z k) (z k)
theorem ofUp_iff (z : Nat → Nat) (k b : Nat) : ofUp z k b = true ↔ ∃ j, j < k ∧ z j = b := by
  induction k with
  | zero => simp [ofUp]
  | succ k ih =>
    simp only [ofUp, ins, Bool.or_eq_true, ih, beq_iff_eq]
    constructor
    · rintro (⟨j, hj, e⟩ | e)
      · exact ⟨j, by omega, e⟩
      · exact ⟨k, by omega, e.symm⟩
    · rintro ⟨j, hj, e⟩
      rcases Nat.lt_or_ge j k with h | h
      · exact Or.inl ⟨j, h, e⟩
      · obtain rfl : j = k := by omega
        exact Or.inr e.symm

/-- What is known of a slice of bytes that came in. -/
def ElsB (w : World) (a : Option Addr) (len : Nat) (z : Nat → Nat) : Prop :=
  0 < len → ∃ b off, a = some ⟨b, off, none⟩ ∧ b < w.heap.size ∧ ∀ j, j < len → w.cell? ⟨b, off + j, none⟩ = some (.int .u8 (z j)) ∧ z j < 256

/-- The state of a loop that fills one set: block t is the set q, block t' (the result's) is empty. -/
structure Fills (w : World) (q : Nat → Bool) (wr : World) : Prop where
  s0 : St wr 33 w.heap.size #[.int .u64 ((wd ((fun _ => false)) 0 : Nat) : Int), .int .u64 ((wd ((fun _ => false)) 1 : Nat) : Int), .int .u64 ((wd ((fun _ => false)) 2 : Nat) : Int), .int .u64 ((wd ((fun _ => false)) 3 : Nat) : Int)]
  s1 : St wr 33 (w.heap.size + 1) #[.int .u64 ((wd q 0 : Nat) : Int), .int .u64 ((wd q 1 : Nat) : Int), .int .u64 ((wd q 2 : Nat) : Int), .int .u64 ((wd q 3 : Nat) : Int)]
  below : Below w.heap.size w wr
theorem Fills.start (w : World) : Fills w (fun _ => false) ((w.alloc (.cells #[.int .u64 0, .int .u64 0, .int .u64 0, .int .u64 0] 33)).alloc (.cells #[.int .u64 0, .int .u64 0, .int .u64 0, .int .u64 0] 33)) := by
  have e : ∀ j, ((wd (fun _ => false) j : Nat) : Int) = 0 := fun j => by rw [wd_none]; rfl
  refine ⟨?_, ?_, ((Below.refl _ _).alloc (Nat.le_refl _) _).alloc (by simp) _⟩ <;> simp only [e]
  · exact (St.new _ _ _).alloc _
  · have := St.new (w.alloc (.cells #[.int .u64 0, .int .u64 0, .int .u64 0, .int .u64 0] 33)) 33 #[.int .u64 0, .int .u64 0, .int .u64 0, .int .u64 0]
    simpa using this
theorem Fills.step {w wr w1 : World} {q : Nat → Bool} (h : Fills w q wr) (hb : Below wr.heap.size wr w1) (q' : Nat → Bool) :
    Fills w q' ((((w1.setCell ⟨w.heap.size + 1, 0, none⟩ (.int .u64 ((wd q' 0 : Nat) : Int))).setCell ⟨w.heap.size + 1, 1, none⟩ (.int .u64 ((wd q' 1 : Nat) : Int))).setCell ⟨w.heap.size + 1, 2, none⟩ (.int .u64 ((wd q' 2 : Nat) : Int))).setCell ⟨w.heap.size + 1, 3, none⟩ (.int .u64 ((wd q' 3 : Nat) : Int))) :=
  have hs := h.below.size
  ⟨(h.s0.keep hb).far4 (by omega) _ _ _ _, (h.s1.keep hb).set4 _ _ _ _, below4 (h.below.trans (hb.mono hs)) (by omega) _ _ _ _⟩
end Go.Proofs.Ythidhkaeebakjaa
