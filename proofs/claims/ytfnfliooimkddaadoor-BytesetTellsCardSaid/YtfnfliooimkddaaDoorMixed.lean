import Derived.Test.YtfnfliooimkddaaDoorSt
import Derived.LoopTactic
import Derived.RegionTactic
import Derived.BigRegion
namespace Go.Proofs.YtfnfliooimkddaaDoor
open Go.RowKit

/-- The set p while i of its words are joined with those of q. -/
def mixed (f : Bool → Bool → Bool) (p q : Nat → Bool) (i : Nat) : Nat → Bool := fun x => if x < 64 * i then f (p x) (q x) else p x
theorem mixed_zero (f : Bool → Bool → Bool) (p q : Nat → Bool) : mixed f p q 0 = p := by funext x; simp [mixed]
theorem mixed_here (f : Bool → Bool → Bool) (p q : Nat → Bool) (k : Nat) : wd (mixed f p q k) k = wd p k := wd_congr fun r _ => by simp only [mixed]; rw [if_neg (by omega)]
theorem mixed_next (f : Bool → Bool → Bool) (p q : Nat → Bool) (k : Nat) : wd (mixed f p q (k + 1)) k = wd (fun x => f (p x) (q x)) k := wd_congr fun r _ => by simp only [mixed]; rw [if_pos (by omega)]
theorem mixed_far (f : Bool → Bool → Bool) (p q : Nat → Bool) (k j : Nat) (h : j ≠ k) : wd (mixed f p q (k + 1)) j = wd (mixed f p q k) j := wd_congr fun r _ => by
  simp only [mixed]
  by_cases h1 : 64 * j + r < 64 * k
  · rw [if_pos h1, if_pos (by omega)]
  · rw [if_neg h1, if_neg (by omega)]
theorem mixed_all (f : Bool → Bool → Bool) (p q : Nat → Bool) (j : Nat) (hj : j < 4) : wd (mixed f p q 4) j = wd (fun x => f (p x) (q x)) j := wd_congr fun r _ => by simp only [mixed]; rw [if_pos (by omega)]

/-- After some rounds: the first box is m, the second is q, the result's block is c. -/
structure Joins2 (w : World) (m q : Nat → Bool) (wr : World) : Prop where
  s0 : St wr 24 w.heap.size #[.int .u64 ((wd m 0 : Nat) : Int), .int .u64 ((wd m 1 : Nat) : Int), .int .u64 ((wd m 2 : Nat) : Int), .int .u64 ((wd m 3 : Nat) : Int)]
  s1 : St wr 24 (w.heap.size + 1) #[.int .u64 ((wd q 0 : Nat) : Int), .int .u64 ((wd q 1 : Nat) : Int), .int .u64 ((wd q 2 : Nat) : Int), .int .u64 ((wd q 3 : Nat) : Int)]
  s2 : St wr 24 (w.heap.size + 1 + 1) #[.int .u64 0, .int .u64 0, .int .u64 0, .int .u64 0]
  below : Below w.heap.size w wr
theorem Joins2.start (w : World) (p q : Nat → Bool) : Joins2 w p q (((w.alloc (.cells #[.int .u64 ((wd p 0 : Nat) : Int), .int .u64 ((wd p 1 : Nat) : Int), .int .u64 ((wd p 2 : Nat) : Int), .int .u64 ((wd p 3 : Nat) : Int)] 24)).alloc (.cells #[.int .u64 ((wd q 0 : Nat) : Int), .int .u64 ((wd q 1 : Nat) : Int), .int .u64 ((wd q 2 : Nat) : Int), .int .u64 ((wd q 3 : Nat) : Int)] 24)).alloc (.cells #[.int .u64 0, .int .u64 0, .int .u64 0, .int .u64 0] 24)) := by
  refine ⟨?_, ?_, ?_, (((Below.refl _ _).alloc (Nat.le_refl _) _).alloc (by simp) _).alloc (by simp; omega) _⟩
  · exact ((St.new _ _ _).alloc _).alloc _
  · have := (St.new (w.alloc (.cells #[.int .u64 ((wd p 0 : Nat) : Int), .int .u64 ((wd p 1 : Nat) : Int), .int .u64 ((wd p 2 : Nat) : Int), .int .u64 ((wd p 3 : Nat) : Int)] 24)) 24 #[.int .u64 ((wd q 0 : Nat) : Int), .int .u64 ((wd q 1 : Nat) : Int), .int .u64 ((wd q 2 : Nat) : Int), .int .u64 ((wd q 3 : Nat) : Int)]).alloc (.cells #[.int .u64 0, .int .u64 0, .int .u64 0, .int .u64 0] 24)
    simpa using this
  · have := St.new ((w.alloc (.cells #[.int .u64 ((wd p 0 : Nat) : Int), .int .u64 ((wd p 1 : Nat) : Int), .int .u64 ((wd p 2 : Nat) : Int), .int .u64 ((wd p 3 : Nat) : Int)] 24)).alloc (.cells #[.int .u64 ((wd q 0 : Nat) : Int), .int .u64 ((wd q 1 : Nat) : Int), .int .u64 ((wd q 2 : Nat) : Int), .int .u64 ((wd q 3 : Nat) : Int)] 24)) 24 #[.int .u64 0, .int .u64 0, .int .u64 0, .int .u64 0]
    simpa using this
theorem Joins2.step {w wr : World} {m q : Nat → Bool} (h : Joins2 w m q wr) (m' : Nat → Bool) (i : Nat) (v : Int) (e : #[.int .u64 ((wd m 0 : Nat) : Int), .int .u64 ((wd m 1 : Nat) : Int), .int .u64 ((wd m 2 : Nat) : Int), .int .u64 ((wd m 3 : Nat) : Int)].setIfInBounds i (Value.int .u64 v) = #[.int .u64 ((wd m' 0 : Nat) : Int), .int .u64 ((wd m' 1 : Nat) : Int), .int .u64 ((wd m' 2 : Nat) : Int), .int .u64 ((wd m' 3 : Nat) : Int)]) :
    Joins2 w m' q (wr.setCell ⟨w.heap.size, i, none⟩ (.int .u64 v)) :=
  ⟨e ▸ h.s0.set i _, h.s1.far (by simp) _, h.s2.far (by simp; omega) _, h.below.setCell (by simp) _⟩

theorem Joins2.drew {w wr : World} {m q : Nat → Bool} (h : Joins2 w m q wr) : Joins2 w m q wr.drew := ⟨h.s0, h.s1, h.s2, h.below.drew⟩
end Go.Proofs.YtfnfliooimkddaaDoor
