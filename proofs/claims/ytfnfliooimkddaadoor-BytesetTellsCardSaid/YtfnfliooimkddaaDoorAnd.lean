import Derived.Test.YtfnfliooimkddaaDoorMixed
namespace Go.Proofs.YtfnfliooimkddaaDoor
open Go.RowKit

theorem and_cell (p q : Nat → Bool) (k : Nat) : bits .and .u64 ((wd (mixed (fun a b => a && b) p q k) k : Nat) : Int) ((wd q k : Nat) : Int) = ((wd (mixed (fun a b => a && b) p q (k + 1)) k : Nat) : Int) := by
  rw [mixed_here, mixed_next, bits_and]
theorem and_any (p q : Nat → Bool) (w : World) :
    Calls Tryd.prog 14 #[(.agg #[.int .u64 ((wd p 0 : Nat) : Int), .int .u64 ((wd p 1 : Nat) : Int), .int .u64 ((wd p 2 : Nat) : Int), .int .u64 ((wd p 3 : Nat) : Int)]), (.agg #[.int .u64 ((wd q 0 : Nat) : Int), .int .u64 ((wd q 1 : Nat) : Int), .int .u64 ((wd q 2 : Nat) : Int), .int .u64 ((wd q 3 : Nat) : Int)])] w fun e w' => e = .returned (.agg #[.int .u64 ((wd ((fun x => (fun a b => a && b) (p x) (q x))) 0 : Nat) : Int), .int .u64 ((wd ((fun x => (fun a b => a && b) (p x) (q x))) 1 : Nat) : Int), .int .u64 ((wd ((fun x => (fun a b => a && b) (p x) (q x))) 2 : Nat) : Int), .int .u64 ((wd ((fun x => (fun a b => a && b) (p x) (q x))) 3 : Nat) : Int)]) ∧ Below w.heap.size w w' := by
  go_enter Tryd.func14, Tryd.ntmps14
  go_wp2_with fail
  go_loopw [5, 6] (fun _ i wr => ∃ k : Nat, i = .int .i64 k ∧ k ≤ 4 ∧ Joins2 w (mixed (fun a b => a && b) p q k) q wr) (fun _ i _ => 4 - (intOf i).toNat)
  case atStart => exact ⟨0, rfl, Nat.zero_le _, by rw [mixed_zero]; exact Joins2.start w p q⟩
  case round =>
    obtain ⟨k, rfl, hk, R⟩ := hrel
    obtain ⟨r0, r1, r2, r3, r4, r5, r6, r7⟩ := row4 R.s0
    obtain ⟨q0, q1, q2, q3, q4, q5, q6, q7⟩ := row4 R.s1
    obtain ⟨x0, x1, x2, x3, x4, x5, x6, x7⟩ := row4 R.s2
    have hb := R.below.size
    rcases (by omega : k = 0 ∨ k = 1 ∨ k = 2 ∨ k = 3 ∨ k = 4) with rfl | rfl | rfl | rfl | rfl
    · go_wp2_with fail
      go_region
      go_wp2_with fail
      go_roundw
      case rel => exact ⟨0 + 1, rfl, by omega, (R.step (mixed (fun a b => a && b) p q (0 + 1)) 0 (bits .and .u64 ((wd (mixed (fun a b => a && b) p q 0) 0 : Nat) : Int) ((wd q 0 : Nat) : Int)) (by rw [and_cell p q 0, mixed_far _ p q 0 1 (by decide), mixed_far _ p q 0 2 (by decide), mixed_far _ p q 0 3 (by decide)]; rfl)).drew⟩
      case measure => simp [intOf]
    · go_wp2_with fail
      go_region
      go_wp2_with fail
      go_roundw
      case rel => exact ⟨1 + 1, rfl, by omega, (R.step (mixed (fun a b => a && b) p q (1 + 1)) 1 (bits .and .u64 ((wd (mixed (fun a b => a && b) p q 1) 1 : Nat) : Int) ((wd q 1 : Nat) : Int)) (by rw [and_cell p q 1, mixed_far _ p q 1 0 (by decide), mixed_far _ p q 1 2 (by decide), mixed_far _ p q 1 3 (by decide)]; rfl)).drew⟩
      case measure => simp [intOf]
    · go_wp2_with fail
      go_region
      go_wp2_with fail
      go_roundw
      case rel => exact ⟨2 + 1, rfl, by omega, (R.step (mixed (fun a b => a && b) p q (2 + 1)) 2 (bits .and .u64 ((wd (mixed (fun a b => a && b) p q 2) 2 : Nat) : Int) ((wd q 2 : Nat) : Int)) (by rw [and_cell p q 2, mixed_far _ p q 2 0 (by decide), mixed_far _ p q 2 1 (by decide), mixed_far _ p q 2 3 (by decide)]; rfl)).drew⟩
      case measure => simp [intOf]
    · go_wp2_with fail
      go_region
      go_wp2_with fail
      go_roundw
      case rel => exact ⟨3 + 1, rfl, by omega, (R.step (mixed (fun a b => a && b) p q (3 + 1)) 3 (bits .and .u64 ((wd (mixed (fun a b => a && b) p q 3) 3 : Nat) : Int) ((wd q 3 : Nat) : Int)) (by rw [and_cell p q 3, mixed_far _ p q 3 0 (by decide), mixed_far _ p q 3 1 (by decide), mixed_far _ p q 3 2 (by decide)]; rfl)).drew⟩
      case measure => simp [intOf]
    · have hbel := R.below
      rw [mixed_all _ _ _ 0 (by decide)] at r0
      rw [mixed_all _ _ _ 1 (by decide)] at r1
      rw [mixed_all _ _ _ 2 (by decide)] at r2
      rw [mixed_all _ _ _ 3 (by decide)] at r3
      clear R
      go_wp2_with fail
      exact bodyPost_ret (v := (.agg #[.int .u64 ((wd ((fun x => (fun a b => a && b) (p x) (q x))) 0 : Nat) : Int), .int .u64 ((wd ((fun x => (fun a b => a && b) (p x) (q x))) 1 : Nat) : Int), .int .u64 ((wd ((fun x => (fun a b => a && b) (p x) (q x))) 2 : Nat) : Int), .int .u64 ((wd ((fun x => (fun a b => a && b) (p x) (q x))) 3 : Nat) : Int)])) (by simp [results, Tryd.results14, go_sem, x0, x1, x2, x3]) rfl ⟨rfl, below4 hbel (by omega) _ _ _ _⟩
end Go.Proofs.YtfnfliooimkddaaDoor
