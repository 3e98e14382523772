import Derived.Test.YtjhfgiflcenjpaaDoorZSt
import Derived.LoopTactic
import Derived.Laws.Unary
namespace Go.Proofs.YtjhfgiflcenjpaaDoor
open Go.RowKit

/-- A set while i of its words are turned. -/
def flip (p : Nat → Bool) (i : Nat) : Nat → Bool := fun x => if x < 64 * i then !p x else p x
theorem flip_zero (p : Nat → Bool) : flip p 0 = p := by funext x; simp [flip]
theorem flip_here (p : Nat → Bool) (k : Nat) : wd (flip p k) k = wd p k := wd_congr fun r _ => by simp only [flip]; rw [if_neg (by omega)]
theorem flip_next (p : Nat → Bool) (k : Nat) : wd (flip p (k + 1)) k = wd (fun x => !p x) k := wd_congr fun r _ => by simp only [flip]; rw [if_pos (by omega)]
theorem flip_far (p : Nat → Bool) (k j : Nat) (h : j ≠ k) : wd (flip p (k + 1)) j = wd (flip p k) j := wd_congr fun r _ => by
  simp only [flip]
  by_cases h1 : 64 * j + r < 64 * k
  · rw [if_pos h1, if_pos (by omega)]
  · rw [if_neg h1, if_neg (by omega)]
theorem flip_all (p : Nat → Bool) (j : Nat) (hj : j < 4) : wd (flip p 4) j = wd (fun x => !p x) j := wd_congr fun r _ => by simp only [flip]; rw [if_pos (by omega)]
theorem flip_cell (p : Nat → Bool) (k : Nat) : bits .xor .u64 18446744073709551615 ((wd (flip p k) k : Nat) : Int) = ((wd (flip p (k + 1)) k : Nat) : Int) := by rw [flip_here, flip_next, bits_not]

structure Turns (w : World) (m : Nat → Bool) (wr : World) : Prop where
  s0 : St wr 33 w.heap.size #[.int .u64 ((wd m 0 : Nat) : Int), .int .u64 ((wd m 1 : Nat) : Int), .int .u64 ((wd m 2 : Nat) : Int), .int .u64 ((wd m 3 : Nat) : Int)]
  s1 : St wr 33 (w.heap.size + 1) #[.int .u64 0, .int .u64 0, .int .u64 0, .int .u64 0]
  below : Below w.heap.size w wr
theorem Turns.start (w : World) (p : Nat → Bool) : Turns w p ((w.alloc (.cells #[.int .u64 ((wd p 0 : Nat) : Int), .int .u64 ((wd p 1 : Nat) : Int), .int .u64 ((wd p 2 : Nat) : Int), .int .u64 ((wd p 3 : Nat) : Int)] 33)).alloc (.cells #[.int .u64 0, .int .u64 0, .int .u64 0, .int .u64 0] 33)) := by
  refine ⟨(St.new _ _ _).alloc _, ?_, ((Below.refl _ _).alloc (Nat.le_refl _) _).alloc (by simp) _⟩
  have := St.new (w.alloc (.cells #[.int .u64 ((wd p 0 : Nat) : Int), .int .u64 ((wd p 1 : Nat) : Int), .int .u64 ((wd p 2 : Nat) : Int), .int .u64 ((wd p 3 : Nat) : Int)] 33)) 33 #[.int .u64 0, .int .u64 0, .int .u64 0, .int .u64 0]
  simpa using this
theorem Turns.step {w wr : World} {m : Nat → Bool} (h : Turns w m wr) (m' : Nat → Bool) (i : Nat) (v : Int) (e : #[.int .u64 ((wd m 0 : Nat) : Int), .int .u64 ((wd m 1 : Nat) : Int), .int .u64 ((wd m 2 : Nat) : Int), .int .u64 ((wd m 3 : Nat) : Int)].setIfInBounds i (Value.int .u64 v) = #[.int .u64 ((wd m' 0 : Nat) : Int), .int .u64 ((wd m' 1 : Nat) : Int), .int .u64 ((wd m' 2 : Nat) : Int), .int .u64 ((wd m' 3 : Nat) : Int)]) :
    Turns w m' (wr.setCell ⟨w.heap.size, i, none⟩ (.int .u64 v)) :=
  ⟨e ▸ h.s0.set i _, h.s1.far (by simp) _, h.below.setCell (by simp) _⟩

theorem not_any (p : Nat → Bool) (w : World) :
    Calls Tryd.prog 52 #[(.agg #[.int .u64 ((wd p 0 : Nat) : Int), .int .u64 ((wd p 1 : Nat) : Int), .int .u64 ((wd p 2 : Nat) : Int), .int .u64 ((wd p 3 : Nat) : Int)])] w fun e w' => e = .returned (.agg #[.int .u64 ((wd ((fun x => !p x)) 0 : Nat) : Int), .int .u64 ((wd ((fun x => !p x)) 1 : Nat) : Int), .int .u64 ((wd ((fun x => !p x)) 2 : Nat) : Int), .int .u64 ((wd ((fun x => !p x)) 3 : Nat) : Int)]) ∧ Below w.heap.size w w' := by
  go_enter Tryd.func52, Tryd.ntmps52
  go_wp2_with fail
  go_loopw [3, 4] (fun _ i wr => ∃ k : Nat, i = .int .i64 k ∧ k ≤ 4 ∧ Turns w (flip p k) wr) (fun _ i _ => 4 - (intOf i).toNat)
  case atStart => exact ⟨0, rfl, Nat.zero_le _, by rw [flip_zero]; exact Turns.start w p⟩
  case round =>
    obtain ⟨k, rfl, hk, R⟩ := hrel
    obtain ⟨r0, r1, r2, r3, r4, r5, r6, r7⟩ := row4 R.s0
    obtain ⟨x0, x1, x2, x3, x4, x5, x6, x7⟩ := row4 R.s1
    have hb := R.below.size
    rcases (by omega : k = 0 ∨ k = 1 ∨ k = 2 ∨ k = 3 ∨ k = 4) with rfl | rfl | rfl | rfl | rfl
    · go_wp2_with fail
      go_roundw
      case rel => exact ⟨0 + 1, rfl, by omega, R.step (flip p (0 + 1)) 0 (bits .xor .u64 18446744073709551615 ((wd (flip p 0) 0 : Nat) : Int)) (by rw [flip_cell p 0, flip_far p 0 1 (by decide), flip_far p 0 2 (by decide), flip_far p 0 3 (by decide)]; rfl)⟩
      case measure => simp [intOf]
    · go_wp2_with fail
      go_roundw
      case rel => exact ⟨1 + 1, rfl, by omega, R.step (flip p (1 + 1)) 1 (bits .xor .u64 18446744073709551615 ((wd (flip p 1) 1 : Nat) : Int)) (by rw [flip_cell p 1, flip_far p 1 0 (by decide), flip_far p 1 2 (by decide), flip_far p 1 3 (by decide)]; rfl)⟩
      case measure => simp [intOf]
    · go_wp2_with fail
      go_roundw
      case rel => exact ⟨2 + 1, rfl, by omega, R.step (flip p (2 + 1)) 2 (bits .xor .u64 18446744073709551615 ((wd (flip p 2) 2 : Nat) : Int)) (by rw [flip_cell p 2, flip_far p 2 0 (by decide), flip_far p 2 1 (by decide), flip_far p 2 3 (by decide)]; rfl)⟩
      case measure => simp [intOf]
    · go_wp2_with fail
      go_roundw
      case rel => exact ⟨3 + 1, rfl, by omega, R.step (flip p (3 + 1)) 3 (bits .xor .u64 18446744073709551615 ((wd (flip p 3) 3 : Nat) : Int)) (by rw [flip_cell p 3, flip_far p 3 0 (by decide), flip_far p 3 1 (by decide), flip_far p 3 2 (by decide)]; rfl)⟩
      case measure => simp [intOf]
    · have hbel := R.below
      rw [flip_all _ 0 (by decide)] at r0
      rw [flip_all _ 1 (by decide)] at r1
      rw [flip_all _ 2 (by decide)] at r2
      rw [flip_all _ 3 (by decide)] at r3
      clear R
      go_wp2_with fail
      exact bodyPost_ret (v := (.agg #[.int .u64 ((wd ((fun x => !p x)) 0 : Nat) : Int), .int .u64 ((wd ((fun x => !p x)) 1 : Nat) : Int), .int .u64 ((wd ((fun x => !p x)) 2 : Nat) : Int), .int .u64 ((wd ((fun x => !p x)) 3 : Nat) : Int)])) (by simp [results, Tryd.results52, go_sem, x0, x1, x2, x3]) rfl ⟨rfl, below4 hbel (by omega) _ _ _ _⟩

theorem not_none (w : World) :
    Calls Tryd.prog 52 #[.agg #[.int .u64 0, .int .u64 0, .int .u64 0, .int .u64 0]] w fun e w' => e = .returned (.agg #[.int .u64 ((wd ((fun _ => true)) 0 : Nat) : Int), .int .u64 ((wd ((fun _ => true)) 1 : Nat) : Int), .int .u64 ((wd ((fun _ => true)) 2 : Nat) : Int), .int .u64 ((wd ((fun _ => true)) 3 : Nat) : Int)]) ∧ Below w.heap.size w w' := by
  have h := not_any (fun _ => false) w
  simp only [wd_none] at h
  exact h
theorem full_any (w : World) :
    Calls Tryd.prog 48 #[] w fun e w' => e = .returned (.agg #[.int .u64 ((wd ((fun _ => true)) 0 : Nat) : Int), .int .u64 ((wd ((fun _ => true)) 1 : Nat) : Int), .int .u64 ((wd ((fun _ => true)) 2 : Nat) : Int), .int .u64 ((wd ((fun _ => true)) 3 : Nat) : Int)]) ∧ Below w.heap.size w w' := by
  go_enter Tryd.func48, Tryd.ntmps48
  go_wp2_with fail
  refine (not_none _).mono ?_
  rintro e w1 ⟨rfl, b1⟩
  have s1 := (St.new w 33 #[.int .u64 0, .int .u64 0, .int .u64 0, .int .u64 0]).below b1 (by simp)
  have hb := ((Below.refl _ w).alloc (Nat.le_refl _) (.cells #[.int .u64 0, .int .u64 0, .int .u64 0, .int .u64 0] 33)).trans (b1.mono (by simp))
  obtain ⟨r0, r1, r2, r3, r4, r5, r6, r7⟩ := row4 s1
  have hs := s1.lt
  clear b1 s1
  go_wp2_with fail
  exact bodyPost_ret (v := (.agg #[.int .u64 ((wd ((fun _ => true)) 0 : Nat) : Int), .int .u64 ((wd ((fun _ => true)) 1 : Nat) : Int), .int .u64 ((wd ((fun _ => true)) 2 : Nat) : Int), .int .u64 ((wd ((fun _ => true)) 3 : Nat) : Int)])) (by simp [results, Tryd.results48, go_sem, r0, r1, r2, r3]) rfl ⟨rfl, below4 hb (Nat.le_refl _) _ _ _ _⟩
end Go.Proofs.YtjhfgiflcenjpaaDoor
