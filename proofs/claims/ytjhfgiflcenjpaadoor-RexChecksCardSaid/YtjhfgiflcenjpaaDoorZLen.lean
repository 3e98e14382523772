import Derived.Test.YtjhfgiflcenjpaaDoorZOnesAny
import Derived.Test.YtjhfgiflcenjpaaDoorZRx
namespace Go.Proofs.YtjhfgiflcenjpaaDoor
open Go.RowKit

theorem cnt_lst (p : Nat → Bool) (j n : Nat) (hn : n ≤ 64) : (lst p (64 * j + n)).length = (lst p (64 * j)).length + cnt p j n := by
  induction n with
  | zero => simp [cnt, sm]
  | succ n ih =>
    have e : cnt p j (n + 1) = cnt p j n + bt p j n := rfl
    rw [e, show 64 * j + (n + 1) = 64 * j + n + 1 by omega]
    rcases hp : p (64 * j + n) with _ | _
    · rw [lst_no _ _ hp, ih (by omega)]; simp [bt, hp]
    · rw [lst_yes _ _ hp, List.length_append, ih (by omega)]; simp [bt, hp, (by omega : n < 64)]; omega
/-- How many bytes of the first k words are in a set. -/
def tot (p : Nat → Bool) (k : Nat) : Nat := (lst p (64 * k)).length
theorem tot_succ (p : Nat → Bool) (k : Nat) : tot p (k + 1) = tot p k + cnt p k 64 := by
  unfold tot
  rw [show 64 * (k + 1) = 64 * k + 64 by omega, cnt_lst p k 64 (Nat.le_refl _)]
theorem tot_le (p : Nat → Bool) (k : Nat) : tot p k ≤ 64 * k := lst_le p (64 * k)
theorem cnt_le (p : Nat → Bool) (k : Nat) : cnt p k 64 ≤ 1000 := by
  have h : ∀ n, cnt p k n ≤ n := by
    intro n
    induction n with
    | zero => simp [cnt, sm]
    | succ n ih =>
      have e : cnt p k (n + 1) = cnt p k n + bt p k n := rfl
      have : bt p k n ≤ 1 := by unfold bt; split <;> (try split) <;> omega
      omega
  have := h 64
  omega

structure BoxAt (w : World) (p : Nat → Bool) (wr : World) : Prop where
  s0 : St wr 33 w.heap.size #[.int .u64 ((wd p 0 : Nat) : Int), .int .u64 ((wd p 1 : Nat) : Int), .int .u64 ((wd p 2 : Nat) : Int), .int .u64 ((wd p 3 : Nat) : Int)]
  below : Below w.heap.size w wr

theorem len_any (p : Nat → Bool) (w : World) :
    Calls Tryd.prog 47 #[(.agg #[.int .u64 ((wd p 0 : Nat) : Int), .int .u64 ((wd p 1 : Nat) : Int), .int .u64 ((wd p 2 : Nat) : Int), .int .u64 ((wd p 3 : Nat) : Int)])] w fun e w' => e = .returned (.int .i64 (((lst p 256).length : Nat) : Int)) ∧ Below w.heap.size w w' := by
  go_enter Tryd.func47, Tryd.ntmps47
  go_wp2_with fail
  go_loopw [3, 5] (fun v i wr => ∃ k : Nat, i = .int .i64 k ∧ k ≤ 4 ∧ v = .int .i64 ((tot p k : Nat) : Int) ∧ BoxAt w p wr) (fun _ i _ => 4 - (intOf i).toNat)
  case atStart => exact ⟨0, rfl, Nat.zero_le _, rfl, ⟨St.new _ _ _, (Below.refl _ _).alloc (Nat.le_refl _) _⟩⟩
  case round =>
    obtain ⟨k, rfl, hk, rfl, R⟩ := hrel
    obtain ⟨r0, r1, r2, r3, r4, r5, r6, r7⟩ := row4 R.s0
    have hb := R.below
    have ht := tot_le p k
    have hc := cnt_le p k
    rcases (by omega : k = 0 ∨ k = 1 ∨ k = 2 ∨ k = 3 ∨ k = 4) with rfl | rfl | rfl | rfl | rfl
    · go_wp2_with fail
      refine (ones_any p 0 _).mono ?_
      rintro e w1 ⟨rfl, rfl⟩
      go_wp2_with fail
      go_roundw
      case rel => exact ⟨0 + 1, rfl, by omega, by rw [tot_succ p 0]; go_num, R⟩
      case measure => simp [intOf]
    · go_wp2_with fail
      refine (ones_any p 1 _).mono ?_
      rintro e w1 ⟨rfl, rfl⟩
      go_wp2_with fail
      go_roundw
      case rel => exact ⟨1 + 1, rfl, by omega, by rw [tot_succ p 1]; go_num, R⟩
      case measure => simp [intOf]
    · go_wp2_with fail
      refine (ones_any p 2 _).mono ?_
      rintro e w1 ⟨rfl, rfl⟩
      go_wp2_with fail
      go_roundw
      case rel => exact ⟨2 + 1, rfl, by omega, by rw [tot_succ p 2]; go_num, R⟩
      case measure => simp [intOf]
    · go_wp2_with fail
      refine (ones_any p 3 _).mono ?_
      rintro e w1 ⟨rfl, rfl⟩
      go_wp2_with fail
      go_roundw
      case rel => exact ⟨3 + 1, rfl, by omega, by rw [tot_succ p 3]; go_num, R⟩
      case measure => simp [intOf]
    · go_wp2_with fail
      go_ret
      exact ⟨rfl, hb⟩
end Go.Proofs.YtjhfgiflcenjpaaDoor
