import Derived.Test.YtjhfgiflcenjpaaDoorZLen
import Derived.Test.YtjhfgiflcenjpaaDoorZTz
namespace Go.Proofs.YtjhfgiflcenjpaaDoor
open Go.RowKit

/-- The least byte of a set, or -1. -/
def least (p : Nat → Bool) : Int := match lst p 256 with | [] => -1 | x :: _ => (x : Int)
theorem ctz_lt (x : Nat) (hx : x < 18446744073709551616) (h0 : x ≠ 0) : Lib.ctz 64 x < 64 := (Lib.lowest_bit 64 x h0 hx).2
theorem ctz_bits (x : Nat) (hx : x < 18446744073709551616) (h0 : x ≠ 0) : x.testBit (Lib.ctz 64 x) = true ∧ ∀ k, k < Lib.ctz 64 x → x.testBit k = false := by
  obtain ⟨m, hm, _⟩ := Lib.ctzFrom_spec 64 x (by omega) hx
  have e : Lib.ctz 64 x = Lib.ctzFrom 64 x := by unfold Lib.ctz; rw [if_neg h0]
  rw [e]
  generalize Lib.ctzFrom 64 x = c at hm
  subst hm
  constructor
  · have := Nat.testBit_two_pow_mul_add (2 * m + 1) (Nat.two_pow_pos c) c
    rw [Nat.add_zero] at this
    rw [this, if_neg (by omega)]
    simp
  · intro k hk
    have := Nat.testBit_two_pow_mul_add (2 * m + 1) (Nat.two_pow_pos c) k
    rw [Nat.add_zero] at this
    rw [this, if_pos hk]
    simp
theorem none_below (p : Nat → Bool) (k : Nat) (h : (lst p k).length = 0) (x : Nat) (hx : x < k) : p x = false := by
  have e : lst p k = [] := List.length_eq_zero_iff.1 h
  rcases hp : p x with _ | _
  · rfl
  · have := (lst_mem p k x).2 ⟨hx, hp⟩
    rw [e] at this; simp at this
theorem tot_zero (p : Nat → Bool) (k : Nat) (h : wd p k = 0) : (lst p (64 * (k + 1))).length = (lst p (64 * k)).length := by
  have h1 : ∀ n, n ≤ 64 → cnt p k n = 0 := by
    intro n hn
    induction n with
    | zero => rfl
    | succ n ih =>
      have e : cnt p k (n + 1) = cnt p k n + bt p k n := rfl
      rw [e, ih (by omega)]
      have h2 := wd_bit p k n
      rw [h, Nat.zero_testBit, decide_eq_true (by omega : n < 64), Bool.true_and] at h2
      simp [bt, h2.symm]
  have := cnt_lst p k 64 (Nat.le_refl _)
  rw [show 64 * (k + 1) = 64 * k + 64 by omega, this, h1 64 (Nat.le_refl _), Nat.add_zero]
theorem lst_least (p : Nat → Bool) (n c : Nat) (hc : c < n) (hp : p c = true) (hl : ∀ x, x < c → p x = false) : ∃ r, lst p n = c :: r := by
  induction n with
  | zero => omega
  | succ n ih =>
    by_cases e : c = n
    · subst e
      have h0 : lst p c = [] := by
        refine List.eq_nil_iff_forall_not_mem.2 fun x hx => ?_
        have := (lst_mem p c x).1 hx
        rw [hl x this.1] at this; simp at this
      exact ⟨[], by rw [lst_yes p c hp, h0]; rfl⟩
    · obtain ⟨r, hr⟩ := ih (by omega)
      rcases hq : p n with _ | _
      · exact ⟨r, by rw [lst_no p n hq, hr]⟩
      · exact ⟨r ++ [n], by rw [lst_yes p n hq, hr]; rfl⟩
theorem first_word (p : Nat → Bool) (k : Nat) (hk : k < 4) (hz : (lst p (64 * k)).length = 0) (h0 : wd p k ≠ 0) : ((64 * k : Nat) : Int) + ((Lib.ctz 64 (wd p k) : Nat) : Int) = least p := by
  have h1 := ctz_lt (wd p k) (wd_lt p k) h0
  obtain ⟨h2, h3⟩ := ctz_bits (wd p k) (wd_lt p k) h0
  generalize Lib.ctz 64 (wd p k) = c at h1 h2 h3 ⊢
  rw [wd_bit, decide_eq_true h1, Bool.true_and] at h2
  obtain ⟨r, hr⟩ := lst_least p 256 (64 * k + c) (by omega) h2 (fun x hx => by
    by_cases hx2 : x < 64 * k
    · exact none_below p _ hz x hx2
    · have h4 := h3 (x - 64 * k) (by omega)
      rw [wd_bit, decide_eq_true (by omega : x - 64 * k < 64), Bool.true_and, show 64 * k + (x - 64 * k) = x by omega] at h4
      exact h4)
  unfold least
  rw [hr]
  show _ = ((64 * k + c : Nat) : Int)
  omega

theorem first_any (p : Nat → Bool) (w : World) (hT : TabAt w) :
    Calls Tryd.prog 50 #[(.agg #[.int .u64 ((wd p 0 : Nat) : Int), .int .u64 ((wd p 1 : Nat) : Int), .int .u64 ((wd p 2 : Nat) : Int), .int .u64 ((wd p 3 : Nat) : Int)])] w fun e w' => e = .returned (.int .i64 (least p)) ∧ Below w.heap.size w w' := by
  go_enter Tryd.func50, Tryd.ntmps50
  go_wp2_with fail
  go_loopw [4] (fun i wr => ∃ k : Nat, i = .int .i64 k ∧ k ≤ 4 ∧ (lst p (64 * k)).length = 0 ∧ BoxAt w p wr) (fun i _ => 4 - (intOf i).toNat)
  case atStart => exact ⟨0, rfl, Nat.zero_le _, rfl, ⟨St.new _ _ _, (Below.refl _ _).alloc (Nat.le_refl _) _⟩⟩
  case round =>
    obtain ⟨k, rfl, hk, hz, R⟩ := hrel
    obtain ⟨r0, r1, r2, r3, r4, r5, r6, r7⟩ := row4 R.s0
    have hb := R.below
    rcases (by omega : k = 0 ∨ k = 1 ∨ k = 2 ∨ k = 3 ∨ k = 4) with rfl | rfl | rfl | rfl | rfl
    · rcases (by omega : wd p 0 = 0 ∨ wd p 0 ≠ 0) with h0 | h0
      · have hn : (lst p (64 * (0 + 1))).length = 0 := by
          have := tot_zero p 0 h0
          omega
        have e0 : (((wd p 0 : Nat) : Int) != 0) = false := by simp; omega
        have HN := Lib.hid hn
        clear h0 hn hz
        go_wp2_with fail
        go_roundw
        case rel => exact ⟨0 + 1, rfl, by omega, HN.out, R⟩
        case measure => simp [intOf]
      · have e0 : (((wd p 0 : Nat) : Int) != 0) = true := by simp; omega
        have HF := Lib.hid (first_word p 0 (by omega) hz h0)
        have hlt := ctz_lt (wd p 0) (wd_lt p 0) h0
        have HZ := Lib.hid h0
        have hT' := hT.keep hb
        clear h0 hz
        go_wp2_with fail
        refine (tz_any _ (wd_lt p 0) HZ.out _ hT').mono ?_
        rintro e w1 ⟨rfl, rfl⟩
        go_wp2_with fail
        go_ret
        exact ⟨by rw [← HF.out]; simp, hb⟩
    · rcases (by omega : wd p 1 = 0 ∨ wd p 1 ≠ 0) with h0 | h0
      · have hn : (lst p (64 * (1 + 1))).length = 0 := by
          have := tot_zero p 1 h0
          omega
        have e0 : (((wd p 1 : Nat) : Int) != 0) = false := by simp; omega
        have HN := Lib.hid hn
        clear h0 hn hz
        go_wp2_with fail
        go_roundw
        case rel => exact ⟨1 + 1, rfl, by omega, HN.out, R⟩
        case measure => simp [intOf]
      · have e0 : (((wd p 1 : Nat) : Int) != 0) = true := by simp; omega
        have HF := Lib.hid (first_word p 1 (by omega) hz h0)
        have hlt := ctz_lt (wd p 1) (wd_lt p 1) h0
        have HZ := Lib.hid h0
        have hT' := hT.keep hb
        clear h0 hz
        go_wp2_with fail
        refine (tz_any _ (wd_lt p 1) HZ.out _ hT').mono ?_
        rintro e w1 ⟨rfl, rfl⟩
        go_wp2_with fail
        go_ret
        exact ⟨by rw [← HF.out]; simp, hb⟩
    · rcases (by omega : wd p 2 = 0 ∨ wd p 2 ≠ 0) with h0 | h0
      · have hn : (lst p (64 * (2 + 1))).length = 0 := by
          have := tot_zero p 2 h0
          omega
        have e0 : (((wd p 2 : Nat) : Int) != 0) = false := by simp; omega
        have HN := Lib.hid hn
        clear h0 hn hz
        go_wp2_with fail
        go_roundw
        case rel => exact ⟨2 + 1, rfl, by omega, HN.out, R⟩
        case measure => simp [intOf]
      · have e0 : (((wd p 2 : Nat) : Int) != 0) = true := by simp; omega
        have HF := Lib.hid (first_word p 2 (by omega) hz h0)
        have hlt := ctz_lt (wd p 2) (wd_lt p 2) h0
        have HZ := Lib.hid h0
        have hT' := hT.keep hb
        clear h0 hz
        go_wp2_with fail
        refine (tz_any _ (wd_lt p 2) HZ.out _ hT').mono ?_
        rintro e w1 ⟨rfl, rfl⟩
        go_wp2_with fail
        go_ret
        exact ⟨by rw [← HF.out]; simp, hb⟩
    · rcases (by omega : wd p 3 = 0 ∨ wd p 3 ≠ 0) with h0 | h0
      · have hn : (lst p (64 * (3 + 1))).length = 0 := by
          have := tot_zero p 3 h0
          omega
        have e0 : (((wd p 3 : Nat) : Int) != 0) = false := by simp; omega
        have HN := Lib.hid hn
        clear h0 hn hz
        go_wp2_with fail
        go_roundw
        case rel => exact ⟨3 + 1, rfl, by omega, HN.out, R⟩
        case measure => simp [intOf]
      · have e0 : (((wd p 3 : Nat) : Int) != 0) = true := by simp; omega
        have HF := Lib.hid (first_word p 3 (by omega) hz h0)
        have hlt := ctz_lt (wd p 3) (wd_lt p 3) h0
        have HZ := Lib.hid h0
        have hT' := hT.keep hb
        clear h0 hz
        go_wp2_with fail
        refine (tz_any _ (wd_lt p 3) HZ.out _ hT').mono ?_
        rintro e w1 ⟨rfl, rfl⟩
        go_wp2_with fail
        go_ret
        exact ⟨by rw [← HF.out]; simp, hb⟩
    · have HL : Hid (least p = -1) := by
        show least p = -1
        unfold least
        rw [show lst p 256 = [] from List.length_eq_zero_iff.1 hz]
      clear hz
      go_wp2_with fail
      go_ret
      exact ⟨congrArg (fun n : Int => Ending.returned (.int .i64 n)) HL.out.symm, hb⟩
end Go.Proofs.YtjhfgiflcenjpaaDoor
