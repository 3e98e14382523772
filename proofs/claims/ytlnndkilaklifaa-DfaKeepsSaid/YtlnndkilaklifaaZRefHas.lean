import Derived.Test.YtlnndkilaklifaaZSt
import Derived.LoopTactic
namespace Go.Proofs.Ytlnndkilaklifaa
open Go.RowKit

end Go.Proofs.Ytlnndkilaklifaa

namespace Go.Proofs.Ytlnndkilaklifaa
open Go.RowKit

theorem Fills.one {w wr : World} {q : Nat → Bool} (h : Fills w q wr) (q' : Nat → Bool) (i : Nat) (v : Value) (e : (#[.int .u64 ((wd q 0 : Nat) : Int), .int .u64 ((wd q 1 : Nat) : Int), .int .u64 ((wd q 2 : Nat) : Int), .int .u64 ((wd q 3 : Nat) : Int)]).setIfInBounds i v = #[.int .u64 ((wd q' 0 : Nat) : Int), .int .u64 ((wd q' 1 : Nat) : Int), .int .u64 ((wd q' 2 : Nat) : Int), .int .u64 ((wd q' 3 : Nat) : Int)]) :
    Fills w q' (wr.setCell ⟨w.heap.size + 1, i, none⟩ v) :=
  ⟨h.s0.far (by simp) _, e ▸ h.s1.set i _, h.below.setCell (by simp) _⟩

end Go.Proofs.Ytlnndkilaklifaa

namespace Go.Proofs.Ytlnndkilaklifaa
open Go.RowKit

theorem div_pow (x k : Nat) : x / 2 ^ k / 2 = x / 2 ^ (k + 1) := by rw [Nat.div_div_eq_div_mul, Nat.pow_succ]

theorem rhas_any (p : Nat → Bool) (b : Nat) (hb : b < 256) (w : World) :
    Calls Try.prog 39 #[(.agg #[.int .u64 ((wd p 0 : Nat) : Int), .int .u64 ((wd p 1 : Nat) : Int), .int .u64 ((wd p 2 : Nat) : Int), .int .u64 ((wd p 3 : Nat) : Int)]), .int .i64 b] w fun e w' => e = .returned (.bool (p b)) ∧ Below w.heap.size w w' := by
  have hq : b / 64 = 0 ∨ b / 64 = 1 ∨ b / 64 = 2 ∨ b / 64 = 3 := by omega
  rcases hq with h | h | h | h
  · go_enter Try.func39, Try.ntmps39
    go_wp2_with fail
    go_loop [5, 6] (fun x i => ∃ k y : Nat, k ≤ b % 64 ∧ i = .int .i64 k ∧ x = .int .u64 y ∧ y < 18446744073709551616 ∧ Hid (y = wd p 0 / 2 ^ k)) (fun _ i => b % 64 - (intOf i).toNat)
    case atStart => exact ⟨0, wd p 0, Nat.zero_le _, rfl, rfl, wd_lt _ _, by simp [Hid]⟩
    case round =>
      obtain ⟨k, y, hk, rfl, rfl, hy, HY⟩ := hrel
      by_cases hlt : k < b % 64
      · have HN : Hid (y / 2 = wd p 0 / 2 ^ (k + 1)) := by have := HY.out; subst this; exact div_pow _ _
        have hy2 : y / 2 < 18446744073709551616 := by omega
        go_wp2_with fail
        go_round
        case rel => exact ⟨k + 1, y / 2, by omega, by go_num, by simp, hy2, HN⟩
        case measure => simp [intOf]; omega
      · obtain rfl : k = b % 64 := by omega
        have HZ : Hid (((y : Int) % 2 == 1) = p b) := by
          have h1 := HY.out
          have h2 := wd_has p b 0 h
          rw [← h1] at h2
          show ((y : Int) % 2 == 1) = p b
          cases hp : p b
          · simp [hp] at h2; simp; omega
          · simp [hp] at h2; simp; omega
        clear HY
        go_wp2_with fail
        rw [HZ.out]
        go_ret
        exact ⟨rfl, (Below.refl _ _).alloc (Nat.le_refl _) _⟩
  · go_enter Try.func39, Try.ntmps39
    go_wp2_with fail
    go_loop [5, 6] (fun x i => ∃ k y : Nat, k ≤ b % 64 ∧ i = .int .i64 k ∧ x = .int .u64 y ∧ y < 18446744073709551616 ∧ Hid (y = wd p 1 / 2 ^ k)) (fun _ i => b % 64 - (intOf i).toNat)
    case atStart => exact ⟨0, wd p 1, Nat.zero_le _, rfl, rfl, wd_lt _ _, by simp [Hid]⟩
    case round =>
      obtain ⟨k, y, hk, rfl, rfl, hy, HY⟩ := hrel
      by_cases hlt : k < b % 64
      · have HN : Hid (y / 2 = wd p 1 / 2 ^ (k + 1)) := by have := HY.out; subst this; exact div_pow _ _
        have hy2 : y / 2 < 18446744073709551616 := by omega
        go_wp2_with fail
        go_round
        case rel => exact ⟨k + 1, y / 2, by omega, by go_num, by simp, hy2, HN⟩
        case measure => simp [intOf]; omega
      · obtain rfl : k = b % 64 := by omega
        have HZ : Hid (((y : Int) % 2 == 1) = p b) := by
          have h1 := HY.out
          have h2 := wd_has p b 1 h
          rw [← h1] at h2
          show ((y : Int) % 2 == 1) = p b
          cases hp : p b
          · simp [hp] at h2; simp; omega
          · simp [hp] at h2; simp; omega
        clear HY
        go_wp2_with fail
        rw [HZ.out]
        go_ret
        exact ⟨rfl, (Below.refl _ _).alloc (Nat.le_refl _) _⟩
  · go_enter Try.func39, Try.ntmps39
    go_wp2_with fail
    go_loop [5, 6] (fun x i => ∃ k y : Nat, k ≤ b % 64 ∧ i = .int .i64 k ∧ x = .int .u64 y ∧ y < 18446744073709551616 ∧ Hid (y = wd p 2 / 2 ^ k)) (fun _ i => b % 64 - (intOf i).toNat)
    case atStart => exact ⟨0, wd p 2, Nat.zero_le _, rfl, rfl, wd_lt _ _, by simp [Hid]⟩
    case round =>
      obtain ⟨k, y, hk, rfl, rfl, hy, HY⟩ := hrel
      by_cases hlt : k < b % 64
      · have HN : Hid (y / 2 = wd p 2 / 2 ^ (k + 1)) := by have := HY.out; subst this; exact div_pow _ _
        have hy2 : y / 2 < 18446744073709551616 := by omega
        go_wp2_with fail
        go_round
        case rel => exact ⟨k + 1, y / 2, by omega, by go_num, by simp, hy2, HN⟩
        case measure => simp [intOf]; omega
      · obtain rfl : k = b % 64 := by omega
        have HZ : Hid (((y : Int) % 2 == 1) = p b) := by
          have h1 := HY.out
          have h2 := wd_has p b 2 h
          rw [← h1] at h2
          show ((y : Int) % 2 == 1) = p b
          cases hp : p b
          · simp [hp] at h2; simp; omega
          · simp [hp] at h2; simp; omega
        clear HY
        go_wp2_with fail
        rw [HZ.out]
        go_ret
        exact ⟨rfl, (Below.refl _ _).alloc (Nat.le_refl _) _⟩
  · go_enter Try.func39, Try.ntmps39
    go_wp2_with fail
    go_loop [5, 6] (fun x i => ∃ k y : Nat, k ≤ b % 64 ∧ i = .int .i64 k ∧ x = .int .u64 y ∧ y < 18446744073709551616 ∧ Hid (y = wd p 3 / 2 ^ k)) (fun _ i => b % 64 - (intOf i).toNat)
    case atStart => exact ⟨0, wd p 3, Nat.zero_le _, rfl, rfl, wd_lt _ _, by simp [Hid]⟩
    case round =>
      obtain ⟨k, y, hk, rfl, rfl, hy, HY⟩ := hrel
      by_cases hlt : k < b % 64
      · have HN : Hid (y / 2 = wd p 3 / 2 ^ (k + 1)) := by have := HY.out; subst this; exact div_pow _ _
        have hy2 : y / 2 < 18446744073709551616 := by omega
        go_wp2_with fail
        go_round
        case rel => exact ⟨k + 1, y / 2, by omega, by go_num, by simp, hy2, HN⟩
        case measure => simp [intOf]; omega
      · obtain rfl : k = b % 64 := by omega
        have HZ : Hid (((y : Int) % 2 == 1) = p b) := by
          have h1 := HY.out
          have h2 := wd_has p b 3 h
          rw [← h1] at h2
          show ((y : Int) % 2 == 1) = p b
          cases hp : p b
          · simp [hp] at h2; simp; omega
          · simp [hp] at h2; simp; omega
        clear HY
        go_wp2_with fail
        rw [HZ.out]
        go_ret
        exact ⟨rfl, (Below.refl _ _).alloc (Nat.le_refl _) _⟩
end Go.Proofs.Ytlnndkilaklifaa
