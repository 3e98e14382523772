import Derived.Test.YtjhfgiflcenjpaaDoorZRange
import Derived.Test.YtjhfgiflcenjpaaDoorZSt
import Derived.LoopTactic
namespace Go.Proofs.YtjhfgiflcenjpaaDoor
open Go.RowKit

theorem div_pow (x k : Nat) : x / 2 ^ k / 2 = x / 2 ^ (k + 1) := by rw [Nat.div_div_eq_div_mul, Nat.pow_succ]

theorem rhas_any (p : Nat → Bool) (b : Nat) (hb : b < 256) (w : World) :
    Calls Tryd.prog 40 #[(.agg #[.int .u64 ((wd p 0 : Nat) : Int), .int .u64 ((wd p 1 : Nat) : Int), .int .u64 ((wd p 2 : Nat) : Int), .int .u64 ((wd p 3 : Nat) : Int)]), .int .i64 b] w fun e w' => e = .returned (.bool (p b)) ∧ Below w.heap.size w w' := by
  have hq : b / 64 = 0 ∨ b / 64 = 1 ∨ b / 64 = 2 ∨ b / 64 = 3 := by omega
  rcases hq with h | h | h | h
  · go_enter Tryd.func40, Tryd.ntmps40
    go_wp2_with fail
    go_loop [5, 6] (fun x i => ∃ k y : Nat, k ≤ b % 64 ∧ i = .int .i64 k ∧ x = .int .u64 y ∧ y < 18446744073709551616 ∧ Hid (y = wd p 0 / 2 ^ k)) (fun _ i => b % 64 - (intOf i).toNat)
    case atStart => exact ⟨0, wd p 0, Nat.zero_le _, rfl, rfl, wd_lt _ _, by simp [Hid]⟩
    case round =>
      obtain ⟨k, y, hk, rfl, rfl, hy, HY⟩ := hrel
      by_cases hlt : k < b % 64
      · have HN : Hid (y / 2 = wd p 0 / 2 ^ (k + 1)) := by have := HY.out; subst this; exact div_pow _ _
        have hy2 : y / 2 < 18446744073709551616 := by omega
        go_wp2_with fail
        go_round
        case rel => exact ⟨k + 1, y / 2, by omega, by go_num, by simp, hy2, HN⟩
        case measure => simp [intOf]; omega
      · obtain rfl : k = b % 64 := by omega
        have HZ : Hid (((y : Int) % 2 == 1) = p b) := by
          have h1 := HY.out
          have h2 := wd_has p b 0 h
          rw [← h1] at h2
          show ((y : Int) % 2 == 1) = p b
          cases hp : p b
          · simp [hp] at h2; simp; omega
          · simp [hp] at h2; simp; omega
        clear HY
        go_wp2_with fail
        rw [HZ.out]
        go_ret
        exact ⟨rfl, (Below.refl _ _).alloc (Nat.le_refl _) _⟩
  · go_enter Tryd.func40, Tryd.ntmps40
    go_wp2_with fail
    go_loop [5, 6] (fun x i => ∃ k y : Nat, k ≤ b % 64 ∧ i = .int .i64 k ∧ x = .int .u64 y ∧ y < 18446744073709551616 ∧ Hid (y = wd p 1 / 2 ^ k)) (fun _ i => b % 64 - (intOf i).toNat)
    case atStart => exact ⟨0, wd p 1, Nat.zero_le _, rfl, rfl, wd_lt _ _, by simp [Hid]⟩
    case round =>
      obtain ⟨k, y, hk, rfl, rfl, hy, HY⟩ := hrel
      by_cases hlt : k < b % 64
      · have HN : Hid (y / 2 = wd p 1 / 2 ^ (k + 1)) := by have := HY.out; subst this; exact div_pow _ _
        have hy2 : y / 2 < 18446744073709551616 := by omega
        go_wp2_with fail
        go_round
        case rel => exact ⟨k + 1, y / 2, by omega, by go_num, by simp, hy2, HN⟩
        case measure => simp [intOf]; omega
      · obtain rfl : k = b % 64 := by omega
        have HZ : Hid (((y : Int) % 2 == 1) = p b) := by
          have h1 := HY.out
          have h2 := wd_has p b 1 h
          rw [← h1] at h2
          show ((y : Int) % 2 == 1) = p b
          cases hp : p b
          · simp [hp] at h2; simp; omega
          · simp [hp] at h2; simp; omega
        clear HY
        go_wp2_with fail
        rw [HZ.out]
        go_ret
        exact ⟨rfl, (Below.refl _ _).alloc (Nat.le_refl _) _⟩
  · go_enter Tryd.func40, Tryd.ntmps40
    go_wp2_with fail
    go_loop [5, 6] (fun x i => ∃ k y : Nat, k ≤ b % 64 ∧ i = .int .i64 k ∧ x = .int .u64 y ∧ y < 18446744073709551616 ∧ Hid (y = wd p 2 / 2 ^ k)) (fun _ i => b % 64 - (intOf i).toNat)
    case atStart => exact ⟨0, wd p 2, Nat.zero_le _, rfl, rfl, wd_lt _ _, by simp [Hid]⟩
    case round =>
      obtain ⟨k, y, hk, rfl, rfl, hy, HY⟩ := hrel
      by_cases hlt : k < b % 64
      · have HN : Hid (y / 2 = wd p 2 / 2 ^ (k + 1)) := by have := HY.out; subst this; exact div_pow _ _
        have hy2 : y / 2 < 18446744073709551616 := by omega
        go_wp2_with fail
        go_round
        case rel => exact ⟨k + 1, y / 2, by omega, by go_num, by simp, hy2, HN⟩
        case measure => simp [intOf]; omega
      · obtain rfl : k = b % 64 := by omega
        have HZ : Hid (((y : Int) % 2 == 1) = p b) := by
          have h1 := HY.out
          have h2 := wd_has p b 2 h
          rw [← h1] at h2
          show ((y : Int) % 2 == 1) = p b
          cases hp : p b
          · simp [hp] at h2; simp; omega
          · simp [hp] at h2; simp; omega
        clear HY
        go_wp2_with fail
        rw [HZ.out]
        go_ret
        exact ⟨rfl, (Below.refl _ _).alloc (Nat.le_refl _) _⟩
  · go_enter Tryd.func40, Tryd.ntmps40
    go_wp2_with fail
    go_loop [5, 6] (fun x i => ∃ k y : Nat, k ≤ b % 64 ∧ i = .int .i64 k ∧ x = .int .u64 y ∧ y < 18446744073709551616 ∧ Hid (y = wd p 3 / 2 ^ k)) (fun _ i => b % 64 - (intOf i).toNat)
    case atStart => exact ⟨0, wd p 3, Nat.zero_le _, rfl, rfl, wd_lt _ _, by simp [Hid]⟩
    case round =>
      obtain ⟨k, y, hk, rfl, rfl, hy, HY⟩ := hrel
      by_cases hlt : k < b % 64
      · have HN : Hid (y / 2 = wd p 3 / 2 ^ (k + 1)) := by have := HY.out; subst this; exact div_pow _ _
        have hy2 : y / 2 < 18446744073709551616 := by omega
        go_wp2_with fail
        go_round
        case rel => exact ⟨k + 1, y / 2, by omega, by go_num, by simp, hy2, HN⟩
        case measure => simp [intOf]; omega
      · obtain rfl : k = b % 64 := by omega
        have HZ : Hid (((y : Int) % 2 == 1) = p b) := by
          have h1 := HY.out
          have h2 := wd_has p b 3 h
          rw [← h1] at h2
          show ((y : Int) % 2 == 1) = p b
          cases hp : p b
          · simp [hp] at h2; simp; omega
          · simp [hp] at h2; simp; omega
        clear HY
        go_wp2_with fail
        rw [HZ.out]
        go_ret
        exact ⟨rfl, (Below.refl _ _).alloc (Nat.le_refl _) _⟩
end Go.Proofs.YtjhfgiflcenjpaaDoor

namespace Go.Proofs.YtjhfgiflcenjpaaDoor
open Go.RowKit

theorem Fills.one {w wr : World} {q : Nat → Bool} (h : Fills w q wr) (q' : Nat → Bool) (i : Nat) (v : Value) (e : (#[.int .u64 ((wd q 0 : Nat) : Int), .int .u64 ((wd q 1 : Nat) : Int), .int .u64 ((wd q 2 : Nat) : Int), .int .u64 ((wd q 3 : Nat) : Int)]).setIfInBounds i v = #[.int .u64 ((wd q' 0 : Nat) : Int), .int .u64 ((wd q' 1 : Nat) : Int), .int .u64 ((wd q' 2 : Nat) : Int), .int .u64 ((wd q' 3 : Nat) : Int)]) :
    Fills w q' (wr.setCell ⟨w.heap.size + 1, i, none⟩ v) :=
  ⟨h.s0.far (by simp) _, e ▸ h.s1.set i _, h.below.setCell (by simp) _⟩

set_option maxRecDepth 100000 in
theorem rof_any (p : Nat → Bool) (b off cap : Nat) (w : World) (hb : b < w.heap.size) (hz : ∀ j, j < 256 → w.cell? ⟨b, off + j, none⟩ = some (.bool (p j))) :
    Calls Tryd.prog 46 #[.slice (some ⟨b, off, none⟩) 256 cap] w fun e w' => e = .returned (.agg #[.int .u64 ((wd p 0 : Nat) : Int), .int .u64 ((wd p 1 : Nat) : Int), .int .u64 ((wd p 2 : Nat) : Int), .int .u64 ((wd p 3 : Nat) : Int)]) ∧ Below w.heap.size w w' := by
  go_enter Tryd.func46, Tryd.ntmps46
  go_wp2_with fail
  go_loopw [4] (fun i wr => ∃ k : Nat, i = .int .i64 k ∧ k ≤ 256 ∧ Fills w (upTo p k) wr) (fun i _ => 256 - (intOf i).toNat)
  case atStart => exact ⟨0, rfl, Nat.zero_le _, by rw [upTo_zero]; exact Fills.start w⟩
  case round =>
    obtain ⟨k, rfl, hk, R⟩ := hrel
    obtain ⟨r0, r1, r2, r3, r4, r5, r6, r7⟩ := row4 R.s0
    obtain ⟨q0, q1, q2, q3, q4, q5, q6, q7⟩ := row4 R.s1
    by_cases hlt : k < 256
    · have hc := (R.below.cell (p := ⟨b, off + k, none⟩) hb).trans (hz k hlt)
      rcases hpk : p k with _ | _
      · have HN := Lib.hid (upTo_no p k hpk)
        rw [hpk] at hc
        clear hpk hz
        go_wp2_with fail
        go_roundw
        case rel => exact ⟨k + 1, by go_num, by omega, by rw [HN.out]; exact R⟩
        case measure => simp [intOf]; omega
      · have HN := Lib.hid (upTo_yes p k hpk)
        rw [hpk] at hc
        clear hpk hz
        rcases (by omega : k / 64 = 0 ∨ k / 64 = 1 ∨ k / 64 = 2 ∨ k / 64 = 3) with h | h | h | h
        · go_wp2_with fail
          rw [bits_add p k 0 h]
          have R1 := R.one (ins (upTo p k) k) 0 (.int .u64 ((wd (ins (upTo p k) k) 0 : Nat) : Int)) (by rw [wd_far (upTo p k) k 1 (by omega), wd_far (upTo p k) k 2 (by omega), wd_far (upTo p k) k 3 (by omega)]; rfl)
          go_roundw
          case rel => exact ⟨k + 1, by go_num, by omega, by rw [HN.out]; exact R1⟩
          case measure => simp [intOf]; omega
        · go_wp2_with fail
          rw [bits_add p k 1 h]
          have R1 := R.one (ins (upTo p k) k) 1 (.int .u64 ((wd (ins (upTo p k) k) 1 : Nat) : Int)) (by rw [wd_far (upTo p k) k 0 (by omega), wd_far (upTo p k) k 2 (by omega), wd_far (upTo p k) k 3 (by omega)]; rfl)
          go_roundw
          case rel => exact ⟨k + 1, by go_num, by omega, by rw [HN.out]; exact R1⟩
          case measure => simp [intOf]; omega
        · go_wp2_with fail
          rw [bits_add p k 2 h]
          have R1 := R.one (ins (upTo p k) k) 2 (.int .u64 ((wd (ins (upTo p k) k) 2 : Nat) : Int)) (by rw [wd_far (upTo p k) k 0 (by omega), wd_far (upTo p k) k 1 (by omega), wd_far (upTo p k) k 3 (by omega)]; rfl)
          go_roundw
          case rel => exact ⟨k + 1, by go_num, by omega, by rw [HN.out]; exact R1⟩
          case measure => simp [intOf]; omega
        · go_wp2_with fail
          rw [bits_add p k 3 h]
          have R1 := R.one (ins (upTo p k) k) 3 (.int .u64 ((wd (ins (upTo p k) k) 3 : Nat) : Int)) (by rw [wd_far (upTo p k) k 0 (by omega), wd_far (upTo p k) k 1 (by omega), wd_far (upTo p k) k 2 (by omega)]; rfl)
          go_roundw
          case rel => exact ⟨k + 1, by go_num, by omega, by rw [HN.out]; exact R1⟩
          case measure => simp [intOf]; omega
    · obtain rfl : k = 256 := by omega
      have hbel := R.below
      clear R
      rw [wd_upTo p 0 (by decide)] at q0
      rw [wd_upTo p 1 (by decide)] at q1
      rw [wd_upTo p 2 (by decide)] at q2
      rw [wd_upTo p 3 (by decide)] at q3
      go_wp2_with fail
      exact bodyPost_ret (v := (.agg #[.int .u64 ((wd p 0 : Nat) : Int), .int .u64 ((wd p 1 : Nat) : Int), .int .u64 ((wd p 2 : Nat) : Int), .int .u64 ((wd p 3 : Nat) : Int)])) (by simp [results, Tryd.results46, go_sem, r0, r1, r2, r3]) rfl ⟨rfl, below4 hbel (Nat.le_refl _) _ _ _ _⟩
end Go.Proofs.YtjhfgiflcenjpaaDoor
