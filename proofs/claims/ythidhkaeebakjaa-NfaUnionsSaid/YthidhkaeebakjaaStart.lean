import Derived.Test.YthidhkaeebakjaaTakes
namespace Go.Proofs.Ythidhkaeebakjaa
open Go.RowKit

/-- Where the expression begins, step by step. -/
theorem stGo_step (l : List Pc) (k : Nat) (hk : k < l.length) (m : Int) : stGo (l.take (k + 1)).reverse m = if m + (takesZ l[k].k - 1) ≤ 0 then k else stGo (l.take k).reverse (m + (takesZ l[k].k - 1)) := by
  rw [List.take_succ_eq_append_getElem hk, List.reverse_append]
  simp only [List.reverse_singleton, List.singleton_append, stGo]
  congr 1
  simp; omega

set_option maxHeartbeats 4000000 in
set_option maxRecDepth 100000 in
theorem start_any (l : List Pc) (a : Option Addr) (n cap : Nat) (w : World) (hL : RxAt w a l) (hn : l.length = n) (hmax : n ≤ 1000000) (i : Nat) (hi : i < n) :
    Calls Try.prog 58 #[.slice a n cap, .int .i64 i] w fun e w' => e = .returned (.int .i64 ((startT l i : Nat) : Int)) ∧ w = w' := by
  have HN := Lib.hid hn
  have HL := Lib.hid hL
  obtain ⟨R, hR⟩ : ∃ R, startT l i = R := ⟨_, rfl⟩
  rw [hR]
  have HG0 : Hid (stGo (l.take (i + 1)).reverse 1 = R) := hR
  have hd : decide (n ≤ i) = false := by simp; omega
  clear hn hL hR
  go_enter Try.func58, Try.ntmps58
  go_wp2_with fail
  go_loopw [1, 5] (fun v m wr => ∃ (k : Nat) (z : Int), v = .int .i64 ((k : Int) - 1) ∧ k ≤ i + 1 ∧ m = .int .i64 z ∧ 1 ≤ z ∧ z ≤ 1 + (n - k : Int) ∧ Hid (stGo (l.take k).reverse z = R) ∧ w = wr) (fun v _ _ => (intOf v + 1).toNat)
  case atStart => exact ⟨i + 1, 1, by go_num, Nat.le_refl _, rfl, by omega, by omega, HG0, rfl⟩
  case round =>
    obtain ⟨k, z, rfl, hk, rfl, hz1, hz2, HG, rfl⟩ := hrel
    rcases k with _ | k
    · have HZ : Hid (R = 0) := by show _ = _; rw [← HG.out]; simp [stGo]
      go_wp2_with fail
      go_ret
      exact ⟨by rw [HZ.out]; rfl, rfl⟩
    · have hkl : k < l.length := by rw [HN.out]; omega
      have hkn : k < n := by omega
      obtain ⟨g, off, rfl, hg, c0, c1, c2, c3, c4⟩ := HL.out.get k hkl
      have HS := Lib.hid (stGo_step l k hkl z)
      generalize l[k] = x at c0 c1 c2 c3 c4 HS
      obtain ⟨t, ht⟩ : ∃ t, takesZ x.k = t := ⟨_, rfl⟩
      have ht1 : -1 ≤ t ∧ t ≤ 2 := by have := takesZ_cases x.k; omega
      have HT := Lib.hid ht
      clear ht hkl c1 c2 c3 c4
      have e0 : ((k + 1 : Nat) : Int) - 1 = (k : Int) := by omega
      rw [e0]
      go_wp2_with fail
      refine (takes_any _ _).mono ?_
      rintro e w1 ⟨rfl, rfl⟩
      rw [HT.out]
      by_cases h1 : z + (t - 1) ≤ 0
      · have HZ : Hid (R = k) := by show _ = _; rw [← HG.out, HS.out, HT.out, if_pos h1]
        go_wp2_with fail
        go_ret
        exact ⟨by rw [HZ.out]; rfl, rfl⟩
      · have HZ : Hid (stGo (l.take k).reverse (z + (t - 1)) = R) := by show _ = _; rw [← HG.out, HS.out, HT.out, if_neg h1]
        go_wp2_with fail
        go_roundw
        case rel => exact ⟨k, z + (t - 1), by go_num, by omega, by go_num, by omega, by omega, HZ, (by first | rfl | trivial)⟩
        case measure => simp [intOf]
end Go.Proofs.Ythidhkaeebakjaa
