import Derived.Test.YtcohjopbhopcgaaGMath
namespace Go.Proofs.Ytcohjopbhopcgaa
open Go.RowKit Go.Maps Go.WideElems Go.ChangeMaps Go.MapKept
set_option linter.unusedVariables false
set_option linter.unusedSimpArgs false

def FindSP (l : List ByteArray) (s : ByteArray) (w : World) (e : Ending) (w' : World) : Prop := e = .returned (.int .i64 (fdS l s)) ∧ w' = w
set_option maxHeartbeats 1000000 in
set_option maxRecDepth 100000 in
theorem rfind16_any (l : List ByteArray) (s : ByteArray) (n c : Nat) (a : Option Addr) (hn : l.length = n) (hn9 : n ≤ 1000000) (w : World) (h1 : SsAt w a l) :
    Calls Try.prog 12 #[.slice a n c, .string s] w (FindSP l s w) := by
  have H := Lib.hid (And.intro h1 hn)
  clear h1 hn
  go_enter Try.func12, Try.ntmps12
  go_wp2_with fail
  go_loopw [5] (fun v wr => ∃ k : Nat, v = .int .i64 k ∧ k ≤ n ∧ wr = w ∧ Hid (∀ j (h : j < l.length), j < k → l[j] ≠ s)) (fun v _ => n - (intOf v).toNat)
  case atStart => exact ⟨0, rfl, Nat.zero_le _, rfl, fun j _ h => absurd h (by omega)⟩
  case round =>
    obtain ⟨k, rfl, hk, rfl, HX⟩ := hrel
    by_cases hlt : k < n
    · have hkA : k < l.length := by rw [H.out.2]; exact hlt
      obtain ⟨g1, o1, rfl, _, q1⟩ := H.out.1 (by omega)
      have x1 := q1 k hkA
      have HN : Hid ((l[k] ≠ s → ∀ j (h : j < l.length), j < k + 1 → l[j] ≠ s) ∧ (l[k] = s → fdS l s = ((k : Nat) : Int))) := by
        refine ⟨fun h j hj h3 => ?_, fun h => fdS_at hkA h HX.out⟩
        by_cases e : j = k
        · subst e; exact h
        · exact HX.out j hj (by omega)
      have i2 : (k : Int) < (n : Int) := by omega
      clear q1
      generalize l[k] = u at x1 HN
      have hse := str_eq15 u s
      rcases hE : (u.toList == s.toList) with _ | _
      · rw [hE] at hse
        have HZ := Lib.hid (HN.out.1 (by simpa using hse.symm))
        try clear hne
        clear hse HN hkA
        go_wp2_with fail
        go_roundw
        case rel => exact ⟨k + 1, by go_num, by omega, by first | trivial | rfl, HZ.out⟩
        case measure => simp [intOf]; omega
      · rw [hE] at hse
        have HZ := Lib.hid (HN.out.2 (by simpa using hse.symm))
        try clear hne
        clear hse HN hkA
        go_wp2_with fail
        go_ret
        exact ⟨by rw [HZ.out]; rfl, rfl⟩
    · obtain rfl : k = n := by omega
      have HZ : Hid (fdS l s = -1) := fdS_no (fun j hj => HX.out j hj (by rw [← H.out.2]; exact hj))
      go_wp2_with fail
      go_ret
      exact ⟨by rw [HZ.out]; rfl, rfl⟩

set_option maxHeartbeats 1000000 in
set_option maxRecDepth 100000 in
theorem sindex_any (l : List ByteArray) (s : ByteArray) (n c : Nat) (a : Option Addr) (hn : l.length = n) (hn9 : n ≤ 1000000) (w : World) (h1 : SsAt w a l) :
    Calls Try.prog 20 #[.slice a n c, .string s] w (FindSP l s w) := by
  have H := Lib.hid (And.intro h1 hn)
  clear h1 hn
  go_enter Try.func20, Try.ntmps20
  go_wp2_with fail
  go_loopw [5, 8] (fun _ v wr => ∃ k : Nat, v = .int .i64 k ∧ k ≤ n ∧ wr = w ∧ Hid (∀ j (h : j < l.length), j < k → l[j] ≠ s)) (fun _ v _ => n - (intOf v).toNat)
  case atStart => exact ⟨0, rfl, Nat.zero_le _, rfl, fun j _ h => absurd h (by omega)⟩
  case round =>
    obtain ⟨k, rfl, hk, rfl, HX⟩ := hrel
    by_cases hlt : k < n
    · have hkA : k < l.length := by rw [H.out.2]; exact hlt
      obtain ⟨g1, o1, rfl, _, q1⟩ := H.out.1 (by omega)
      have x1 := q1 k hkA
      have HN : Hid ((l[k] ≠ s → ∀ j (h : j < l.length), j < k + 1 → l[j] ≠ s) ∧ (l[k] = s → fdS l s = ((k : Nat) : Int))) := by
        refine ⟨fun h j hj h3 => ?_, fun h => fdS_at hkA h HX.out⟩
        by_cases e : j = k
        · subst e; exact h
        · exact HX.out j hj (by omega)
      have i2 : (k : Int) < (n : Int) := by omega
      clear q1
      generalize l[k] = u at x1 HN
      have hse := str_eq15 s u
      rcases hE : (s.toList == u.toList) with _ | _
      · rw [hE] at hse
        have hne : u ≠ s := fun e => by simp [e] at hse
        have HZ := Lib.hid (HN.out.1 hne)
        try clear hne
        clear hse HN hkA
        go_wp2_with fail
        go_roundw
        case rel => exact ⟨k + 1, by go_num, by omega, by first | trivial | rfl, HZ.out⟩
        case measure => simp [intOf]; omega
      · rw [hE] at hse
        have hus : s = u := by simpa using hse
        have HZ := Lib.hid (HN.out.2 hus.symm)
        try clear hus
        try clear hne
        clear hse HN hkA
        go_wp2_with fail
        go_ret
        exact ⟨by rw [HZ.out]; rfl, rfl⟩
    · obtain rfl : k = n := by omega
      have HZ : Hid (fdS l s = -1) := fdS_no (fun j hj => HX.out j hj (by rw [← H.out.2]; exact hj))
      go_wp2_with fail
      go_ret
      exact ⟨by rw [HZ.out]; rfl, rfl⟩
end Go.Proofs.Ytcohjopbhopcgaa
