import Derived.Test.YtghhjonhmelohaaYKind
import Derived.Test.YtghhjonhmelohaaShelf
import Derived.Lib.IndexAny
namespace Go.Proofs.Ytghhjonhmelohaa
open Go.RowKit Go.Maps Go.WideElems Go.ChangeMaps Go.MapKept
set_option linter.unusedVariables false
set_option linter.unusedSimpArgs false

set_option maxHeartbeats 1000000 in
set_option maxRecDepth 100000 in
theorem breaks_any (s : ByteArray) (w : World) : Calls Try.prog 15 #[.string s] w fun e w' => e = .returned (.bool (bkF s)) ∧ w' = w := by
  have HC := Lib.hid (Try.strings_Contains_one s 10 w)
  have he : bkF s = decide (0 ≤ Lib.indexByte s.data.toList 10) := by
    unfold bkF
    exact Lib.contains_iff_indexByte _ _
  rw [he]
  clear he
  go_enter Try.func15, Try.ntmps15
  go_wp2_with (go_at_call 23; refine HC.out.mono ?_; rintro e w2 ⟨rfl, rfl⟩)
  go_ret
  exact ⟨rfl, rfl⟩

set_option maxHeartbeats 1000000 in
set_option maxRecDepth 100000 in
theorem rbreaks14_any (s : ByteArray) (m : Nat) (hs : s.size = m) (hm : m ≤ 1000000) (w : World) : Calls Try.prog 16 #[.string s] w fun e w' => e = .returned (.bool (bkF s)) ∧ w' = w := by
  have hss := hs
  have HS := Lib.hid hs
  clear hs
  go_enter Try.func16, Try.ntmps16
  go_wp2_with fail
  go_loopw [3] (fun v wr => ∃ k : Nat, v = .int .i64 k ∧ k ≤ m ∧ wr = w ∧ Hid (∀ i, i < k → ∀ h : i < s.size, (s[i]'h).toNat ≠ 10)) (fun v _ => m - (nV v).toNat)
  case atStart => exact ⟨0, rfl, Nat.zero_le _, rfl, fun i hi => absurd hi (by omega)⟩
  case round =>
    obtain ⟨k, rfl, hk, rfl, HX⟩ := hrel
    by_cases hlt : k < m
    · have i2 : (k : Int) < (m : Int) := by omega
      have hks : k < s.size := by omega
      obtain ⟨bt, hbe⟩ : ∃ bt, (s[k]'hks).toNat = bt := ⟨_, rfl⟩
      have Hbe := Lib.hid hbe
      by_cases hz : bt = 10
      · have hz' : (bt : Int) = 10 := by omega
        have he : bkF s = true := (bkF_iff s).2 ⟨k, hks, by rw [Hbe.out]; exact hz⟩
        have He := Lib.hid he
        clear he
        subst hz
        go_wp2_with fail
        go_ret
        exact ⟨by rw [He.out]; rfl, rfl⟩
      · have hz' : ¬ ((bt : Int) = 10) := by omega
        have HN : Hid (∀ i, i < k + 1 → ∀ h : i < s.size, (s[i]'h).toNat ≠ 10) := fun i hi h => by
          by_cases e : i = k
          · subst e; rw [Hbe.out]; exact hz
          · exact HX.out i (by omega) h
        go_wp2_with fail
        go_roundw
        case rel => exact ⟨k + 1, by go_num, by omega, by first | trivial | rfl, HN.out⟩
        case measure => simp [nV]; omega
    · have i2 : ¬ ((k : Int) < (m : Int)) := by omega
      have he : bkF s = false := by
        cases hb : bkF s with
        | false => rfl
        | true =>
          obtain ⟨i, h, e⟩ := (bkF_iff s).1 hb
          exact absurd e (HX.out i (by have := HS.out; omega) h)
      have He := Lib.hid he
      clear he
      go_wp2_with fail
      go_ret
      exact ⟨by rw [He.out]; rfl, rfl⟩
end Go.Proofs.Ytghhjonhmelohaa
