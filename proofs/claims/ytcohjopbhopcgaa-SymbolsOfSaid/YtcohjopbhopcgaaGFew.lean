import Derived.Test.YtcohjopbhopcgaaGMath
namespace Go.Proofs.Ytcohjopbhopcgaa
open Go.RowKit Go.Maps Go.WideElems Go.ChangeMaps Go.MapKept
set_option linter.unusedVariables false
set_option linter.unusedSimpArgs false

def FewSP (l : List ByteArray) (w : World) (e : Ending) (w' : World) : Prop := ∃ r, e = .returned (.bool r) ∧ (r = true → FewS l) ∧ w' = w
set_option maxHeartbeats 1000000 in
set_option maxRecDepth 100000 in
theorem few16_any (l : List ByteArray) (n c : Nat) (a : Option Addr) (hn : l.length = n) (hn9 : n ≤ 9223372036854775807) (hs9 : ∀ j (h : j < l.length), l[j].size ≤ 9223372036854775807) (w : World) (h1 : SsAt w a l) :
    Calls Try.prog 6 #[.slice a n c] w (FewSP l w) := by
  have H := Lib.hid (And.intro h1 (And.intro hn hs9))
  clear h1 hn hs9
  go_enter Try.func6, Try.ntmps6
  by_cases h8 : 400 < n
  · have i1 : (400 : Int) < (n : Int) := by omega
    go_wp2_with fail
    go_ret
    exact ⟨false, rfl, fun h => absurd h (by decide), rfl⟩
  have i1 : ¬ ((400 : Int) < (n : Int)) := by omega
  go_wp2_with fail
  go_loopw [3] (fun v wr => ∃ k : Nat, v = .int .i64 k ∧ k ≤ n ∧ wr = w ∧ Hid (∀ j (h : j < l.length), j < k → l[j].size ≤ 100)) (fun v _ => n - (intOf v).toNat)
  case atStart => exact ⟨0, rfl, Nat.zero_le _, rfl, fun j _ h => absurd h (by omega)⟩
  case round =>
    obtain ⟨k, rfl, hk, rfl, HX⟩ := hrel
    by_cases hlt : k < n
    · have hkA : k < l.length := by rw [H.out.2.1]; exact hlt
      obtain ⟨g1, o1, rfl, _, q1⟩ := H.out.1 (by omega)
      have x1 := q1 k hkA
      have HN : Hid (l[k].size ≤ 100 → ∀ j (h : j < l.length), j < k + 1 → l[j].size ≤ 100) := fun h j hj h3 => by
        by_cases e : j = k
        · subst e; exact h
        · exact HX.out j hj (by omega)
      have hs := H.out.2.2 k hkA
      have i2 : (k : Int) < (n : Int) := by omega
      clear q1
      generalize l[k] = s at x1 HN hs
      by_cases h9 : 100 < s.size
      · have i3 : (100 : Int) < (s.size : Int) := by omega
        go_wp2_with fail
        go_ret
        exact ⟨false, rfl, fun h => absurd h (by decide), rfl⟩
      · have i3 : ¬ ((100 : Int) < (s.size : Int)) := by omega
        have HZ := Lib.hid (HN.out (by omega))
        go_wp2_with fail
        go_roundw
        case rel => exact ⟨k + 1, by go_num, by omega, by first | trivial | rfl, HZ.out⟩
        case measure => simp [intOf]; omega
    · obtain rfl : k = n := by omega
      have HZ : Hid (FewS l) := ⟨by rw [H.out.2.1]; omega, fun j hj => HX.out j hj (by rw [← H.out.2.1]; exact hj)⟩
      go_wp2_with fail
      go_ret
      exact ⟨true, rfl, fun _ => HZ.out, rfl⟩
end Go.Proofs.Ytcohjopbhopcgaa
