import Derived.Test.YtcohjopbhopcgaaChecked
import Derived.WalkKit
import Derived.WalkLawsBesides
import Derived.WalkSpells
import Derived.Outline
import Derived.Below
import Derived.Lib.Hide
import Derived.LoopTactic
namespace Go.Proofs.Ytcohjopbhopcgaa
open Go.RowKit

/-- Is c one of the first k bytes of s? -/
def inUp (s : ByteArray) (c k : Nat) : Bool := (s.data.toList.take k).any fun x => x.toNat == c
/-- Is c one of the bytes of s? -/
def inB (s : ByteArray) (c : Nat) : Bool := s.data.toList.any fun x => x.toNat == c
theorem inUp_succ (s : ByteArray) (c k : Nat) (h : k < s.size) : inUp s c (k + 1) = (inUp s c k || (s[k].toNat == c)) := by
  unfold inUp
  rw [List.take_succ_eq_append_getElem (by simpa using h), List.any_append]
  simp
  rfl
theorem inUp_all (s : ByteArray) (c : Nat) : inUp s c s.size = inB s c := by
  unfold inUp inB
  rw [List.take_of_length_le (by simp)]
theorem inB_yes (s : ByteArray) (c k : Nat) (h : k < s.size) (e : s[k].toNat = c) : inB s c = true := by
  unfold inB
  rw [List.any_eq_true]
  exact ⟨s[k], by simp [ByteArray.getElem_eq_getElem_data], by simp [e]⟩

theorem in_any (s : ByteArray) (c : Nat) (w : World) (hs : s.size ≤ maxLen) :
    Calls Try.prog 26 #[.string s, .int .u8 c] w fun e w' => e = .returned (.bool (inB s c)) ∧ w = w' := by
  unfold maxLen at hs
  go_enter Try.func26, Try.ntmps26
  go_wp2_with fail
  go_loop [5] (fun i => ∃ k : Nat, k ≤ s.size ∧ i = .int .i64 k ∧ Hid (inUp s c k = false)) (fun i => s.size - (intOf i).toNat)
  case atStart => exact ⟨0, Nat.zero_le _, rfl, by simp [Hid, inUp]⟩
  case round =>
    obtain ⟨k, hk, rfl, HF⟩ := hrel
    by_cases hlt : k < s.size
    · have hn := inUp_succ s c k hlt
      have hy := inB_yes s c k hlt
      have HN := Lib.hid hn
      have HY := Lib.hid hy
      clear hn hy
      by_cases e : s[k].toNat = c
      · have e1 : ((s[k].toNat : Int) == (c : Int)) = true := by simp [e]
        have HE := Lib.hid e
        clear e
        go_wp2_with fail
        go_ret
        exact ⟨by rw [HY.out HE.out]; rfl, rfl⟩
      · have e1 : ((s[k].toNat : Int) == (c : Int)) = false := by simp; omega
        have HE := Lib.hid e
        clear e
        go_wp2_with fail
        go_round
        case rel => exact ⟨k + 1, by omega, by go_num, by show inUp s c (k + 1) = false; rw [HN.out, HF.out]; simp [HE.out]⟩
        case measure => simp [intOf]; omega
    · obtain rfl : k = s.size := by omega
      have HR := Lib.hid (inUp_all s c)
      go_wp2_with fail
      go_ret
      exact ⟨by rw [← HR.out, HF.out]; rfl, rfl⟩
end Go.Proofs.Ytcohjopbhopcgaa
