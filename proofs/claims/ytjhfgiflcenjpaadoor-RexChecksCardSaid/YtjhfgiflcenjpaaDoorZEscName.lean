import Derived.Test.YtjhfgiflcenjpaaDoorChecked
import Derived.WalkKit
import Derived.WalkLawsBesides
import Derived.WalkSpells
import Derived.Outline
import Derived.Below
import Derived.Lib.Hide
import Derived.LoopTactic
namespace Go.Proofs.YtjhfgiflcenjpaaDoor
open Go.RowKit

/-- Is c one of the first k bytes of s? -/
def inUp (s : ByteArray) (c k : Nat) : Bool := (s.data.toList.take k).any fun x => x.toNat == c
/-- Is c one of the bytes of s? -/
def inB (s : ByteArray) (c : Nat) : Bool := s.data.toList.any fun x => x.toNat == c
theorem inUp_succ (s : ByteArray) (c k : Nat) (h : k < s.size) : inUp s c (k + 1) = (inUp s c k || (s[k].toNat == c)) := by
  unfold inUp
  rw [List.take_succ_eq_append_getElem (by simpa using h), List.any_append]
  simp
  rfl
theorem inUp_all (s : ByteArray) (c : Nat) : inUp s c s.size = inB s c := by
  unfold inUp inB
  rw [List.take_of_length_le (by simp)]
theorem inB_yes (s : ByteArray) (c k : Nat) (h : k < s.size) (e : s[k].toNat = c) : inB s c = true := by
  unfold inB
  rw [List.any_eq_true]
  exact ⟨s[k], by simp [ByteArray.getElem_eq_getElem_data], by simp [e]⟩

theorem in_any (s : ByteArray) (c : Nat) (w : World) (hs : s.size ≤ maxLen) :
    Calls Tryd.prog 45 #[.string s, .int .u8 c] w fun e w' => e = .returned (.bool (inB s c)) ∧ w = w' := by
  unfold maxLen at hs
  go_enter Tryd.func45, Tryd.ntmps45
  go_wp2_with fail
  go_loop [5] (fun i => ∃ k : Nat, k ≤ s.size ∧ i = .int .i64 k ∧ Hid (inUp s c k = false)) (fun i => s.size - (intOf i).toNat)
  case atStart => exact ⟨0, Nat.zero_le _, rfl, by simp [Hid, inUp]⟩
  case round =>
    obtain ⟨k, hk, rfl, HF⟩ := hrel
    by_cases hlt : k < s.size
    · have hn := inUp_succ s c k hlt
      have hy := inB_yes s c k hlt
      have HN := Lib.hid hn
      have HY := Lib.hid hy
      clear hn hy
      by_cases e : s[k].toNat = c
      · have e1 : ((s[k].toNat : Int) == (c : Int)) = true := by simp [e]
        have HE := Lib.hid e
        clear e
        go_wp2_with fail
        go_ret
        exact ⟨by rw [HY.out HE.out]; rfl, rfl⟩
      · have e1 : ((s[k].toNat : Int) == (c : Int)) = false := by simp; omega
        have HE := Lib.hid e
        clear e
        go_wp2_with fail
        go_round
        case rel => exact ⟨k + 1, by omega, by go_num, by show inUp s c (k + 1) = false; rw [HN.out, HF.out]; simp [HE.out]⟩
        case measure => simp [intOf]; omega
    · obtain rfl : k = s.size := by omega
      have HR := Lib.hid (inUp_all s c)
      go_wp2_with fail
      go_ret
      exact ⟨by rw [← HR.out, HF.out]; rfl, rfl⟩
end Go.Proofs.YtjhfgiflcenjpaaDoor

namespace Go.Proofs.YtjhfgiflcenjpaaDoor
open Go.RowKit

/-- A digit. -/
def isDig (c : Nat) : Bool := decide (48 ≤ c) && decide (c ≤ 57)
/-- A letter or a digit. -/
def isWord (c : Nat) : Bool := isDig c || (decide (97 ≤ c) && decide (c ≤ 122)) || (decide (65 ≤ c) && decide (c ≤ 90))
/-- A blank. -/
def isSpc (c : Nat) : Bool := c == 32 || c == 9 || c == 10 || c == 13
/-- What a byte is. -/
def classT (c : Nat) : Nat := if isSpc c then 1 else if isDig c then 2 else if isWord c || c == 95 then 3 else if 32 < c ∧ c < 127 then 4 else 0
theorem word_lit : ∀ c, c < 256 → inB ⟨#[48, 49, 50, 51, 52, 53, 54, 55, 56, 57, 97, 98, 99, 100, 101, 102, 103, 104, 105, 106, 107, 108, 109, 110, 111, 112, 113, 114, 115, 116, 117, 118, 119, 120, 121, 122, 65, 66, 67, 68, 69, 70, 71, 72, 73, 74, 75, 76, 77, 78, 79, 80, 81, 82, 83, 84, 85, 86, 87, 88, 89, 90]⟩ c = isWord c := by decide +kernel
theorem dig_lit : ∀ c, c < 256 → inB ⟨#[48, 49, 50, 51, 52, 53, 54, 55, 56, 57]⟩ c = isDig c := by decide +kernel
theorem spc_lit : ∀ c, c < 256 → inB ⟨#[32, 9, 10, 13]⟩ c = isSpc c := by decide +kernel


end Go.Proofs.YtjhfgiflcenjpaaDoor

namespace Go.Proofs.YtjhfgiflcenjpaaDoor
open Go.RowKit

/-- May byte number i of a name be c? -/
def nameAt (i c : Nat) : Bool := classT c == 3 || (classT c == 2 && decide (i ≠ 0))
/-- Are the first k bytes those of a name? -/
def nameUp (s : ByteArray) (k : Nat) : Bool := (List.range k).all fun i => nameAt i (s.data.toList.getD i 0).toNat
theorem nameUp_succ (s : ByteArray) (k : Nat) (h : k < s.size) : nameUp s (k + 1) = (nameUp s k && nameAt k s[k].toNat) := by
  unfold nameUp
  rw [List.range_succ, List.all_append]
  have e : s.data[k]? = some s[k] := Array.getElem?_eq_getElem h
  simp [e]
theorem nameUp_stop (s : ByteArray) (k n : Nat) (h : k ≤ n) (hf : nameUp s k = false) : nameUp s n = false := by
  induction n with
  | zero => have : k = 0 := by omega
            subst this; exact hf
  | succ n ih =>
    by_cases e : k = n + 1
    · subst e; exact hf
    · have := ih (by omega)
      unfold nameUp at this ⊢
      rw [List.range_succ, List.all_append, this]; rfl
/-- Is it a name? -/
def nameT (s : ByteArray) : Bool := nameUp s s.size && decide (1 ≤ s.size) && decide (s.size ≤ 40)

end Go.Proofs.YtjhfgiflcenjpaaDoor
