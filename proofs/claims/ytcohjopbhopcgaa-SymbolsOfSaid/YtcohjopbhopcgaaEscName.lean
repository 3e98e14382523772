import Derived.Test.YtcohjopbhopcgaaEscClass
namespace Go.Proofs.Ytcohjopbhopcgaa
open Go.RowKit

/-- May byte number i of a name be c? -/
def nameAt (i c : Nat) : Bool := classT c == 3 || (classT c == 2 && decide (i ≠ 0))
/-- Are the first k bytes those of a name? -/
def nameUp (s : ByteArray) (k : Nat) : Bool := (List.range k).all fun i => nameAt i (s.data.toList.getD i 0).toNat
theorem nameUp_succ (s : ByteArray) (k : Nat) (h : k < s.size) : nameUp s (k + 1) = (nameUp s k && nameAt k s[k].toNat) := by
  unfold nameUp
  rw [List.range_succ, List.all_append]
  have e : s.data[k]? = some s[k] := Array.getElem?_eq_getElem h
  simp [e]
theorem nameUp_stop (s : ByteArray) (k n : Nat) (h : k ≤ n) (hf : nameUp s k = false) : nameUp s n = false := by
  induction n with
  | zero => have : k = 0 := by omega
            subst this; exact hf
  | succ n ih =>
    by_cases e : k = n + 1
    · subst e; exact hf
    · have := ih (by omega)
      unfold nameUp at this ⊢
      rw [List.range_succ, List.all_append, this]; rfl
/-- Is it a name? -/
def nameT (s : ByteArray) : Bool := nameUp s s.size && decide (1 ≤ s.size) && decide (s.size ≤ 40)

set_option maxHeartbeats 1000000 in
set_option maxRecDepth 100000 in
theorem rname_any (s : ByteArray) (w : World) (hs : s.size ≤ maxLen) :
    Calls Try.prog 19 #[.string s] w fun e w' => e = .returned (.bool (nameT s)) ∧ w = w' := by
  unfold maxLen at hs
  have HT : Hid (nameT s = (nameUp s s.size && decide (1 ≤ s.size) && decide (s.size ≤ 40))) := rfl
  go_enter Try.func19, Try.ntmps19
  go_wp2_with fail
  go_loop [3] (fun i => ∃ k : Nat, k ≤ s.size ∧ i = .int .i64 k ∧ Hid (nameUp s k = true)) (fun i => s.size - (intOf i).toNat)
  case atStart => exact ⟨0, Nat.zero_le _, rfl, by simp [Hid, nameUp]⟩
  case round =>
    obtain ⟨k, hk, rfl, HF⟩ := hrel
    by_cases hlt : k < s.size
    · have HN := Lib.hid (nameUp_succ s k hlt)
      have HS := Lib.hid (fun h => nameUp_stop s (k + 1) s.size hlt h)
      have HA : Hid (nameAt k s[k].toNat = (classT s[k].toNat == 3 || (classT s[k].toNat == 2 && decide (k ≠ 0)))) := rfl
      have hb := UInt8.toNat_lt s[k]
      go_wp2_with fail
      refine (rclass_any s[k].toNat hb _).mono ?_
      rintro e w1 ⟨rfl, rfl⟩
      generalize classT s[k].toNat = q at HA ⊢
      rcases (by omega : q = 3 ∨ (q = 2 ∧ k = 0) ∨ (q = 2 ∧ 0 < k) ∨ (q ≠ 3 ∧ q ≠ 2)) with h | ⟨h, h'⟩ | ⟨h, h'⟩ | ⟨h, h'⟩
      · subst h
        have HK : Hid (nameUp s (k + 1) = true) := by show _ = _; rw [HN.out, HF.out, HA.out]; rfl
        clear HN HS HA
        go_wp2_with fail
        go_round
        case rel => exact ⟨k + 1, by omega, by go_num, HK⟩
        case measure => simp [intOf]; omega
      · subst h h'
        have HK : Hid (nameT s = false) := by show _ = _; rw [HT.out, HS.out (by rw [HN.out, HF.out, HA.out]; rfl)]; rfl
        clear HN HS HA
        go_wp2_with fail
        go_ret
        exact ⟨by rw [HK.out]; rfl, rfl⟩
      · subst h
        have HK : Hid (nameUp s (k + 1) = true) := by show _ = _; rw [HN.out, HF.out, HA.out]; simp; omega
        have e0 : ((k : Int) == 0) = false := by simp; omega
        clear HN HS HA
        go_wp2_with fail
        go_round
        case rel => exact ⟨k + 1, by omega, by go_num, HK⟩
        case measure => simp [intOf]; omega
      · have HK : Hid (nameT s = false) := by show _ = _; rw [HT.out, HS.out (by rw [HN.out, HF.out, HA.out]; simp [h, h'])]; rfl
        have e3 : ((q : Int) != 3) = true := by simp; omega
        have e2 : ((q : Int) != 2) = true := by simp; omega
        clear HN HS HA h h'
        go_wp2_with fail
        go_ret
        exact ⟨by rw [HK.out]; rfl, rfl⟩
    · obtain rfl : k = s.size := by omega
      rcases (by omega : s.size = 0 ∨ (1 ≤ s.size ∧ s.size ≤ 40) ∨ 40 < s.size) with h | ⟨h, h'⟩ | h
      · have HK : Hid (nameT s = false) := by show _ = _; rw [HT.out, h]; simp
        go_wp2_with fail
        go_ret
        exact ⟨by rw [HK.out]; rfl, rfl⟩
      · have HK : Hid (nameT s = true) := by show _ = _; rw [HT.out, HF.out]; simp [h, h']
        go_wp2_with fail
        go_ret
        exact ⟨congrArg (fun b => Ending.returned (.bool b)) (by rw [HK.out]; simp; omega), rfl⟩
      · have HK : Hid (nameT s = false) := by show _ = _; rw [HT.out]; simp; omega
        go_wp2_with fail
        go_ret
        exact ⟨congrArg (fun b => Ending.returned (.bool b)) (by rw [HK.out]; simp; omega), rfl⟩
end Go.Proofs.Ytcohjopbhopcgaa
