import Derived.Test.YtcohjopbhopcgaaPPrint
import Derived.Test.YtcohjopbhopcgaaStr
import Derived.Test.YtcohjopbhopcgaaEscName
namespace Go.Proofs.Ytcohjopbhopcgaa
open Go.RowKit

theorem classT_spc (c : Nat) (h : c = 32 ∨ c = 9 ∨ c = 10 ∨ c = 13) : classT c = 1 := by
  rcases h with h | h | h | h <;> subst h <;> rfl
theorem classT_no (c : Nat) (h : c ≠ 32) (h1 : c ≠ 9) (h2 : c ≠ 10) (h3 : c ≠ 13) : classT c = if isDig c then 2 else if isWord c || c == 95 then 3 else if 32 < c ∧ c < 127 then 4 else 0 := by
  unfold classT
  rw [if_neg (by simp [isSpc, h, h1, h2, h3])]
theorem classT_dig (c : Nat) (h : 48 ≤ c) (h' : c ≤ 57) : classT c = 2 := by
  rw [classT_no c (by omega) (by omega) (by omega) (by omega), if_pos (by simp [isDig, h, h'])]
theorem classT_upp (c : Nat) (h : 65 ≤ c) (h' : c ≤ 90) : classT c = 3 := by
  rw [classT_no c (by omega) (by omega) (by omega) (by omega), if_neg (by simp [isDig]; omega), if_pos (by simp [isWord, isDig]; omega)]
theorem classT_low (c : Nat) (h : 97 ≤ c) (h' : c ≤ 122) : classT c = 3 := by
  rw [classT_no c (by omega) (by omega) (by omega) (by omega), if_neg (by simp [isDig]; omega), if_pos (by simp [isWord, isDig]; omega)]
theorem classT_sign (c : Nat) (h : 32 < c) (h' : c < 127) (h1 : c < 48 ∨ 57 < c) (h2 : c < 65 ∨ 90 < c) (h3 : c < 97 ∨ 122 < c) (h4 : c ≠ 95) : classT c = 4 := by
  rw [classT_no c (by omega) (by omega) (by omega) (by omega), if_neg (by simp [isDig]; omega), if_neg (by simp [isWord, isDig]; omega), if_pos ⟨h, h'⟩]
theorem classT_none (c : Nat) (h : c < 32 ∨ 126 < c) (h1 : c ≠ 9) (h2 : c ≠ 10) (h3 : c ≠ 13) : classT c = 0 := by
  rw [classT_no c (by omega) (by omega) (by omega) (by omega), if_neg (by simp [isDig]; omega), if_neg (by simp [isWord, isDig]; omega), if_neg (by omega)]

set_option maxHeartbeats 2000000 in
set_option maxRecDepth 100000 in
theorem class_any (c : Nat) (hc : c < 256) (w : World) :
    Calls Try.prog 25 #[.int .u8 c] w fun e w' => e = .returned (.int .i64 ((classT c : Nat) : Int)) ∧ w = w' := by
  have hk : (c = 32 ∨ c = 9 ∨ c = 10 ∨ c = 13) ∨ (48 ≤ c ∧ c ≤ 57) ∨ (65 ≤ c ∧ c ≤ 90) ∨ c = 95 ∨ (97 ≤ c ∧ c ≤ 122) ∨ ((32 < c ∧ c < 127) ∧ (c < 48 ∨ 57 < c) ∧ (c < 65 ∨ 90 < c) ∧ (c < 97 ∨ 122 < c) ∧ c ≠ 95) ∨ ((c < 32 ∨ 126 < c) ∧ c ≠ 9 ∧ c ≠ 10 ∧ c ≠ 13) := by omega
  rcases hk with h | ⟨h, h'⟩ | ⟨h, h'⟩ | h | ⟨h, h'⟩ | ⟨⟨h, h'⟩, h1, h2, h3, h4⟩ | ⟨h, h1, h2, h3⟩
  · rcases h with h | h | h | h <;> subst h
    all_goals
      go_enter Try.func25, Try.ntmps25
      go_wp2_with fail
      go_ret
      exact ⟨rfl, rfl⟩
  · have HC := Lib.hid (classT_dig c h h')
    have e1 : ((c : Int) == 32) = false := by simp; omega
    have e2 : ((c : Int) == 9) = false := by simp; omega
    have e3 : ((c : Int) == 10) = false := by simp; omega
    have e4 : ((c : Int) == 13) = false := by simp; omega
    go_enter Try.func25, Try.ntmps25
    go_wp2_with fail
    go_ret
    exact ⟨by rw [HC.out]; rfl, rfl⟩
  · have HC := Lib.hid (classT_upp c h h')
    have e1 : ((c : Int) == 32) = false := by simp; omega
    have e2 : ((c : Int) == 9) = false := by simp; omega
    have e3 : ((c : Int) == 10) = false := by simp; omega
    have e4 : ((c : Int) == 13) = false := by simp; omega
    go_enter Try.func25, Try.ntmps25
    go_wp2_with fail
    go_ret
    exact ⟨by rw [HC.out]; rfl, rfl⟩
  · subst h
    go_enter Try.func25, Try.ntmps25
    go_wp2_with fail
    go_ret
    exact ⟨rfl, rfl⟩
  · have HC := Lib.hid (classT_low c h h')
    have e1 : ((c : Int) == 32) = false := by simp; omega
    have e2 : ((c : Int) == 9) = false := by simp; omega
    have e3 : ((c : Int) == 10) = false := by simp; omega
    have e4 : ((c : Int) == 13) = false := by simp; omega
    go_enter Try.func25, Try.ntmps25
    go_wp2_with fail
    go_ret
    exact ⟨by rw [HC.out]; rfl, rfl⟩
  · have HC := Lib.hid (classT_sign c h h' h1 h2 h3 h4)
    have e1 : ((c : Int) == 32) = false := by simp; omega
    have e2 : ((c : Int) == 9) = false := by simp; omega
    have e3 : ((c : Int) == 10) = false := by simp; omega
    have e4 : ((c : Int) == 13) = false := by simp; omega
    have e5 : ((c : Int) == 95) = false := by simp; omega
    have HP : Hid (isPrint c = true) := by show _ = _; unfold isPrint; simp; omega
    clear h4
    rcases h1 with h1 | h1 <;> rcases h2 with h2 | h2 <;> rcases h3 with h3 | h3
    all_goals first
      | (exfalso; omega)
      | (go_enter Try.func25, Try.ntmps25
         go_wp2_with fail
         refine (print_any c _).mono ?_
         rintro e w1 ⟨rfl, rfl⟩
         rw [HP.out]
         go_wp2_with fail
         go_ret
         exact ⟨by rw [HC.out]; rfl, rfl⟩)
  · have HC := Lib.hid (classT_none c h h1 h2 h3)
    have e1 : ((c : Int) == 32) = false := by simp; omega
    have e2 : ((c : Int) == 9) = false := by simp; omega
    have e3 : ((c : Int) == 10) = false := by simp; omega
    have e4 : ((c : Int) == 13) = false := by simp; omega
    have e5 : ((c : Int) == 95) = false := by simp; omega
    have HP : Hid (isPrint c = false) := by show _ = _; unfold isPrint; simp; omega
    clear h1 h2 h3
    rcases h with h | h
    all_goals
      go_enter Try.func25, Try.ntmps25
      go_wp2_with fail
      refine (print_any c _).mono ?_
      rintro e w1 ⟨rfl, rfl⟩
      rw [HP.out]
      go_wp2_with fail
      go_ret
      exact ⟨by rw [HC.out]; rfl, rfl⟩

theorem nameT_empty : nameT ⟨#[]⟩ = false := by decide
set_option maxHeartbeats 2000000 in
set_option maxRecDepth 100000 in
theorem name_any (s : ByteArray) (w : World) (hs : s.size ≤ maxLen) :
    Calls Try.prog 22 #[.string s] w fun e w' => e = .returned (.bool (nameT s)) ∧ w = w' := by
  unfold maxLen at hs
  have HT : Hid (nameT s = (nameUp s s.size && decide (1 ≤ s.size) && decide (s.size ≤ 40))) := rfl
  rcases (by omega : s.size = 0 ∨ (1 ≤ s.size ∧ s.size ≤ 40) ∨ (1 ≤ s.size ∧ 40 < s.size)) with h | ⟨h, h'⟩ | ⟨h, h'⟩
  · have hl : s.toList = [] := by rw [ByteArray.toList_eq]; exact List.eq_nil_of_length_eq_zero (by simpa using h)
    have hl2 : (!s.toList.isEmpty) = false := by rw [hl]; rfl
    have HK : Hid (nameT s = false) := by show _ = _; rw [HT.out, h]; simp
    clear h
    go_enter Try.func22, Try.ntmps22
    go_wp2_with fail
    go_ret
    exact ⟨by rw [HK.out]; rfl, rfl⟩
  · have hl : s.toList.isEmpty = false := ne_empty s (by omega)
    have hl2 : (!s.toList.isEmpty) = true := by rw [hl]; rfl
    have h0 : 0 < s.size := h
    have hb := UInt8.toNat_lt s[0]
    have HN := Lib.hid (nameUp_succ s 0 h)
    have HS := Lib.hid (fun h => nameUp_stop s 1 s.size (by omega) h)
    have HA : Hid (nameAt 0 s[0].toNat = (classT s[0].toNat == 3 || (classT s[0].toNat == 2 && decide (0 ≠ 0)))) := rfl
    go_enter Try.func22, Try.ntmps22
    go_wp2_with fail
    refine (class_any s[0].toNat hb _).mono ?_
    rintro e w1 ⟨rfl, rfl⟩
    obtain ⟨q, HQ0⟩ : ∃ q, q = classT s[0].toNat := ⟨_, rfl⟩
    rw [← HQ0] at HA ⊢
    have HQ := Lib.hid HQ0
    clear HQ0
    by_cases hq : q = 3
    · subst hq
      go_wp2_with fail
      go_loop [20] (fun i => ∃ k : Nat, k ≤ s.size ∧ i = .int .i64 k ∧ Hid (nameUp s k = true)) (fun i => s.size - (intOf i).toNat)
      case atStart => exact ⟨0, Nat.zero_le _, rfl, by simp [Hid, nameUp]⟩
      case round =>
        clear HN HS
        obtain ⟨k, hk, rfl, HF⟩ := hrel
        by_cases hlt : k < s.size
        · have HN := Lib.hid (nameUp_succ s k hlt)
          have HS := Lib.hid (fun h => nameUp_stop s (k + 1) s.size hlt h)
          have HB : Hid (nameAt k s[k].toNat = (classT s[k].toNat == 3 || (classT s[k].toNat == 2 && decide (k ≠ 0)))) := rfl
          have hb := UInt8.toNat_lt s[k]
          go_wp2_with fail
          refine (class_any s[k].toNat hb _).mono ?_
          rintro e w1 ⟨rfl, rfl⟩
          have HZ : Hid (k = 0 → classT s[k].toNat = 3) := by
            show _ → _
            intro e
            subst e
            exact HQ.out.symm
          generalize classT s[k].toNat = r at HB HZ ⊢
          rcases (by omega : r = 3 ∨ r = 2 ∨ (r ≠ 3 ∧ r ≠ 2)) with h | h | ⟨h, h'⟩
          · subst h
            have HK : Hid (nameUp s (k + 1) = true) := by show _ = _; rw [HN.out, HF.out, HB.out]; rfl
            clear HN HS HB
            go_wp2_with fail
            go_round
            case rel => exact ⟨k + 1, by omega, by go_num, HK⟩
            case measure => simp [intOf]; omega
          · subst h
            have hk0 : k ≠ 0 := fun e => by have := HZ.out e; omega
            have HK : Hid (nameUp s (k + 1) = true) := by show _ = _; rw [HN.out, HF.out, HB.out]; simp; omega
            clear HN HS HB hk0
            go_wp2_with fail
            go_round
            case rel => exact ⟨k + 1, by omega, by go_num, HK⟩
            case measure => simp [intOf]; omega
          · have HK : Hid (nameT s = false) := by show _ = _; rw [HT.out, HS.out (by rw [HN.out, HF.out, HB.out]; simp [h, h'])]; rfl
            have e3 : ((r : Int) != 3) = true := by simp; omega
            have e2 : ((r : Int) != 2) = true := by simp; omega
            clear HN HS HB h h'
            go_wp2_with fail
            go_ret
            exact ⟨by rw [HK.out]; rfl, rfl⟩
        · obtain rfl : k = s.size := by omega
          have HK : Hid (nameT s = true) := by show _ = _; rw [HT.out, HF.out]; simp [h]; omega
          go_wp2_with fail
          go_ret
          exact ⟨by rw [HK.out]; rfl, rfl⟩
    · have HK : Hid (nameT s = false) := by show _ = _; rw [HT.out, HS.out (by rw [HN.out, HA.out]; simp [hq])]; rfl
      have e3 : ((q : Int) != 3) = true := by simp; omega
      clear HN HS HA hq
      go_wp2_with fail
      go_ret
      exact ⟨by rw [HK.out]; rfl, rfl⟩
  · have hl : s.toList.isEmpty = false := ne_empty s (by omega)
    have hl2 : (!s.toList.isEmpty) = true := by rw [hl]; rfl
    have HK : Hid (nameT s = false) := by show _ = _; rw [HT.out]; simp; omega
    go_enter Try.func22, Try.ntmps22
    go_wp2_with fail
    go_ret
    exact ⟨by rw [HK.out]; rfl, rfl⟩
end Go.Proofs.Ytcohjopbhopcgaa
