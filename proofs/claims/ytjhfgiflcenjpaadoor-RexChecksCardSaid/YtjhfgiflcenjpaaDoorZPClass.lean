import Derived.Test.YtjhfgiflcenjpaaDoorZEscName
import Derived.Test.YtjhfgiflcenjpaaDoorZPByte
namespace Go.Proofs.YtjhfgiflcenjpaaDoor
open Go.RowKit

theorem classT_spc (c : Nat) (h : c = 32 ∨ c = 9 ∨ c = 10 ∨ c = 13) : classT c = 1 := by
  rcases h with h | h | h | h <;> subst h <;> rfl
theorem classT_no (c : Nat) (h : c ≠ 32) (h1 : c ≠ 9) (h2 : c ≠ 10) (h3 : c ≠ 13) : classT c = if isDig c then 2 else if isWord c || c == 95 then 3 else if 32 < c ∧ c < 127 then 4 else 0 := by
  unfold classT
  rw [if_neg (by simp [isSpc, h, h1, h2, h3])]
theorem classT_dig (c : Nat) (h : 48 ≤ c) (h' : c ≤ 57) : classT c = 2 := by
  rw [classT_no c (by omega) (by omega) (by omega) (by omega), if_pos (by simp [isDig, h, h'])]
theorem classT_upp (c : Nat) (h : 65 ≤ c) (h' : c ≤ 90) : classT c = 3 := by
  rw [classT_no c (by omega) (by omega) (by omega) (by omega), if_neg (by simp [isDig]; omega), if_pos (by simp [isWord, isDig]; omega)]
theorem classT_low (c : Nat) (h : 97 ≤ c) (h' : c ≤ 122) : classT c = 3 := by
  rw [classT_no c (by omega) (by omega) (by omega) (by omega), if_neg (by simp [isDig]; omega), if_pos (by simp [isWord, isDig]; omega)]
theorem classT_sign (c : Nat) (h : 32 < c) (h' : c < 127) (h1 : c < 48 ∨ 57 < c) (h2 : c < 65 ∨ 90 < c) (h3 : c < 97 ∨ 122 < c) (h4 : c ≠ 95) : classT c = 4 := by
  rw [classT_no c (by omega) (by omega) (by omega) (by omega), if_neg (by simp [isDig]; omega), if_neg (by simp [isWord, isDig]; omega), if_pos ⟨h, h'⟩]
theorem classT_none (c : Nat) (h : c < 32 ∨ 126 < c) (h1 : c ≠ 9) (h2 : c ≠ 10) (h3 : c ≠ 13) : classT c = 0 := by
  rw [classT_no c (by omega) (by omega) (by omega) (by omega), if_neg (by simp [isDig]; omega), if_neg (by simp [isWord, isDig]; omega), if_neg (by omega)]

set_option maxHeartbeats 2000000 in
set_option maxRecDepth 100000 in
theorem class_any (c : Nat) (hc : c < 256) (w : World) :
    Calls Tryd.prog 75 #[.int .u8 c] w fun e w' => e = .returned (.int .i64 ((classT c : Nat) : Int)) ∧ w = w' := by
  have hk : (c = 32 ∨ c = 9 ∨ c = 10 ∨ c = 13) ∨ (48 ≤ c ∧ c ≤ 57) ∨ (65 ≤ c ∧ c ≤ 90) ∨ c = 95 ∨ (97 ≤ c ∧ c ≤ 122) ∨ ((32 < c ∧ c < 127) ∧ (c < 48 ∨ 57 < c) ∧ (c < 65 ∨ 90 < c) ∧ (c < 97 ∨ 122 < c) ∧ c ≠ 95) ∨ ((c < 32 ∨ 126 < c) ∧ c ≠ 9 ∧ c ≠ 10 ∧ c ≠ 13) := by omega
  rcases hk with h | ⟨h, h'⟩ | ⟨h, h'⟩ | h | ⟨h, h'⟩ | ⟨⟨h, h'⟩, h1, h2, h3, h4⟩ | ⟨h, h1, h2, h3⟩
  · rcases h with h | h | h | h <;> subst h
    all_goals
      go_enter Tryd.func75, Tryd.ntmps75
      go_wp2_with fail
      go_ret
      exact ⟨rfl, rfl⟩
  · have HC := Lib.hid (classT_dig c h h')
    have e1 : ((c : Int) == 32) = false := by simp; omega
    have e2 : ((c : Int) == 9) = false := by simp; omega
    have e3 : ((c : Int) == 10) = false := by simp; omega
    have e4 : ((c : Int) == 13) = false := by simp; omega
    go_enter Tryd.func75, Tryd.ntmps75
    go_wp2_with fail
    go_ret
    exact ⟨by rw [HC.out]; rfl, rfl⟩
  · have HC := Lib.hid (classT_upp c h h')
    have e1 : ((c : Int) == 32) = false := by simp; omega
    have e2 : ((c : Int) == 9) = false := by simp; omega
    have e3 : ((c : Int) == 10) = false := by simp; omega
    have e4 : ((c : Int) == 13) = false := by simp; omega
    go_enter Tryd.func75, Tryd.ntmps75
    go_wp2_with fail
    go_ret
    exact ⟨by rw [HC.out]; rfl, rfl⟩
  · subst h
    go_enter Tryd.func75, Tryd.ntmps75
    go_wp2_with fail
    go_ret
    exact ⟨rfl, rfl⟩
  · have HC := Lib.hid (classT_low c h h')
    have e1 : ((c : Int) == 32) = false := by simp; omega
    have e2 : ((c : Int) == 9) = false := by simp; omega
    have e3 : ((c : Int) == 10) = false := by simp; omega
    have e4 : ((c : Int) == 13) = false := by simp; omega
    go_enter Tryd.func75, Tryd.ntmps75
    go_wp2_with fail
    go_ret
    exact ⟨by rw [HC.out]; rfl, rfl⟩
  · have HC := Lib.hid (classT_sign c h h' h1 h2 h3 h4)
    have e1 : ((c : Int) == 32) = false := by simp; omega
    have e2 : ((c : Int) == 9) = false := by simp; omega
    have e3 : ((c : Int) == 10) = false := by simp; omega
    have e4 : ((c : Int) == 13) = false := by simp; omega
    have e5 : ((c : Int) == 95) = false := by simp; omega
    have HP : Hid (isPrint c = true) := by show _ = _; unfold isPrint; simp; omega
    clear h4
    rcases h1 with h1 | h1 <;> rcases h2 with h2 | h2 <;> rcases h3 with h3 | h3
    all_goals first
      | (exfalso; omega)
      | (go_enter Tryd.func75, Tryd.ntmps75
         go_wp2_with fail
         refine (print_any c _).mono ?_
         rintro e w1 ⟨rfl, rfl⟩
         rw [HP.out]
         go_wp2_with fail
         go_ret
         exact ⟨by rw [HC.out]; rfl, rfl⟩)
  · have HC := Lib.hid (classT_none c h h1 h2 h3)
    have e1 : ((c : Int) == 32) = false := by simp; omega
    have e2 : ((c : Int) == 9) = false := by simp; omega
    have e3 : ((c : Int) == 10) = false := by simp; omega
    have e4 : ((c : Int) == 13) = false := by simp; omega
    have e5 : ((c : Int) == 95) = false := by simp; omega
    have HP : Hid (isPrint c = false) := by show _ = _; unfold isPrint; simp; omega
    clear h1 h2 h3
    rcases h with h | h
    all_goals
      go_enter Tryd.func75, Tryd.ntmps75
      go_wp2_with fail
      refine (print_any c _).mono ?_
      rintro e w1 ⟨rfl, rfl⟩
      rw [HP.out]
      go_wp2_with fail
      go_ret
      exact ⟨by rw [HC.out]; rfl, rfl⟩

theorem nameT_empty : nameT ⟨#[]⟩ = false := by decide
end Go.Proofs.YtjhfgiflcenjpaaDoor
