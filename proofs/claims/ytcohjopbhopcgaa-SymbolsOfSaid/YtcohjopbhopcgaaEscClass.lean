import Derived.Test.YtcohjopbhopcgaaEscIn
namespace Go.Proofs.Ytcohjopbhopcgaa
open Go.RowKit

/-- A digit. -/
def isDig (c : Nat) : Bool := decide (48 ≤ c) && decide (c ≤ 57)
/-- A letter or a digit. -/
def isWord (c : Nat) : Bool := isDig c || (decide (97 ≤ c) && decide (c ≤ 122)) || (decide (65 ≤ c) && decide (c ≤ 90))
/-- A blank. -/
def isSpc (c : Nat) : Bool := c == 32 || c == 9 || c == 10 || c == 13
/-- What a byte is. -/
def classT (c : Nat) : Nat := if isSpc c then 1 else if isDig c then 2 else if isWord c || c == 95 then 3 else if 32 < c ∧ c < 127 then 4 else 0
theorem word_lit : ∀ c, c < 256 → inB ⟨#[48, 49, 50, 51, 52, 53, 54, 55, 56, 57, 97, 98, 99, 100, 101, 102, 103, 104, 105, 106, 107, 108, 109, 110, 111, 112, 113, 114, 115, 116, 117, 118, 119, 120, 121, 122, 65, 66, 67, 68, 69, 70, 71, 72, 73, 74, 75, 76, 77, 78, 79, 80, 81, 82, 83, 84, 85, 86, 87, 88, 89, 90]⟩ c = isWord c := by decide +kernel
theorem dig_lit : ∀ c, c < 256 → inB ⟨#[48, 49, 50, 51, 52, 53, 54, 55, 56, 57]⟩ c = isDig c := by decide +kernel
theorem spc_lit : ∀ c, c < 256 → inB ⟨#[32, 9, 10, 13]⟩ c = isSpc c := by decide +kernel

theorem word_any (c : Nat) (hc : c < 256) (w : World) :
    Calls Try.prog 27 #[.int .u8 c] w fun e w' => e = .returned (.bool (isWord c)) ∧ w = w' := by
  have hl := Lib.hid (word_lit c hc)
  go_enter Try.func27, Try.ntmps27
  go_wp2_with fail
  refine (in_any _ c _ (by decide)).mono ?_
  rintro e w1 ⟨rfl, rfl⟩
  rw [hl.out]
  go_wp2_with fail
  go_ret
  exact ⟨rfl, rfl⟩

set_option maxHeartbeats 1000000 in
set_option maxRecDepth 100000 in
theorem rclass_any (c : Nat) (hc : c < 256) (w : World) :
    Calls Try.prog 24 #[.int .u8 c] w fun e w' => e = .returned (.int .i64 ((classT c : Nat) : Int)) ∧ w = w' := by
  have h1 := Lib.hid (spc_lit c hc)
  have h2 := Lib.hid (dig_lit c hc)
  have HT : Hid (classT c = if isSpc c then 1 else if isDig c then 2 else if isWord c || c == 95 then 3 else if 32 < c ∧ c < 127 then 4 else 0) := rfl
  go_enter Try.func24, Try.ntmps24
  go_wp2_with fail
  refine (in_any _ c _ (by decide)).mono ?_
  rintro e w1 ⟨rfl, rfl⟩
  rw [h1.out]
  rcases hs : isSpc c with _ | _
  · have HS := Lib.hid hs
    clear hs
    go_wp2_with fail
    refine (in_any _ c _ (by decide)).mono ?_
    rintro e w1 ⟨rfl, rfl⟩
    rw [h2.out]
    rcases hd : isDig c with _ | _
    · have HD := Lib.hid hd
      clear hd
      go_wp2_with fail
      refine (word_any c hc _).mono ?_
      rintro e w1 ⟨rfl, rfl⟩
      rcases hw : isWord c with _ | _
      · have HW := Lib.hid hw
        clear hw
        rcases (by omega : c = 95 ∨ (c ≠ 95 ∧ c ≤ 32) ∨ (c ≠ 95 ∧ 32 < c ∧ c < 127) ∨ (c ≠ 95 ∧ 127 ≤ c)) with h | ⟨h, h'⟩ | ⟨h, h', h''⟩ | ⟨h, h'⟩
        · subst h
          go_wp2_with fail
          go_ret
          exact ⟨by rw [HT.out, HS.out, HD.out, HW.out]; rfl, rfl⟩
        · have e1 : ((c : Int) == 95) = false := by simp; omega
          have HC : Hid (classT c = 0) := by
            show _ = _
            rw [HT.out, HS.out, HD.out, HW.out, show (c == 95) = false by simp; omega]
            simp only [Bool.false_or, Bool.false_eq_true, if_false]
            rw [if_neg (by omega)]
          clear h
          go_wp2_with fail
          go_ret
          exact ⟨by rw [HC.out]; rfl, rfl⟩
        · have e1 : ((c : Int) == 95) = false := by simp; omega
          have HC : Hid (classT c = 4) := by
            show _ = _
            rw [HT.out, HS.out, HD.out, HW.out, show (c == 95) = false by simp; omega]
            simp only [Bool.false_or, Bool.false_eq_true, if_false]
            rw [if_pos ⟨h', h''⟩]
          clear h
          go_wp2_with fail
          go_ret
          exact ⟨by rw [HC.out]; rfl, rfl⟩
        · have e1 : ((c : Int) == 95) = false := by simp; omega
          have HC : Hid (classT c = 0) := by
            show _ = _
            rw [HT.out, HS.out, HD.out, HW.out, show (c == 95) = false by simp; omega]
            simp only [Bool.false_or, Bool.false_eq_true, if_false]
            rw [if_neg (by omega)]
          clear h
          go_wp2_with fail
          go_ret
          exact ⟨by rw [HC.out]; rfl, rfl⟩
      · have HW := Lib.hid hw
        clear hw
        go_wp2_with fail
        go_ret
        exact ⟨by rw [HT.out, HS.out, HD.out, HW.out]; rfl, rfl⟩
    · have HD := Lib.hid hd
      clear hd
      go_wp2_with fail
      go_ret
      exact ⟨by rw [HT.out, HS.out, HD.out]; rfl, rfl⟩
  · have HS := Lib.hid hs
    clear hs
    go_wp2_with fail
    go_ret
    exact ⟨by rw [HT.out, HS.out]; rfl, rfl⟩
end Go.Proofs.Ytcohjopbhopcgaa
