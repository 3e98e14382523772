import Derived.Test.YtjhfgiflcenjpaaDoorZEscName
import Derived.Test.YtjhfgiflcenjpaaDoorZStr
import Derived.BigQuiet
import Derived.Deep.QuietTactic
namespace Go.Proofs.YtjhfgiflcenjpaaDoor
open Go.RowKit

/-- A hexadecimal digit. -/
def hexd (d : Nat) : Nat := if d < 10 then 48 + d else 87 + d
/-- The text of a byte; o: is it among the others? -/
def byteT (c : Nat) (o : Bool) : List Nat :=
  if c = 10 then [92, 110] else if c = 9 then [92, 116] else if c = 13 then [92, 114] else if c < 32 ∨ 126 < c then [92, 120, hexd (c / 16), hexd (c % 16)] else if c = 92 ∨ o = true then [92, c] else [c]

/-- The digits. -/
def hexS : ByteArray := ⟨#[48, 49, 50, 51, 52, 53, 54, 55, 56, 57, 97, 98, 99, 100, 101, 102]⟩
theorem hex_text : ∀ c, c < 256 → (⟨#[92, 120]⟩ : ByteArray) ++ hexS.extract (c / 16) (c / 16 + 1) ++ hexS.extract (c % 16) (c % 16 + 1) = strOf [92, 120, hexd (c / 16), hexd (c % 16)] := by decide +kernel
theorem back_text (c : Nat) : (⟨#[92]⟩ : ByteArray) ++ strOf [c] = strOf [92, c] := strOf_append [92] [c]
theorem byteT_hex (c : Nat) (o : Bool) (h1 : c ≠ 10) (h2 : c ≠ 9) (h3 : c ≠ 13) (h : c < 32 ∨ 126 < c) : byteT c o = [92, 120, hexd (c / 16), hexd (c % 16)] := by
  unfold byteT; rw [if_neg h1, if_neg h2, if_neg h3, if_pos h]
theorem byteT_back (c : Nat) (o : Bool) (h1 : 32 ≤ c) (h2 : c ≤ 126) (h : c = 92 ∨ o = true) : byteT c o = [92, c] := by
  unfold byteT; rw [if_neg (by omega), if_neg (by omega), if_neg (by omega), if_neg (by omega), if_pos h]
theorem byteT_self (c : Nat) (h1 : 32 ≤ c) (h2 : c ≤ 126) (h : c ≠ 92) : byteT c false = [c] := by
  unfold byteT; rw [if_neg (by omega), if_neg (by omega), if_neg (by omega), if_neg (by omega), if_neg (by simp [h])]

set_option maxHeartbeats 1000000 in
set_option maxRecDepth 100000 in
theorem rbyte_any (c : Nat) (hc : c < 256) (o : ByteArray) (ho : o.size ≤ maxLen) (w : World) :
    Calls Tryd.prog 38 #[.int .u8 c, .string o] w fun e w' => e = .returned (.string (strOf (byteT c (inB o c)))) ∧ Below w.heap.size w w' := by
  have hcv := fun W g => conv_one W g c
  rcases (by omega : c = 10 ∨ c = 9 ∨ c = 13 ∨ (c ≠ 10 ∧ c ≠ 9 ∧ c ≠ 13 ∧ (c < 32 ∨ 126 < c)) ∨ c = 92 ∨ (c ≠ 92 ∧ 32 ≤ c ∧ c ≤ 126)) with h | h | h | ⟨h1, h2, h3, h4⟩ | h | ⟨h1, h2, h3⟩
  · subst h
    go_enter Tryd.func38, Tryd.ntmps38
    go_wp2_with fail
    go_ret
    exact ⟨rfl, Below.refl _ _⟩
  · subst h
    go_enter Tryd.func38, Tryd.ntmps38
    go_wp2_with fail
    go_ret
    exact ⟨rfl, Below.refl _ _⟩
  · subst h
    go_enter Tryd.func38, Tryd.ntmps38
    go_wp2_with fail
    go_ret
    exact ⟨rfl, Below.refl _ _⟩
  · have e1 : ((c : Int) == 10) = false := by simp; omega
    have e2 : ((c : Int) == 9) = false := by simp; omega
    have e3 : ((c : Int) == 13) = false := by simp; omega
    have HX := Lib.hid (hex_text c hc)
    have HB := Lib.hid (byteT_hex c (inB o c) h1 h2 h3 h4)
    rcases h4 with h4 | h4
    all_goals
      go_enter Tryd.func38, Tryd.ntmps38
      go_wp2_with fail
      go_quiet (fail)
      go_wp2_with fail
      go_ret
      exact ⟨by rw [HB.out, ← HX.out]; rfl, ⟨rfl, rfl, rfl, Nat.le_refl _, fun _ _ => rfl⟩⟩
  · subst h
    have HB := Lib.hid (byteT_back 92 (inB o 92) (by decide) (by decide) (Or.inl rfl))
    have HX := Lib.hid (back_text 92)
    go_enter Tryd.func38, Tryd.ntmps38
    go_wp2_with fail
    go_ret
    exact ⟨by rw [HB.out, ← HX.out]; rfl, (Below.refl _ _).alloc (Nat.le_refl _) _⟩
  · have e1 : ((c : Int) == 10) = false := by simp; omega
    have e2 : ((c : Int) == 9) = false := by simp; omega
    have e3 : ((c : Int) == 13) = false := by simp; omega
    have e4 : ((c : Int) == 92) = false := by simp; omega
    have HX := Lib.hid (back_text c)
    have HB := Lib.hid (byteT_back c true h2 h3 (Or.inr rfl))
    have HS := Lib.hid (byteT_self c h2 h3 h1)
    clear h1
    go_enter Tryd.func38, Tryd.ntmps38
    go_wp2_with fail
    refine (in_any o c _ ho).mono ?_
    rintro e w1 ⟨rfl, rfl⟩
    rcases hi : inB o c with _ | _
    · go_wp2_with fail
      go_ret
      exact ⟨by rw [hi, HS.out]; rfl, (Below.refl _ _).alloc (Nat.le_refl _) _⟩
    · go_wp2_with fail
      go_ret
      exact ⟨by rw [hi, HB.out, ← HX.out]; rfl, (Below.refl _ _).alloc (Nat.le_refl _) _⟩
end Go.Proofs.YtjhfgiflcenjpaaDoor
