import Derived.Test.YtndnakligoagaaaEscQuote
namespace Go.Proofs.Ytndnakligoagaaa
open Go.RowKit

set_option maxHeartbeats 1000000 in
set_option maxRecDepth 100000 in
theorem rread_none (w : World) :
    Calls Try.prog 9 #[.string ⟨#[]⟩] w fun e w' => e = .returned (.tuple #[.int .u8 0, .int .i64 0, .bool false]) ∧ w = w' := by
  go_enter Try.func9, Try.ntmps9
  go_wp2_with fail
  go_ret3
  exact ⟨rfl, rfl⟩
set_option maxHeartbeats 1000000 in
set_option maxRecDepth 100000 in
theorem rread_plain (s : ByteArray) (h : 0 < s.size) (h0 : s[0].toNat ≠ 92) (w : World) :
    Calls Try.prog 9 #[.string s] w fun e w' => e = .returned (.tuple #[.int .u8 s[0].toNat, .int .i64 1, .bool true]) ∧ w = w' := by
  have hne : s.toList.isEmpty = false := by
    rw [ByteArray.toList_eq]
    have : 0 < s.data.size := h
    simp
    intro e
    rw [e] at this; simp at this
  have hne2 : (!s.toList.isEmpty) = true := by rw [hne]; rfl
  have e1 : ((s[0].toNat : Int) != 92) = true := by simp; omega
  clear h0
  go_enter Try.func9, Try.ntmps9
  go_wp2_with fail
  go_ret3
  exact ⟨rfl, rfl⟩

/-- The two forms in which the reference meets byte c at the head of a text. -/
def hitA (s : ByteArray) (c : Nat) : Bool := ((c == 10 || c == 9) || c == 13) && (decide (1 < s.size) && ((s.extract 0 2).toList == (strOf (byteT c false)).toList))
def hitB (s : ByteArray) (c : Nat) : Bool := decide (3 < s.size) && ((s.extract 0 4).toList == (strOf [92, 120, hexd (c / 16), hexd (c % 16)]).toList)
/-- What the reference reads behind a backslash. -/
def readUp (s : ByteArray) : Nat → Option (Nat × Nat)
  | 0 => none
  | k + 1 => match readUp s k with
    | some x => some x
    | none => if hitA s k then some (k, 2) else if hitB s k then some (k, 4) else none

/- DRAFT, does not build yet (each OPEN is an arm to be closed; the goal's answer is that of rread_plain and
   stands only for the shape). Found so far: at c = 10 with 1 < s.size go_wp2 parts on the comparison of strings
   (two goals: the return, or region 11); for a byte written in hexadecimals the size's comparison closes by the
   fact hz, then go_quiet (fail) for region 11. Region 12 compares with hex_text.

set_option maxHeartbeats 2000000 in
set_option maxRecDepth 100000 in
theorem rread_back (s : ByteArray) (h : 0 < s.size) (hs : s.size ≤ maxLen) (h0 : s[0].toNat = 92) (w : World) :
    Calls Try.prog 9 #[.string s] w fun e w' => e = .returned (.tuple #[.int .u8 s[0].toNat, .int .i64 1, .bool true]) ∧ w = w' := by
  unfold maxLen at hs
  have hne : s.toList.isEmpty = false := by
    rw [ByteArray.toList_eq]
    have : 0 < s.data.size := h
    simp
    intro e
    rw [e] at this; simp at this
  have hne2 : (!s.toList.isEmpty) = true := by rw [hne]; rfl
  have e1 : ((s[0].toNat : Int) != 92) = false := by simp; omega
  have H0 := Lib.hid h0
  clear h0
  go_enter Try.func9, Try.ntmps9
  go_wp2_with fail
  go_loopw [5] (fun i wr => ∃ k : Nat, i = .int .i64 k ∧ k ≤ 256 ∧ Hid (readUp s k = none) ∧ Below w.heap.size w wr) (fun i _ => 256 - (intOf i).toNat)
  case atStart => exact ⟨0, rfl, Nat.zero_le _, rfl, Below.refl _ _⟩
  case round =>
    obtain ⟨k, rfl, hk, HR, hbel⟩ := hrel
    by_cases hlt : k < 256
    · have HE : Hid (inB ⟨#[]⟩ k = false) := rfl
      have HX := Lib.hid (hex_text k hlt)
      go_wp2_with fail
      refine (rbyte_any k hlt ⟨#[]⟩ (by decide) _).mono ?_
      rintro e w3 ⟨rfl, b3⟩
      rw [HE.out]
      have hb3 := hbel.trans (b3.mono hbel.size)
      clear b3 hbel
      rcases (by omega : k = 10 ∨ k = 9 ∨ k = 13 ∨ k = 92 ∨ (k ≠ 10 ∧ k ≠ 9 ∧ k ≠ 13 ∧ (k < 32 ∨ 126 < k)) ∨ (k ≠ 92 ∧ 32 ≤ k ∧ k ≤ 126)) with h | h | h | h | ⟨h1, h2, h3, h4⟩ | ⟨h1, h2, h3⟩
      · subst h
        have hT : strOf (byteT 10 false) = ⟨#[92, 110]⟩ := by decide
        rw [hT]
        clear hT
        by_cases h1 : 1 < s.size
        · go_wp2_with fail
          go_goals
          OPEN
        · OPEN
      · OPEN
      · OPEN
      · OPEN
      · have hz : (((strOf (byteT k false)).size : Int) == 2) = false := by rw [strOf_size, byteT_hex k false h1 h2 h3 h4]; rfl
        go_wp2_with fail
        go_quiet (fail)
        go_wp2_with fail
        go_goals
        OPEN
      · OPEN
    · OPEN
-/
end Go.Proofs.Ytndnakligoagaaa
