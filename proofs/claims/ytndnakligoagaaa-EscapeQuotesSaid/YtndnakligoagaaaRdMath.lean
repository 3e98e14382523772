import Derived.Test.YtndnakligoagaaaPByte
namespace Go.Proofs.Ytndnakligoagaaa
open Go.RowKit

/-- What a hexadecimal digit stands for; 16: it is none. -/
def hv (c : Nat) : Nat := if 48 ≤ c ∧ c ≤ 57 then c - 48 else if 97 ≤ c ∧ c ≤ 102 then c - 87 else 16
theorem hv_hexd : ∀ d, d < 16 → hv (hexd d) = d := by decide
theorem hexd_hv (c : Nat) (h : hv c < 16) : hexd (hv c) = c := by
  unfold hv at h ⊢
  unfold hexd
  repeat' split at h
  all_goals (repeat' split) <;> omega
/-- Nothing was read. -/
def rdNo : Nat × Nat × Bool := (0, 0, false)
/-- What is read behind a backslash and x. -/
def rdX : List Nat → Nat × Nat × Bool
  | x :: y :: _ => if hv x < 16 ∧ hv y < 16 then (16 * hv x + hv y, 4, true) else rdNo
  | _ => rdNo
/-- What is read behind a backslash. -/
def rdB : List Nat → Nat × Nat × Bool
  | [] => rdNo
  | d :: u => if d = 110 then (10, 2, true) else if d = 116 then (9, 2, true) else if d = 114 then (13, 2, true) else if d = 120 then rdX u
      else if isPrint d && !isWord d then (d, 2, true) else rdNo
/-- What is read at the head of a text. -/
def rd : List Nat → Nat × Nat × Bool
  | [] => rdNo
  | c :: t => if c = 92 then rdB t else (c, 1, true)
/-- .. as a value. -/
def rdV (r : Nat × Nat × Bool) : Value := .tuple #[.int .u8 ((r.1 : Nat) : Int), .int .i64 ((r.2.1 : Nat) : Int), .bool r.2.2]

theorem rdV_mk (a b : Nat) (o : Bool) : rdV (a, b, o) = .tuple #[.int .u8 ((a : Nat) : Int), .int .i64 ((b : Nat) : Int), .bool o] := rfl
theorem hv_lt (c : Nat) : hv c ≤ 16 := by
  unfold hv
  repeat' split
  all_goals omega
theorem rdX_lt (l : List Nat) : (rdX l).1 < 256 ∧ (rdX l).2.1 ≤ 4 ∧ ((rdX l).2.2 = true → (rdX l).2.1 = 4 ∧ 2 ≤ l.length) := by
  unfold rdX
  split
  · split
    · refine ⟨?_, by simp, by simp⟩
      simp; omega
    · simp [rdNo]
  · simp [rdNo]
theorem rdB_lt (l : List Nat) : (rdB l).1 < 256 ∧ ((rdB l).2.2 = true → 2 ≤ (rdB l).2.1 ∧ (rdB l).2.1 ≤ l.length + 1) := by
  unfold rdB
  split
  · simp [rdNo]
  · rename_i d u
    have h := rdX_lt u
    repeat' split
    all_goals first
      | simp [rdNo]; done
      | (refine ⟨h.1, fun e => ?_⟩
         have := h.2.2 e
         simp; omega)
      | (rename_i hd
         simp [isPrint] at hd ⊢
         omega)
theorem rd_lt (l : List Nat) (hl : ∀ n ∈ l, n < 256) : (rd l).1 < 256 ∧ ((rd l).2.2 = true → 1 ≤ (rd l).2.1 ∧ (rd l).2.1 ≤ l.length) := by
  unfold rd
  split
  · simp [rdNo]
  · rename_i c t
    split
    · have h := rdB_lt t
      refine ⟨h.1, fun e => ?_⟩
      have := h.2 e
      simp; omega
    · simp
      exact hl c (by simp)
theorem isPrint_sign (c : Nat) (h : isPrint c = true) (h' : isWord c = false) : rdB [c] = (c, 2, true) := by
  unfold rdB
  have : c ≠ 110 ∧ c ≠ 116 ∧ c ≠ 114 ∧ c ≠ 120 := by
    refine ⟨?_, ?_, ?_, ?_⟩ <;> (rintro rfl; revert h'; decide)
  simp [this, h, h']
/-- A byte's text is read as it. -/
theorem rd_byteT (c : Nat) (hc : c < 256) (o : Bool) (ho : o = true → isPrint c = true ∧ isWord c = false) (r : List Nat) : rd (byteT c o ++ r) = (c, (byteT c o).length, true) := by
  unfold byteT
  by_cases h1 : c = 10
  · subst h1; rfl
  by_cases h2 : c = 9
  · subst h2; rfl
  by_cases h3 : c = 13
  · subst h3; rfl
  rw [if_neg h1, if_neg h2, if_neg h3]
  by_cases h4 : c < 32 ∨ 126 < c
  · rw [if_pos h4]
    have e1 := hv_hexd (c / 16) (by omega)
    have e2 := hv_hexd (c % 16) (by omega)
    have hm : c / 16 < 16 ∧ c % 16 < 16 := ⟨by omega, by omega⟩
    simp [rd, rdB, rdX, e1, e2, hm]
    omega
  · rw [if_neg h4]
    by_cases h5 : c = 92 ∨ o = true
    · rw [if_pos h5]
      have hp : isPrint c = true ∧ isWord c = false := by
        rcases h5 with h5 | h5
        · subst h5; decide
        · exact ho h5
      have hx : c ≠ 110 ∧ c ≠ 116 ∧ c ≠ 114 ∧ c ≠ 120 := by
        refine ⟨?_, ?_, ?_, ?_⟩ <;> (rintro rfl; revert hp; decide)
      simp [rd, rdB, hx, hp]
    · rw [if_neg h5]
      have : c ≠ 92 := fun e => h5 (Or.inl e)
      simp [rd, this]

/-- A text's numbers from place k on. -/
theorem nums_at (s : ByteArray) (k : Nat) (h : k < s.size) : (numsOf s).drop k = s[k].toNat :: (numsOf s).drop (k + 1) := by
  have hl : k < (numsOf s).length := by simpa [numsOf] using h
  rw [List.drop_eq_getElem_cons hl]
  simp [numsOf]
  rfl
theorem nums_size (s : ByteArray) : (numsOf s).length = s.size := by simp [numsOf]
theorem nums_end (s : ByteArray) (k : Nat) (h : s.size ≤ k) : (numsOf s).drop k = [] := List.drop_eq_nil_of_le (by rw [nums_size]; exact h)
theorem nums_from (s : ByteArray) (a : Nat) : numsOf (s.extract a s.size) = (numsOf s).drop a := by
  unfold numsOf
  rw [Lib.extract_to_end, List.map_drop]
end Go.Proofs.Ytndnakligoagaaa
