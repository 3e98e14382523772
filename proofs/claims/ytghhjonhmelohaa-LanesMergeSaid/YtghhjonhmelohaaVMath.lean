import Derived.Laws.RangeAny
namespace Go.Proofs.Ytghhjonhmelohaa

/-- The number of the line, and where it begins, behind the first k bytes of a text. -/
def lnF (z : Nat → Nat) : Nat → Nat
  | 0 => 1
  | k + 1 => if z k = 10 then lnF z k + 1 else lnF z k
def frF (z : Nat → Nat) : Nat → Nat
  | 0 => 0
  | k + 1 => if z k = 10 then k + 1 else frF z k
theorem frF_le (z : Nat → Nat) : ∀ k, frF z k ≤ k
  | 0 => Nat.le_refl _
  | k + 1 => by
    have := frF_le z k
    simp only [frF]
    split <;> omega
theorem lnF_le (z : Nat → Nat) : ∀ k, 1 ≤ lnF z k ∧ lnF z k ≤ k + 1
  | 0 => by simp [lnF]
  | k + 1 => by
    have := lnF_le z k
    simp only [lnF]
    split <;> omega
theorem ln_step (z : Nat → Nat) (k : Nat) : lnF z k ≤ lnF z (k + 1) := by
  simp only [lnF]
  split <;> omega
theorem ln_mono (z : Nat → Nat) {i j : Nat} (h : i ≤ j) : lnF z i ≤ lnF z j := by
  induction j with
  | zero => rw [show i = 0 by omega]; exact Nat.le_refl _
  | succ j ih =>
    by_cases e : i = j + 1
    · rw [e]; exact Nat.le_refl _
    · exact Nat.le_trans (ih (by omega)) (ln_step z j)
theorem ln_lt (z : Nat → Nat) {i j : Nat} (h : i < j) (h1 : z i = 10) : lnF z i + 1 ≤ lnF z j := by
  have := ln_mono z (show i + 1 ≤ j by omega)
  simp only [lnF, if_pos h1] at this
  exact this
theorem ln_flat (z : Nat → Nat) {i : Nat} : ∀ d, (∀ t, i ≤ t → t < i + d → z t ≠ 10) → lnF z (i + d) = lnF z i ∧ frF z (i + d) = frF z i
  | 0, _ => ⟨rfl, rfl⟩
  | d + 1, h => by
    have ih := ln_flat z d (fun t h1 h2 => h t h1 (by omega))
    have hz := h (i + d) (by omega) (by omega)
    constructor
    · show lnF z (i + d + 1) = _
      simp only [lnF, if_neg hz]; exact ih.1
    · show frF z (i + d + 1) = _
      simp only [frF, if_neg hz]; exact ih.2
theorem no10 (z : Nat → Nat) : ∀ k t, frF z k ≤ t → t < k → z t ≠ 10
  | 0, t, _, h => by omega
  | k + 1, t, h1, h2 => by
    simp only [frF] at h1
    split at h1
    · omega
    · rename_i hz
      by_cases e : t = k
      · rw [e]; exact hz
      · exact no10 z k t h1 (by omega)
theorem fr_prev (z : Nat → Nat) : ∀ k, 0 < frF z k → z (frF z k - 1) = 10
  | 0, h => by simp [frF] at h
  | k + 1, h => by
    simp only [frF] at h ⊢
    split
    · rename_i hz; simpa using hz
    · rename_i hz; rw [if_neg hz] at h; exact fr_prev z k h
theorem fr_iff (z : Nat → Nat) {i k : Nat} (h : i ≤ k) : lnF z i = lnF z k ↔ frF z k ≤ i := by
  constructor
  · intro e
    by_cases hi : frF z k ≤ i
    · exact hi
    · have h1 := fr_prev z k (by omega)
      have h2 := ln_lt z (i := frF z k - 1) (j := k) (by have := frF_le z k; omega) h1
      have h3 := ln_mono z (show i ≤ frF z k - 1 by omega)
      omega
  · intro hi
    have := (ln_flat z (i := i) (k - i) (fun t h1 h2 => no10 z k t (by omega) (by omega))).1
    rw [show i + (k - i) = k by omega] at this
    exact this.symm

theorem ln_congr {z y : Nat → Nat} : ∀ k, (∀ i, i < k → z i = y i) → lnF z k = lnF y k ∧ frF z k = frF y k
  | 0, _ => ⟨rfl, rfl⟩
  | k + 1, h => by
    have ih := ln_congr k (fun i hi => h i (by omega))
    simp only [lnF, frF, h k (by omega), ih.1, ih.2]
    exact ⟨trivial, trivial⟩
/-- An index, clamped to a text. -/
def clp (m : Nat) (x : Int) : Nat := if x ≤ 0 then 0 else if (m : Int) ≤ x then m else x.toNat
theorem clp_le (m : Nat) (x : Int) : clp m x ≤ m := by unfold clp; split <;> (try split) <;> omega
theorem clp_eq (m : Nat) (x : Int) : (if (m : Int) < if x < 0 then 0 else x then (m : Int) else if x < 0 then 0 else x) = ((clp m x : Nat) : Int) := by
  unfold clp
  repeat' split
  all_goals omega
theorem clp_min (m : Nat) (x : Int) : min (max x 0) (m : Int) = ((clp m x : Nat) : Int) := by
  unfold clp
  repeat' split
  all_goals omega
theorem clp_nat {m k : Nat} (h : k ≤ m) : clp m (k : Int) = k := by unfold clp; split <;> (try split) <;> omega

/-- The line of a number: where it begins, and ends. -/
def LnIs (z : Nat → Nat) (m : Nat) (n : Int) (a b : Nat) : Prop := a ≤ b ∧ b ≤ m ∧ ∀ i, i ≤ m → (((lnF z i : Nat) : Int) = n ↔ a ≤ i ∧ i ≤ b)
theorem LnIs.stop {z : Nat → Nat} {m k : Nat} (hk : k < m) (hz : z k = 10) : LnIs z m ((lnF z k : Nat) : Int) (frF z k) k := by
  refine ⟨frF_le z k, by omega, fun i hi => ?_⟩
  by_cases h : i ≤ k
  · have := fr_iff z h
    constructor
    · intro e; exact ⟨this.1 (by omega), h⟩
    · intro e; have := this.2 e.1; omega
  · have := ln_lt z (i := k) (j := i) (by omega) hz
    constructor
    · intro e; omega
    · intro e; omega
theorem LnIs.last (z : Nat → Nat) (m : Nat) : LnIs z m ((lnF z m : Nat) : Int) (frF z m) m := by
  refine ⟨frF_le z m, Nat.le_refl _, fun i hi => ?_⟩
  have := fr_iff z hi
  constructor
  · intro e; exact ⟨this.1 (by omega), hi⟩
  · intro e; have := this.2 e.1; omega
theorem LnIs.at_ {z : Nat → Nat} {m a b i : Nat} {n : Int} (h : LnIs z m n a b) (h1 : a ≤ i) (h2 : i ≤ b) : ((lnF z i : Nat) : Int) = n ∧ frF z i = a := by
  have hb := h.2.1
  have e := (h.2.2 i (by omega)).2 ⟨h1, h2⟩
  refine ⟨e, ?_⟩
  have ea := (h.2.2 a (by omega)).2 ⟨Nat.le_refl _, h.1⟩
  have f1 := (fr_iff z h1).1 (by omega)
  have f2 := frF_le z i
  have f3 := (fr_iff z f2).2 (Nat.le_refl _)
  have f4 := (h.2.2 (frF z i) (by omega)).1 (by omega)
  omega
theorem LnIs.uniq {z : Nat → Nat} {m a b c d : Nat} {n : Int} (h : LnIs z m n a b) (k : LnIs z m n c d) : a = c ∧ b = d := by
  have h1 := h.1; have h2 := h.2.1; have k1 := k.1; have k2 := k.2.1
  have ea := (k.2.2 a (by omega)).1 ((h.2.2 a (by omega)).2 ⟨Nat.le_refl _, h1⟩)
  have eb := (k.2.2 b (by omega)).1 ((h.2.2 b (by omega)).2 ⟨h1, Nat.le_refl _⟩)
  have ec := (h.2.2 c (by omega)).1 ((k.2.2 c (by omega)).2 ⟨Nat.le_refl _, k1⟩)
  have ed := (h.2.2 d (by omega)).1 ((k.2.2 d (by omega)).2 ⟨k1, Nat.le_refl _⟩)
  omega
/-- A line that has not ended by a byte 10, and is not the last, is none. -/
theorem no_line {z : Nat → Nat} {m : Nat} {n : Int} (h : ∀ j, j < m → z j = 10 → ((lnF z j : Nat) : Int) ≠ n) (hm : ((lnF z m : Nat) : Int) ≠ n) : ∀ d i, i + d = m → ((lnF z i : Nat) : Int) ≠ n
  | 0, i, e => by rw [show i = m by omega]; exact hm
  | d + 1, i, e => by
    intro hi
    have hz : z i ≠ 10 := fun hz => h i (by omega) hz hi
    refine no_line h hm d (i + 1) (by omega) ?_
    simp only [lnF, if_neg hz]
    exact hi
/-- A line of a number exists exactly from 1 to the last one's. -/
theorem ln_reach (z : Nat → Nat) (n : Nat) : ∀ m, 1 ≤ n → n ≤ lnF z m → ∃ i, i ≤ m ∧ lnF z i = n
  | 0, h1, h2 => ⟨0, Nat.le_refl _, by simp [lnF] at h2 ⊢; omega⟩
  | m + 1, h1, h2 => by
    by_cases e : n ≤ lnF z m
    · obtain ⟨i, hi, hn⟩ := ln_reach z n m h1 e
      exact ⟨i, by omega, hn⟩
    · refine ⟨m + 1, Nat.le_refl _, ?_⟩
      simp only [lnF] at h2 ⊢
      split <;> simp_all <;> omega
/-- One place has one line and column. -/
theorem place_uniq {z : Nat → Nat} {i j : Nat} (h1 : lnF z i = lnF z j) (h2 : i - frF z i = j - frF z j) : i = j := by
  have hi := frF_le z i
  have hj := frF_le z j
  rcases Nat.le_total i j with h | h
  · have e := (fr_iff z h).1 h1
    have := (ln_flat z (i := i) (j - i) (fun t h1 h2 => no10 z j t (by omega) (by omega))).2
    rw [show i + (j - i) = j by omega] at this
    omega
  · have e := (fr_iff z h).1 h1.symm
    have := (ln_flat z (i := j) (i - j) (fun t h1 h2 => no10 z i t (by omega) (by omega))).2
    rw [show j + (i - j) = i by omega] at this
    omega

/-- The widest of the lines that end before k. -/
def WdI (z : Nat → Nat) (m k w : Nat) : Prop := (∀ n a b, LnIs z m n a b → b < k → b - a ≤ w) ∧ (w = 0 ∨ ∃ n a b, LnIs z m n a b ∧ w = b - a)
def Wd (z : Nat → Nat) (m w : Nat) : Prop := (∀ n a b, LnIs z m n a b → b - a ≤ w) ∧ (w = 0 ∨ ∃ n a b, LnIs z m n a b ∧ w = b - a)
theorem Wd.uniq {z : Nat → Nat} {m w v : Nat} (h : Wd z m w) (k : Wd z m v) : w = v := by
  have h1 : w ≤ v := by
    rcases h.2 with e | ⟨n, a, b, hl, e⟩
    · omega
    · have := k.1 n a b hl; omega
  have h2 : v ≤ w := by
    rcases k.2 with e | ⟨n, a, b, hl, e⟩
    · omega
    · have := h.1 n a b hl; omega
  omega
theorem WdI.zero (z : Nat → Nat) (m : Nat) : WdI z m 0 0 := ⟨fun n a b _ h => by omega, Or.inl rfl⟩
/-- A line that ends at a byte within the text ends at a byte 10. -/
theorem LnIs.stops {z : Nat → Nat} {m a b : Nat} {n : Int} (h : LnIs z m n a b) (hb : b < m) : z b = 10 := by
  by_cases e : z b = 10
  · exact e
  · have e1 := (h.2.2 b (by omega)).2 ⟨h.1, Nat.le_refl _⟩
    have e2 : ¬ (((lnF z (b + 1) : Nat) : Int) = n) := fun e2 => by
      have := (h.2.2 (b + 1) (by omega)).1 e2
      omega
    simp only [lnF, if_neg e] at e2
    exact absurd e1 e2
theorem WdI.skip {z : Nat → Nat} {m k d w : Nat} (h : WdI z m k w) (hm : k + d ≤ m) (hz : ∀ j, j < d → z (k + j) ≠ 10) : WdI z m (k + d) w := by
  refine ⟨fun n a b hl hb => ?_, h.2⟩
  by_cases e : b < k
  · exact h.1 n a b hl e
  · have := hl.stops (by omega)
    have h9 := hz (b - k) (by omega)
    rw [show k + (b - k) = b by omega] at h9
    exact absurd this h9
theorem WdI.step {z : Nat → Nat} {m k w : Nat} (h : WdI z m k w) (hm : k < m) (hz : z k = 10) : WdI z m (k + 1) (max w (k - frF z k)) := by
  have hs := LnIs.stop hm hz
  refine ⟨fun n a b hl hb => ?_, ?_⟩
  · by_cases e : b < k
    · have := h.1 n a b hl e; omega
    · obtain rfl : b = k := by omega
      have e1 := (hl.2.2 b (by omega)).2 ⟨hl.1, Nat.le_refl _⟩
      rw [e1] at hs
      have := (hl.uniq hs).1
      omega
  · by_cases e : w ≤ k - frF z k
    · exact Or.inr ⟨_, _, _, hs, by omega⟩
    · rw [Nat.max_eq_left (by omega)]
      exact h.2
theorem WdI.done {z : Nat → Nat} {m w : Nat} (h : WdI z m m w) : Wd z m (max w (m - frF z m)) := by
  have hs := LnIs.last z m
  refine ⟨fun n a b hl => ?_, ?_⟩
  · by_cases e : b < m
    · have := h.1 n a b hl e; omega
    · obtain rfl : b = m := by have := hl.2.1; omega
      have e1 := (hl.2.2 b (by omega)).2 ⟨hl.1, Nat.le_refl _⟩
      rw [e1] at hs
      have := (hl.uniq hs).1
      omega
  · by_cases e : w ≤ m - frF z m
    · exact Or.inr ⟨_, _, _, hs, by omega⟩
    · rw [Nat.max_eq_left (by omega)]
      exact h.2

/-- How many blanks a text begins with. -/
def InD (z : Nat → Nat) (m k : Nat) : Prop := k ≤ m ∧ (∀ i, i < k → z i = 32) ∧ (k < m → z k ≠ 32)
theorem InD.uniq {z : Nat → Nat} {m k j : Nat} (h : InD z m k) (g : InD z m j) : k = j := by
  rcases Nat.lt_trichotomy k j with e | e | e
  · have := g.2.1 k e
    exact absurd this (h.2.2 (by have := g.1; omega))
  · exact e
  · have := h.2.1 j e
    exact absurd this (g.2.2 (by have := h.1; omega))

/-- A text's bytes as numbers. -/
def bz (s : ByteArray) (k : Nat) : Nat := (s.get! k).toNat
theorem bz_lt (s : ByteArray) (k : Nat) : bz s k < 256 := UInt8.toNat_lt _
theorem bz_at (s : ByteArray) (k : Nat) (h : k < s.size) : (s[k]'h).toNat = bz s k := by
  show _ = (s.get! k).toNat
  simp [ByteArray.get!, getElem!_pos, h]
  rfl
theorem bz_extract (s : ByteArray) (a b i : Nat) (hb : b ≤ s.size) (hi : i < b - a) : bz (s.extract a b) i = bz s (a + i) := by
  have h1 : i < (s.extract a b).size := by rw [ByteArray.size_extract]; omega
  rw [← bz_at _ i h1, ← bz_at s (a + i) (by omega)]
  have h2 : (s.extract a b)[i]'h1 = s[a + i]'(by omega) := by
    show (s.extract a b).data[i]'h1 = s.data[a + i]'(by show a + i < s.size; omega)
    simp only [ByteArray.data_extract, Array.getElem_extract]
  rw [h2]

/-- What is decoded at a byte below 128 is that byte; else it is none of these, and no byte of it is. -/
theorem dec_at (s : ByteArray) (pos c : Nat) (h : pos < s.size) (hc : c < 128) :
    1 ≤ (Utf8.decode s pos).2 ∧ pos + (Utf8.decode s pos).2 ≤ s.size ∧ ((Utf8.decode s pos).1 = c → (Utf8.decode s pos).2 = 1 ∧ bz s pos = c) ∧ ((Utf8.decode s pos).1 ≠ c → ∀ j, j < (Utf8.decode s pos).2 → bz s (pos + j) ≠ c) := by
  by_cases hlt : bz s pos < 128
  · have e := bz_at s pos h
    rw [decode_ascii s pos h (by omega), e]
    refine ⟨Nat.le_refl _, by show pos + 1 ≤ _; omega, fun h => ⟨rfl, h⟩, fun h j hj => ?_⟩
    obtain rfl : j = 0 := by simp at hj; omega
    exact h
  · have e := bz_at s pos h
    have hh := decode_high s pos h (by omega)
    have key : pos + (Utf8.decode s pos).2 ≤ s.size ∧ ∀ j, j < (Utf8.decode s pos).2 → 128 ≤ bz s (pos + j) := by
      have e0 : (s.get! (pos + 0)).toNat = bz s pos := rfl
      simp only [Utf8.decode, e0, if_neg hlt]
      have one : pos + 1 ≤ s.size ∧ ∀ j, j < 1 → 128 ≤ bz s (pos + j) := ⟨by omega, fun j hj => by
        obtain rfl : j = 0 := by omega
        show 128 ≤ bz s pos
        omega⟩
      have b1 : (s.get! (pos + 1)).toNat = bz s (pos + 1) := rfl
      have b2 : (s.get! (pos + 2)).toNat = bz s (pos + 2) := rfl
      have b3 : (s.get! (pos + 3)).toNat = bz s (pos + 3) := rfl
      rw [b1, b2, b3]
      generalize hx : bz s pos = x0 at *
      generalize hy1 : bz s (pos + 1) = x1 at *
      generalize hy2 : bz s (pos + 2) = x2 at *
      generalize hy3 : bz s (pos + 3) = x3 at *
      repeat' split
      all_goals first
        | exact one
        | (refine ⟨?_, fun j hj => ?_⟩
           · simp_all; try omega
           · rename_i hcond _
             simp only [Bool.and_eq_true, decide_eq_true_eq, beq_iff_eq] at *
             match j, hj with
             | 0, _ => show 128 ≤ bz s pos; omega
             | 1, _ => rw [hy1]; omega
             | 2, _ => rw [hy2]; omega
             | 3, _ => rw [hy3]; omega)
    refine ⟨hh.2, key.1, fun h => by omega, fun _ j hj => ?_⟩
    have := key.2 j hj
    omega
end Go.Proofs.Ytghhjonhmelohaa
