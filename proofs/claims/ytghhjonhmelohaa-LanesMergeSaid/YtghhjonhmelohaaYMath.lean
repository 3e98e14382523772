import Derived.Test.YtghhjonhmelohaaTok
import Derived.Test.YtghhjonhmelohaaNumAt
namespace Go.Proofs.Ytghhjonhmelohaa
open Go.RowKit
set_option linter.unusedVariables false
set_option linter.unusedSimpArgs false

/-- The kind of a rule: z the kinds, n of them. -/
def kdF (z : Nat → Int) (n : Nat) (r : Int) : Int := if r < 0 then 1 else if (n : Int) ≤ r then 1 else z r.toNat
/-- Has a text a line break? -/
def bkF (s : ByteArray) : Bool := s.data.toList.contains 10
theorem bkF_iff (s : ByteArray) : bkF s = true ↔ ∃ i, ∃ h : i < s.size, (s[i]'h).toNat = 10 := by
  unfold bkF
  rw [List.contains_iff_mem, List.mem_iff_getElem]
  constructor
  · rintro ⟨i, h, e⟩
    refine ⟨i, by simpa using h, ?_⟩
    have : s[i]'(by simpa using h) = (10 : UInt8) := by
      rw [Array.getElem_toList] at e
      exact e
    rw [this]; rfl
  · rintro ⟨i, h, e⟩
    refine ⟨i, by simpa using h, ?_⟩
    have : s[i]'h = (10 : UInt8) := by
      apply UInt8.toNat_inj.1
      rw [e]; rfl
    show s.data.toList[i] = 10
    rw [Array.getElem_toList]
    exact this
/-- The tokens of a kind. -/
def ofF (k : Int → Int) (q : Int) (l : List Tok) : List Tok := l.filter (fun t => k t.r == q)
/-- What stands ahead of a comment, the nearest first: is there a line break, or nothing? -/
def befF (k : Int → Int) : List Tok → Bool
  | [] => true
  | t :: l => if k t.r = 0 then false else if bkF t.s then true else if k t.r = 2 then false else befF k l
/-- What stands behind: is there a line break ahead of what counts? -/
def behF (k : Int → Int) : List Tok → Bool
  | [] => false
  | t :: l => if k t.r = 0 then false else if k t.r = 2 then false else if bkF t.s then true else behF k l
/-- A note. -/
structure Nt where
  t : Tok
  n : Nat
  b : Bool
  f : Bool
def ntCells (x : Nt) : List Value := [.int .i64 x.t.r, .string x.t.s, .int .i64 x.t.p, .int .i64 ((x.n : Nat) : Int), .bool x.b, .bool x.f]
def nts (l : List Nt) : List Value := l.flatMap ntCells
theorem nts_length (l : List Nt) : (nts l).length = l.length * 6 := by
  induction l with
  | nil => rfl
  | cons x l ih => simp [nts, ntCells] at ih ⊢; omega
theorem nts_append (a b : List Nt) : nts (a ++ b) = nts a ++ nts b := by simp [nts]
theorem nts_get (l : List Nt) (i : Nat) (h : i < l.length) (j : Nat) (hj : j < 6) : (nts l)[i * 6 + j]? = (ntCells l[i])[j]? := by
  induction l generalizing i with
  | nil => simp at h
  | cons x l ih =>
    have hc : (ntCells x).length = 6 := by simp [ntCells]
    show (ntCells x ++ nts l)[i * 6 + j]? = _
    match i, h with
    | 0, _ =>
      rw [Nat.zero_mul, Nat.zero_add, List.getElem?_append_left (by omega)]
      rfl
    | i + 1, h =>
      rw [List.getElem?_append_right (by omega), hc, show (i + 1) * 6 + j - 6 = i * 6 + j by omega, ih i (by simpa using h)]
      rfl
/-- The note of the token at i. -/
def ntAt (k : Int → Int) (l : List Tok) (i : Nat) (t : Tok) (n : Nat) : Nt := ⟨t, n, befF k (l.take i).reverse, bkF t.s || behF k (l.drop (i + 1))⟩
/-- How many main tokens are among the first i; the notes of the first i. -/
def ahF (k : Int → Int) (l : List Tok) : Nat → Nat
  | 0 => 0
  | i + 1 => if h : i < l.length then (if k l[i].r = 0 then ahF k l i + 1 else ahF k l i) else ahF k l i
def ntF (k : Int → Int) (l : List Tok) : Nat → List Nt
  | 0 => []
  | i + 1 => if h : i < l.length then (if k l[i].r = 2 then ntF k l i ++ [ntAt k l i l[i] (ahF k l i)] else ntF k l i) else ntF k l i
theorem ahF_le (k : Int → Int) (l : List Tok) (i : Nat) : ahF k l i ≤ i := by
  induction i with
  | zero => exact Nat.le_refl _
  | succ i ih =>
    rw [ahF]
    split
    · split <;> omega
    · omega
theorem ntF_le (k : Int → Int) (l : List Tok) (i : Nat) : (ntF k l i).length ≤ i := by
  induction i with
  | zero => exact Nat.le_refl _
  | succ i ih =>
    rw [ntF]
    split
    · split
      · simp; omega
      · omega
    · omega
theorem ntF_pre (k : Int → Int) (l : List Tok) (i d : Nat) : ∃ q, ntF k l (i + d) = ntF k l i ++ q := by
  induction d with
  | zero => exact ⟨[], by simp⟩
  | succ d ih =>
    obtain ⟨q, hq⟩ := ih
    rw [← Nat.add_assoc, ntF]
    split
    · split
      · exact ⟨q ++ [_], by rw [hq, List.append_assoc]⟩
      · exact ⟨q, hq⟩
    · exact ⟨q, hq⟩
/-- The note that the comment at i has. -/
theorem ntF_at {k : Int → Int} {l : List Tok} {i : Nat} (h : i < l.length) (hk : k l[i].r = 2) : (ntF k l l.length)[(ntF k l i).length]? = some (ntAt k l i l[i] (ahF k l i)) := by
  obtain ⟨q, hq⟩ := ntF_pre k l (i + 1) (l.length - (i + 1))
  rw [show i + 1 + (l.length - (i + 1)) = l.length by omega] at hq
  rw [hq, ntF, dif_pos h, if_pos hk, List.append_assoc, List.getElem?_append_right (Nat.le_refl _), Nat.sub_self]
  rfl
/-- Two lists merged by places. -/
def mgF : List Tok → List Tok → List Tok
  | [], b => b
  | x :: a, [] => x :: a
  | x :: a, y :: b => if y.p < x.p then y :: mgF (x :: a) b else x :: mgF a (y :: b)
termination_by a b => a.length + b.length
theorem mgF_nil (a : List Tok) : mgF a [] = a := by cases a <;> simp [mgF]
theorem mgF_len (a b : List Tok) : (mgF a b).length = a.length + b.length := by
  induction a generalizing b with
  | nil => simp [mgF]
  | cons x a iha =>
    induction b with
    | nil => simp [mgF]
    | cons y b ihb =>
      rw [mgF]
      split
      · simp only [List.length_cons, ihb]; omega
      · simp only [List.length_cons, iha]; omega
/-- Which one is taken. -/
def mgB (a b : List Tok) : Bool := match a, b with
  | [], _ => true
  | _ :: _, [] => false
  | x :: _, y :: _ => decide (y.p < x.p)
/-- Places rise. -/
def RiseF (l : List Tok) : Prop := l.Pairwise (fun a b => a.p < b.p)
theorem mg_parts (q : Tok → Bool) (l : List Tok) (h : RiseF l) : mgF (l.filter q) (l.filter (fun t => !q t)) = l ∧ mgF (l.filter (fun t => !q t)) (l.filter q) = l := by
  induction l with
  | nil => exact ⟨by simp [mgF], by simp [mgF]⟩
  | cons x l ih =>
    obtain ⟨h1, h2⟩ := List.pairwise_cons.1 h
    obtain ⟨i1, i2⟩ := ih h2
    have hA : ∀ (q : Tok → Bool) y r, l.filter q = y :: r → ¬ (y.p < x.p) ∧ x.p < y.p := fun q y r e => by
      have : y ∈ l.filter q := by rw [e]; exact List.mem_cons_self
      have := h1 y (List.mem_filter.1 this).1
      omega
    cases hq : q x with
    | true =>
      simp only [List.filter_cons, hq, Bool.not_true, if_true, Bool.false_eq_true, if_false]
      constructor
      · cases hb : l.filter (fun t => !q t) with
        | nil => rw [hb, mgF_nil] at i1; rw [mgF_nil, i1]
        | cons y r => rw [mgF, if_neg (hA _ _ _ hb).1, ← hb, i1]
      · cases hb : l.filter (fun t => !q t) with
        | nil => rw [hb] at i2; simp only [mgF] at i2 ⊢; rw [i2]
        | cons y r => rw [mgF, if_pos (hA _ _ _ hb).2, ← hb, i2]
    | false =>
      simp only [List.filter_cons, hq, Bool.not_false, if_true, Bool.false_eq_true, if_false]
      constructor
      · cases hb : l.filter q with
        | nil => rw [hb] at i1; simp only [mgF] at i1 ⊢; rw [i1]
        | cons y r => rw [mgF, if_pos (hA _ _ _ hb).2, ← hb, i1]
      · cases hb : l.filter q with
        | nil => rw [hb, mgF_nil] at i2; rw [mgF_nil, i2]
        | cons y r => rw [mgF, if_neg (hA _ _ _ hb).1, ← hb, i2]
end Go.Proofs.Ytghhjonhmelohaa
