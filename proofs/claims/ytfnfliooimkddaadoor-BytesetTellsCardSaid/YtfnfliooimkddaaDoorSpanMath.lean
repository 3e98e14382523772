import Derived.Test.YtfnfliooimkddaaDoorOwn
namespace Go.Proofs.YtfnfliooimkddaaDoor
open Go.RowKit

/-- One more byte behind the spans so far, the last span first. -/
def spStep : List (Nat × Nat) → Nat → List (Nat × Nat)
  | [], b => [(b, b)]
  | (f, t) :: r, b => if t + 1 = b then (f, b) :: r else (b, b) :: (f, t) :: r
/-- The spans of an increasing list, the last one first. -/
def spAcc (xs : List Nat) : List (Nat × Nat) := xs.foldl spStep []
/-- Spans in memory. -/
def spCells (l : List (Nat × Nat)) : List Value := l.flatMap fun e => [.int .u8 ((e.1 : Nat) : Int), .int .u8 ((e.2 : Nat) : Int)]

theorem spCells_snoc (l : List (Nat × Nat)) (e : Nat × Nat) : spCells (l ++ [e]) = spCells l ++ [.int .u8 ((e.1 : Nat) : Int), .int .u8 ((e.2 : Nat) : Int)] := by simp [spCells]
theorem spCells_length (l : List (Nat × Nat)) : (spCells l).length = l.length * 2 := by
  induction l with
  | nil => rfl
  | cons e l ih => simp [spCells] at ih ⊢; omega
theorem spCells_get (l : List (Nat × Nat)) (i : Nat) (h : i < l.length) :
    (spCells l)[i * 2]? = some (.int .u8 ((l[i].1 : Nat) : Int)) ∧ (spCells l)[i * 2 + 1]? = some (.int .u8 ((l[i].2 : Nat) : Int)) := by
  induction l generalizing i with
  | nil => simp at h
  | cons e l ih =>
    match i, h with
    | 0, _ => simp [spCells]
    | i + 1, h =>
      have := ih i (by simpa using h)
      rw [show (i + 1) * 2 = i * 2 + 1 + 1 by omega]
      simpa [spCells] using this

theorem spAcc_snoc (xs : List Nat) (b : Nat) : spAcc (xs ++ [b]) = spStep (spAcc xs) b := by simp [spAcc]
theorem spAcc_take (xs : List Nat) (k : Nat) (h : k < xs.length) : spAcc (xs.take (k + 1)) = spStep (spAcc (xs.take k)) xs[k] := by
  rw [List.take_succ_eq_append_getElem h, spAcc_snoc]

/-- What the spans of an increasing list are. -/
structure SpOk (ys : List Nat) (acc : List (Nat × Nat)) : Prop where
  apart : acc.Pairwise fun x y => y.2 + 1 < x.1
  right : ∀ e, e ∈ acc → e.1 ≤ e.2 ∧ e.1 ∈ ys ∧ e.2 ∈ ys
  all : ∀ b, b ∈ ys ↔ ∃ e, e ∈ acc ∧ e.1 ≤ b ∧ b ≤ e.2
  some : acc = [] → ys = []

theorem SpOk.step {ys : List Nat} {acc : List (Nat × Nat)} (h : SpOk ys acc) (b : Nat) (hb : ∀ y, y ∈ ys → y < b) : SpOk (ys ++ [b]) (spStep acc b) := by
  match acc, h with
  | [], h =>
    have := h.some rfl
    subst this
    refine ⟨by simp [spStep], ?_, ?_, by simp [spStep]⟩
    · intro e he; simp [spStep] at he; subst he; simp
    · intro c; simp [spStep]; omega
  | (f, t) :: r, h =>
    obtain ⟨h1, h2, h3, _⟩ := h
    have ht := h2 (f, t) (by simp)
    have htb := hb t ht.2.2
    rw [List.pairwise_cons] at h1
    by_cases e : t + 1 = b
    · have es : spStep ((f, t) :: r) b = (f, b) :: r := by simp [spStep, e]
      rw [es]
      refine ⟨?_, ?_, ?_, by simp⟩
      · rw [List.pairwise_cons]; exact h1
      · intro x hx
        rcases List.mem_cons.1 hx with rfl | hx
        · exact ⟨by simp; omega, by simp [ht.2.1], by simp⟩
        · have := h2 x (List.mem_cons_of_mem _ hx); exact ⟨this.1, by simp [this.2.1], by simp [this.2.2]⟩
      · intro c
        rw [List.mem_append, h3]
        constructor
        · rintro (⟨x, hx, hx1, hx2⟩ | hc)
          · rcases List.mem_cons.1 hx with rfl | hx
            · exact ⟨(f, b), by simp, hx1, by simp at hx2 ⊢; omega⟩
            · exact ⟨x, List.mem_cons_of_mem _ hx, hx1, hx2⟩
          · simp at hc; subst hc; exact ⟨(f, c), by simp, by simp; omega, by simp⟩
        · rintro ⟨x, hx, hx1, hx2⟩
          rcases List.mem_cons.1 hx with rfl | hx
          · simp at hx1 hx2
            by_cases hcb : c = b
            · exact Or.inr (by simp [hcb])
            · exact Or.inl ⟨(f, t), by simp, hx1, by simp; omega⟩
          · exact Or.inl ⟨x, List.mem_cons_of_mem _ hx, hx1, hx2⟩
    · have es : spStep ((f, t) :: r) b = (b, b) :: (f, t) :: r := by simp [spStep, e]
      rw [es]
      refine ⟨?_, ?_, ?_, by simp⟩
      · rw [List.pairwise_cons, List.pairwise_cons]
        refine ⟨?_, h1⟩
        intro x hx
        rcases List.mem_cons.1 hx with rfl | hx
        · simp; omega
        · have := h1.1 x hx; simp at this ⊢; omega
      · intro x hx
        rcases List.mem_cons.1 hx with rfl | hx
        · simp
        · have := h2 x hx; exact ⟨this.1, by simp [this.2.1], by simp [this.2.2]⟩
      · intro c
        rw [List.mem_append, h3]
        constructor
        · rintro (⟨x, hx, hx1, hx2⟩ | hc)
          · exact ⟨x, List.mem_cons_of_mem _ hx, hx1, hx2⟩
          · simp at hc; subst hc; exact ⟨(c, c), by simp, by simp, by simp⟩
        · rintro ⟨x, hx, hx1, hx2⟩
          rcases List.mem_cons.1 hx with rfl | hx
          · simp at hx1 hx2; exact Or.inr (by simp; omega)
          · exact Or.inl ⟨x, hx, hx1, hx2⟩

theorem spAcc_ok (xs : List Nat) (hs : xs.Pairwise (· < ·)) (k : Nat) (hk : k ≤ xs.length) : SpOk (xs.take k) (spAcc (xs.take k)) := by
  induction k with
  | zero => refine ⟨by simp [spAcc], by simp [spAcc], by simp [spAcc], by simp⟩
  | succ k ih =>
    rw [spAcc_take xs k (by omega), List.take_succ_eq_append_getElem (by omega)]
    refine (ih (by omega)).step _ fun y hy => ?_
    obtain ⟨i, hi, rfl⟩ := List.getElem_of_mem hy
    have hi' : i < k := by simp at hi; omega
    rw [List.getElem_take]
    exact List.pairwise_iff_getElem.1 hs i k _ _ hi'

theorem lst_pairwise (p : Nat → Bool) (k : Nat) : (lst p k).Pairwise (· < ·) := List.Pairwise.filter _ List.pairwise_lt_range
/-- The spans of a set. -/
def spansOf (p : Nat → Bool) : List (Nat × Nat) := (spAcc (lst p 256)).reverse
theorem spansOf_ok (p : Nat → Bool) : SpOk (lst p 256) (spAcc (lst p 256)) := by
  have := spAcc_ok (lst p 256) (lst_pairwise p 256) (lst p 256).length (Nat.le_refl _)
  rwa [List.take_length] at this
theorem spAcc_length (xs : List Nat) (k : Nat) : (spAcc (xs.take k)).length ≤ k := by
  induction k with
  | zero => simp [spAcc]
  | succ k ih =>
    by_cases h : k < xs.length
    · rw [spAcc_take xs k h]
      generalize spAcc (xs.take k) = acc at ih
      match acc, ih with
      | [], _ => simp [spStep]
      | (f, t) :: r, ih => simp only [spStep]; split <;> simp at ih ⊢ <;> omega
    · rw [List.take_of_length_le (by omega)]
      rw [List.take_of_length_le (by omega)] at ih
      omega
end Go.Proofs.YtfnfliooimkddaaDoor
