import Derived.Test.YtohgbkajnhgnaaaZTLaw
import Derived.Test.YtohgbkajnhgnaaaZTRefW
namespace Go.Proofs.Ytohgbkajnhgnaaa
set_option linter.unusedVariables false
set_option linter.unusedSimpArgs false

section
variable {C : Nat} {t : Nat → Nat → Nat} {m : Nat → Int}
end
end Go.Proofs.Ytohgbkajnhgnaaa

namespace Go.Proofs.Ytohgbkajnhgnaaa
set_option linter.unusedVariables false
set_option linter.unusedSimpArgs false

/-- Numbers from 0, as unlike things are met. -/
structure Num (R : Nat → Nat → Prop) (n : Nat) (f : Nat → Nat) (B : Nat) : Prop where
  same : ∀ i j, i < n → j < n → (f i = f j ↔ R i j)
  lt : ∀ i, i < n → f i < B
  new : ∀ b, b < B → ∃ i, i < n ∧ f i = b ∧ ∀ j, j < i → f j < b
theorem Num.zero (R : Nat → Nat → Prop) : Num R 0 (fun _ => 0) 0 := ⟨fun i j hi => absurd hi (by omega), fun i hi => absurd hi (by omega), fun b hb => absurd hb (by omega)⟩
theorem Num.congr {R : Nat → Nat → Prop} {n B : Nat} {f g : Nat → Nat} (h : Num R n f B) (e : ∀ i, i < n → f i = g i) : Num R n g B :=
  ⟨fun i j hi hj => by rw [← e i hi, ← e j hj]; exact h.same i j hi hj, fun i hi => by rw [← e i hi]; exact h.lt i hi, fun b hb => by
    obtain ⟨i, h1, h2, h3⟩ := h.new b hb
    exact ⟨i, h1, by rw [← e i h1]; exact h2, fun j hj => by rw [← e j (by omega)]; exact h3 j hj⟩⟩
/-- One that is like an elder one. -/
theorem Num.old {R : Nat → Nat → Prop} {n B k : Nat} {f : Nat → Nat} (h : Num R n f B) (hs : ∀ i j, R i j → R j i) (hT : ∀ i j l, R i j → R j l → R i l) (hr : ∀ i, R i i) (hk : k < n) (hR : R k n) : Num R (n + 1) (fun i => if i = n then f k else f i) B := by
  refine ⟨fun i j hi hj => ?_, fun i hi => ?_, fun b hb => ?_⟩
  · by_cases a : i = n
    · by_cases b : j = n
      · rw [a, b]; simp [hr n]
      · rw [a, if_pos rfl, if_neg b, h.same k j hk (by omega)]
        exact ⟨fun x => hT _ _ _ (hs _ _ hR) x, fun x => hT _ _ _ hR x⟩
    · by_cases b : j = n
      · rw [b, if_pos rfl, if_neg a, h.same i k (by omega) hk]
        exact ⟨fun x => hT _ _ _ x hR, fun x => hT _ _ _ x (hs _ _ hR)⟩
      · rw [if_neg a, if_neg b]
        exact h.same i j (by omega) (by omega)
  · by_cases a : i = n
    · simp only [if_pos a]; exact h.lt k hk
    · simp only [if_neg a]; exact h.lt i (by omega)
  · obtain ⟨i, h1, h2, h3⟩ := h.new b hb
    exact ⟨i, by omega, by rw [if_neg (by omega)]; exact h2, fun j hj => by rw [if_neg (by omega)]; exact h3 j hj⟩
/-- One that is like none. -/
theorem Num.fresh {R : Nat → Nat → Prop} {n B : Nat} {f : Nat → Nat} (h : Num R n f B) (hs : ∀ i j, R i j → R j i) (hr : ∀ i, R i i) (hR : ∀ k, k < n → ¬ R k n) : Num R (n + 1) (fun i => if i = n then B else f i) (B + 1) := by
  refine ⟨fun i j hi hj => ?_, fun i hi => ?_, fun b hb => ?_⟩
  · by_cases a : i = n
    · by_cases b : j = n
      · rw [a, b]; simp [hr n]
      · rw [a, if_pos rfl, if_neg b]
        have := h.lt j (by omega)
        exact ⟨fun e => by omega, fun x => absurd (hs _ _ x) (hR j (by omega))⟩
    · by_cases b : j = n
      · rw [b, if_pos rfl, if_neg a]
        have := h.lt i (by omega)
        exact ⟨fun e => by omega, fun x => absurd x (hR i (by omega))⟩
      · rw [if_neg a, if_neg b]
        exact h.same i j (by omega) (by omega)
  · by_cases a : i = n
    · simp only [if_pos a]; omega
    · simp only [if_neg a]
      have := h.lt i (by omega)
      omega
  · by_cases e : b = B
    · subst e
      exact ⟨n, by omega, by rw [if_pos rfl], fun j hj => by rw [if_neg (by omega)]; exact h.lt j hj⟩
    · obtain ⟨i, h1, h2, h3⟩ := h.new b (by omega)
      exact ⟨i, by omega, by rw [if_neg (by omega)]; exact h2, fun j hj => by rw [if_neg (by omega)]; exact h3 j hj⟩
end Go.Proofs.Ytohgbkajnhgnaaa

namespace Go.Proofs.Ytohgbkajnhgnaaa
set_option linter.unusedVariables false
set_option linter.unusedSimpArgs false

/-- The first of each number, in the order of the numbers. -/
def rpl (f : Nat → Nat) : Nat → List Nat
  | 0 => []
  | i + 1 => if f i < (rpl f i).length then rpl f i else rpl f i ++ [i]
theorem rpl_old {f : Nat → Nat} {i : Nat} (h : f i < (rpl f i).length) : rpl f (i + 1) = rpl f i := by
  show (if f i < (rpl f i).length then rpl f i else rpl f i ++ [i]) = _
  rw [if_pos h]
theorem rpl_new {f : Nat → Nat} {i : Nat} (h : ¬ f i < (rpl f i).length) : rpl f (i + 1) = rpl f i ++ [i] := by
  show (if f i < (rpl f i).length then rpl f i else rpl f i ++ [i]) = _
  rw [if_neg h]
theorem rpl_len (f : Nat → Nat) : ∀ i, (rpl f i).length ≤ i := by
  intro i
  induction i with
  | zero => exact Nat.le_refl _
  | succ i ih =>
    by_cases h : f i < (rpl f i).length
    · rw [rpl_old h]; omega
    · rw [rpl_new h]; simp; omega
theorem rpl_lt (f : Nat → Nat) : ∀ i x, x ∈ rpl f i → x < i := by
  intro i
  induction i with
  | zero => intro x h; cases h
  | succ i ih =>
    intro x h
    by_cases h1 : f i < (rpl f i).length
    · rw [rpl_old h1] at h; have := ih x h; omega
    · rw [rpl_new h1] at h
      rcases List.mem_append.1 h with h | h
      · have := ih x h; omega
      · rw [List.mem_singleton.1 h]; omega
section
variable {R : Nat → Nat → Prop} {n B : Nat} {f : Nat → Nat}
/-- What is behind: all numbers below the list's length were met, and none above. -/
theorem Num.rpl (h : Num R n f B) : ∀ i, i ≤ n → (∀ j, j < i → f j < (rpl f i).length) ∧ (∀ b, b < (rpl f i).length → ∃ x, (rpl f i)[b]? = some x ∧ f x = b ∧ ∀ j, j < x → f j < b) ∧ (i < n → f i ≤ (rpl f i).length) := by
  have step : ∀ i, i < n → (∀ j, j < i → f j < (Go.Proofs.Ytohgbkajnhgnaaa.rpl f i).length) → f i ≤ (Go.Proofs.Ytohgbkajnhgnaaa.rpl f i).length := by
    intro i hi hlt
    by_cases h0 : f i = 0
    · omega
    · obtain ⟨x, h1, h2, h3⟩ := h.new (f i - 1) (by have := h.lt i hi; omega)
      have hx : x < i := by
        refine Classical.byContradiction fun e => ?_
        by_cases e2 : x = i
        · subst e2; omega
        · have := h3 i (by omega); omega
      have := hlt x hx
      omega
  intro i
  induction i with
  | zero =>
    intro _
    refine ⟨fun j hj => absurd hj (by omega), fun b hb => absurd hb (by simp [Go.Proofs.Ytohgbkajnhgnaaa.rpl]), fun h0 => step 0 h0 (fun j hj => absurd hj (by omega))⟩
  | succ i ih =>
    intro hi
    obtain ⟨a1, a2, a3⟩ := ih (by omega)
    have a3 := a3 (by omega)
    by_cases h1 : f i < (Go.Proofs.Ytohgbkajnhgnaaa.rpl f i).length
    · rw [rpl_old h1]
      have hl : ∀ j, j < i + 1 → f j < (Go.Proofs.Ytohgbkajnhgnaaa.rpl f i).length := fun j hj => by
        by_cases e : j = i
        · subst e; exact h1
        · exact a1 j (by omega)
      refine ⟨hl, a2, fun h2 => ?_⟩
      have := step (i + 1) h2 (by rw [rpl_old h1]; exact hl)
      rwa [rpl_old h1] at this
    · have e1 : f i = (Go.Proofs.Ytohgbkajnhgnaaa.rpl f i).length := by omega
      rw [rpl_new h1]
      have hl : ∀ j, j < i + 1 → f j < (Go.Proofs.Ytohgbkajnhgnaaa.rpl f i ++ [i]).length := fun j hj => by
        rw [List.length_append]
        by_cases e : j = i
        · subst e; simp; omega
        · have := a1 j (by omega); simp; omega
      refine ⟨hl, fun b hb => ?_, fun h2 => ?_⟩
      · by_cases e : b < (Go.Proofs.Ytohgbkajnhgnaaa.rpl f i).length
        · obtain ⟨x, x1, x2, x3⟩ := a2 b e
          exact ⟨x, by rw [List.getElem?_append_left e]; exact x1, x2, x3⟩
        · have e2 : b = (Go.Proofs.Ytohgbkajnhgnaaa.rpl f i).length := by
            rw [List.length_append] at hb
            simp at hb
            omega
          refine ⟨i, by rw [e2]; simp, by omega, fun j hj => ?_⟩
          have := a1 j hj
          omega
      · have := step (i + 1) h2 (by rw [rpl_new h1]; exact hl)
        rwa [rpl_new h1] at this
theorem Num.rpl_all (h : Num R n f B) : (Go.Proofs.Ytohgbkajnhgnaaa.rpl f n).length = B := by
  obtain ⟨a1, a2, _⟩ := h.rpl n (Nat.le_refl _)
  have h1 : (Go.Proofs.Ytohgbkajnhgnaaa.rpl f n).length ≤ B := by
    refine Classical.byContradiction fun e => ?_
    obtain ⟨x, x1, x2, _⟩ := a2 B (by omega)
    have h2 := rpl_lt f n x (List.mem_of_getElem? x1)
    have := h.lt x h2
    omega
  have h2 : B ≤ (Go.Proofs.Ytohgbkajnhgnaaa.rpl f n).length := by
    refine Classical.byContradiction fun e => ?_
    obtain ⟨x, x1, x2, _⟩ := h.new ((Go.Proofs.Ytohgbkajnhgnaaa.rpl f n).length) (by omega)
    have := a1 x x1
    omega
  omega
end
end Go.Proofs.Ytohgbkajnhgnaaa

namespace Go.Proofs.Ytohgbkajnhgnaaa
set_option linter.unusedVariables false
set_option linter.unusedSimpArgs false

/-- A span; a partition. -/
structure Sp9 where
  f : Nat
  g : Nat
  h : Nat
  w : Bool
/-- Its lists: the order, the places, the blocks, the touched, the open ones. -/
structure Pt where
  L : Nat → List Nat
  sp : List Sp9
end Go.Proofs.Ytohgbkajnhgnaaa

namespace Go.Proofs.Ytohgbkajnhgnaaa
set_option linter.unusedVariables false
set_option linter.unusedSimpArgs false

end Go.Proofs.Ytohgbkajnhgnaaa

namespace Go.Proofs.Ytohgbkajnhgnaaa
set_option linter.unusedVariables false
set_option linter.unusedSimpArgs false

end Go.Proofs.Ytohgbkajnhgnaaa

namespace Go.Proofs.Ytohgbkajnhgnaaa
set_option linter.unusedVariables false
set_option linter.unusedSimpArgs false

/-- Two bytes that tell a state, or nowhere. -/
def u16n (x : Int) : Nat := (x % 65536).toNat
/-- Where a class leads from every state, as bytes. -/
def colT (z : Nat → Int) : Nat → List Nat
  | 0 => []
  | i + 1 => colT z i ++ [u16n (z i) % 256, u16n (z i) / 256]
end Go.Proofs.Ytohgbkajnhgnaaa
