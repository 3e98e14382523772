import Derived.Test.YthidhkaeebakjaaOnes
import Derived.Laws.BitsLemmas
namespace Go.Proofs.Ythidhkaeebakjaa
open Go.RowKit

/-- The number with n digits f of s bits each. -/
def dg (f : Nat → Nat) (s : Nat) : Nat → Nat
  | 0 => 0
  | n + 1 => 2 ^ (s * n) * f n + dg f s n
/-- The sum of n digits. -/
def sm (f : Nat → Nat) : Nat → Nat
  | 0 => 0
  | n + 1 => sm f n + f n
theorem sm_pair (f : Nat → Nat) (n : Nat) : sm (fun i => f (2 * i + 1) + f (2 * i)) n = sm f (2 * n) := by
  induction n with
  | zero => rfl
  | succ n ih =>
    rw [show 2 * (n + 1) = 2 * n + 1 + 1 by omega]
    simp only [sm, ih]
    omega
theorem dg_lt (f : Nat → Nat) (s : Nat) (h : ∀ i, f i < 2 ^ s) (n : Nat) : dg f s n < 2 ^ (s * n) := by
  induction n with
  | zero => simp [dg]
  | succ n ih =>
    have h1 := h n
    have h2 : 2 ^ (s * n) * (f n + 1) ≤ 2 ^ (s * n) * 2 ^ s := Nat.mul_le_mul_left _ h1
    have h3 : 2 ^ (s * (n + 1)) = 2 ^ (s * n) * 2 ^ s := by rw [Nat.mul_add, Nat.mul_one, Nat.pow_add]
    rw [Nat.mul_add, Nat.mul_one] at h2
    simp only [dg]
    omega
theorem dg_bit (f : Nat → Nat) (s : Nat) (hs : 0 < s) (h : ∀ i, f i < 2 ^ s) (n k : Nat) : (dg f s n).testBit k = (decide (k / s < n) && (f (k / s)).testBit (k % s)) := by
  induction n with
  | zero => simp [dg]
  | succ n ih =>
    simp only [dg]
    rw [Nat.testBit_two_pow_mul_add _ (dg_lt f s h n)]
    by_cases hk : k < s * n
    · have h1 : k / s < n := Nat.div_lt_of_lt_mul hk
      rw [if_pos hk, ih, decide_eq_true h1, decide_eq_true (by omega : k / s < n + 1)]
    · rw [if_neg hk]
      have h1 : n ≤ k / s := (Nat.le_div_iff_mul_le hs).2 (by rw [Nat.mul_comm]; omega)
      have h2 := Nat.div_add_mod k s
      by_cases e : k / s = n
      · rw [e] at h2
        have h3 : k - s * n = k % s := by omega
        rw [h3, e, decide_eq_true (by omega : n < n + 1)]
        simp
      · rw [decide_eq_false (by omega : ¬ k / s < n + 1)]
        have h4 : s * (n + 1) ≤ s * (k / s) := Nat.mul_le_mul_left _ (by omega)
        rw [Nat.mul_add, Nat.mul_one] at h4
        have h5 : f n < 2 ^ (k - s * n) := Nat.lt_of_lt_of_le (h n) (Nat.pow_le_pow_right (by decide) (by omega))
        rw [Nat.testBit_lt_two_pow h5]; simp
theorem dg_add (f g : Nat → Nat) (s n : Nat) : dg f s n + dg g s n = dg (fun i => f i + g i) s n := by
  induction n with
  | zero => rfl
  | succ n ih => simp only [dg]; rw [← ih, Nat.mul_add]; omega
theorem dg_down (f : Nat → Nat) (s n : Nat) : dg f s (n + 1) = 2 ^ s * dg (fun i => f (i + 1)) s n + f 0 := by
  induction n with
  | zero => simp [dg]
  | succ n ih =>
    rw [dg, ih]
    simp only [dg]
    have h3 : 2 ^ (s * (n + 1)) = 2 ^ s * 2 ^ (s * n) := by rw [Nat.mul_add, Nat.mul_one, Nat.pow_add, Nat.mul_comm]
    rw [h3, Nat.mul_add, Nat.mul_assoc]
    omega
theorem dg_shift (f : Nat → Nat) (s n : Nat) (h : f 0 < 2 ^ s) : dg f s (n + 1) / 2 ^ s = dg (fun i => f (i + 1)) s n := by
  rw [dg_down, Nat.mul_add_div (Nat.two_pow_pos s), Nat.div_eq_of_lt h, Nat.add_zero]

/-- The digits at even places. -/
theorem dg_even (f : Nat → Nat) (s n : Nat) (hs : s = 1 ∨ s = 2 ∨ s = 4) (h : ∀ i, f i < 2 ^ s) : dg f s (2 * n) &&& dg (fun _ => 2 ^ s - 1) (2 * s) n = dg (fun i => f (2 * i)) (2 * s) n := by
  have hm : ∀ i : Nat, (fun _ : Nat => 2 ^ s - 1) i < 2 ^ (2 * s) := by
    intro i
    have : 2 ^ s ≤ 2 ^ (2 * s) := Nat.pow_le_pow_right (by decide) (by omega)
    have := Nat.two_pow_pos s
    show 2 ^ s - 1 < 2 ^ (2 * s)
    omega
  have hf : ∀ i, (fun i => f (2 * i)) i < 2 ^ (2 * s) := fun i => Nat.lt_of_lt_of_le (h (2 * i)) (Nat.pow_le_pow_right (by decide) (by omega))
  refine Nat.eq_of_testBit_eq fun k => ?_
  rw [Nat.testBit_and, dg_bit _ s (by omega) h, dg_bit _ (2 * s) (by omega) hm, dg_bit _ (2 * s) (by omega) hf]
  by_cases hr : k % (2 * s) < s
  · have e1 : k / s = 2 * (k / (2 * s)) ∧ k % s = k % (2 * s) := by rcases hs with rfl | rfl | rfl <;> omega
    rw [e1.1, e1.2, Nat.testBit_two_pow_sub_one, decide_eq_true hr]
    by_cases hn : k / (2 * s) < n
    · rw [decide_eq_true hn, decide_eq_true (by omega : 2 * (k / (2 * s)) < 2 * n)]; simp
    · rw [decide_eq_false hn, decide_eq_false (by omega : ¬ 2 * (k / (2 * s)) < 2 * n)]; simp
  · rw [Nat.testBit_two_pow_sub_one, decide_eq_false hr]
    have h5 : f (2 * (k / (2 * s))) < 2 ^ (k % (2 * s)) := Nat.lt_of_lt_of_le (h _) (Nat.pow_le_pow_right (by decide) (by omega))
    rw [Nat.testBit_lt_two_pow h5]; simp
/-- The digits at odd places. -/
theorem dg_odd (f : Nat → Nat) (s n : Nat) (hs : s = 1 ∨ s = 2 ∨ s = 4) (h : ∀ i, f i < 2 ^ s) (hl : f (2 * n) = 0) : (dg f s (2 * n) / 2 ^ s) &&& dg (fun _ => 2 ^ s - 1) (2 * s) n = dg (fun i => f (2 * i + 1)) (2 * s) n := by
  have e : dg f s (2 * n) / 2 ^ s = dg (fun i => f (i + 1)) s (2 * n) := by
    rw [← dg_shift f s (2 * n) (h 0)]
    simp only [dg, hl, Nat.mul_zero, Nat.zero_add]
  rw [e]
  exact dg_even (fun i => f (i + 1)) s n hs (fun i => h (i + 1))

/-- The bits of a word. -/
def bt (p : Nat → Bool) (j : Nat) (i : Nat) : Nat := if i < 64 then (if p (64 * j + i) then 1 else 0) else 0
theorem wdUp_dg (p : Nat → Bool) (j n : Nat) (h : n ≤ 64) : wdUp p j n = dg (bt p j) 1 n := by
  induction n with
  | zero => rfl
  | succ n ih =>
    simp only [wdUp, dg, ih (by omega), bt, if_pos (by omega : n < 64), Nat.one_mul]
    split <;> simp <;> omega
/-- How many of the first n bits of a word are set. -/
def cnt (p : Nat → Bool) (j n : Nat) : Nat := sm (bt p j) n
end Go.Proofs.Ythidhkaeebakjaa
