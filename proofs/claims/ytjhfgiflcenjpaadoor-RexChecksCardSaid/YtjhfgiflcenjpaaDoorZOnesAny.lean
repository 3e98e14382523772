import Derived.Test.YtjhfgiflcenjpaaDoorZOnes
import Derived.Laws.BitsLemmas
import Derived.IntWalk
import Derived.Laws.Bits128
namespace Go.Proofs.YtjhfgiflcenjpaaDoor
open Go.RowKit

/-- The number with n digits f of s bits each. -/
def dg (f : Nat → Nat) (s : Nat) : Nat → Nat
  | 0 => 0
  | n + 1 => 2 ^ (s * n) * f n + dg f s n
/-- The sum of n digits. -/
def sm (f : Nat → Nat) : Nat → Nat
  | 0 => 0
  | n + 1 => sm f n + f n
theorem sm_pair (f : Nat → Nat) (n : Nat) : sm (fun i => f (2 * i + 1) + f (2 * i)) n = sm f (2 * n) := by
  induction n with
  | zero => rfl
  | succ n ih =>
    rw [show 2 * (n + 1) = 2 * n + 1 + 1 by omega]
    simp only [sm, ih]
    omega
theorem dg_lt (f : Nat → Nat) (s : Nat) (h : ∀ i, f i < 2 ^ s) (n : Nat) : dg f s n < 2 ^ (s * n) := by
  induction n with
  | zero => simp [dg]
  | succ n ih =>
    have h1 := h n
    have h2 : 2 ^ (s * n) * (f n + 1) ≤ 2 ^ (s * n) * 2 ^ s := Nat.mul_le_mul_left _ h1
    have h3 : 2 ^ (s * (n + 1)) = 2 ^ (s * n) * 2 ^ s := by rw [Nat.mul_add, Nat.mul_one, Nat.pow_add]
    rw [Nat.mul_add, Nat.mul_one] at h2
    simp only [dg]
    omega
theorem dg_bit (f : Nat → Nat) (s : Nat) (hs : 0 < s) (h : ∀ i, f i < 2 ^ s) (n k : Nat) : (dg f s n).testBit k = (decide (k / s < n) && (f (k / s)).testBit (k % s)) := by
  induction n with
  | zero => simp [dg]
  | succ n ih =>
    simp only [dg]
    rw [Nat.testBit_two_pow_mul_add _ (dg_lt f s h n)]
    by_cases hk : k < s * n
    · have h1 : k / s < n := Nat.div_lt_of_lt_mul hk
      rw [if_pos hk, ih, decide_eq_true h1, decide_eq_true (by omega : k / s < n + 1)]
    · rw [if_neg hk]
      have h1 : n ≤ k / s := (Nat.le_div_iff_mul_le hs).2 (by rw [Nat.mul_comm]; omega)
      have h2 := Nat.div_add_mod k s
      by_cases e : k / s = n
      · rw [e] at h2
        have h3 : k - s * n = k % s := by omega
        rw [h3, e, decide_eq_true (by omega : n < n + 1)]
        simp
      · rw [decide_eq_false (by omega : ¬ k / s < n + 1)]
        have h4 : s * (n + 1) ≤ s * (k / s) := Nat.mul_le_mul_left _ (by omega)
        rw [Nat.mul_add, Nat.mul_one] at h4
        have h5 : f n < 2 ^ (k - s * n) := Nat.lt_of_lt_of_le (h n) (Nat.pow_le_pow_right (by decide) (by omega))
        rw [Nat.testBit_lt_two_pow h5]; simp
theorem dg_add (f g : Nat → Nat) (s n : Nat) : dg f s n + dg g s n = dg (fun i => f i + g i) s n := by
  induction n with
  | zero => rfl
  | succ n ih => simp only [dg]; rw [← ih, Nat.mul_add]; omega
theorem dg_down (f : Nat → Nat) (s n : Nat) : dg f s (n + 1) = 2 ^ s * dg (fun i => f (i + 1)) s n + f 0 := by
  induction n with
  | zero => simp [dg]
  | succ n ih =>
    rw [dg, ih]
    simp only [dg]
    have h3 : 2 ^ (s * (n + 1)) = 2 ^ s * 2 ^ (s * n) := by rw [Nat.mul_add, Nat.mul_one, Nat.pow_add, Nat.mul_comm]
    rw [h3, Nat.mul_add, Nat.mul_assoc]
    omega
theorem dg_shift (f : Nat → Nat) (s n : Nat) (h : f 0 < 2 ^ s) : dg f s (n + 1) / 2 ^ s = dg (fun i => f (i + 1)) s n := by
  rw [dg_down, Nat.mul_add_div (Nat.two_pow_pos s), Nat.div_eq_of_lt h, Nat.add_zero]

/-- The digits at even places. -/
theorem dg_even (f : Nat → Nat) (s n : Nat) (hs : s = 1 ∨ s = 2 ∨ s = 4) (h : ∀ i, f i < 2 ^ s) : dg f s (2 * n) &&& dg (fun _ => 2 ^ s - 1) (2 * s) n = dg (fun i => f (2 * i)) (2 * s) n := by
  have hm : ∀ i : Nat, (fun _ : Nat => 2 ^ s - 1) i < 2 ^ (2 * s) := by
    intro i
    have : 2 ^ s ≤ 2 ^ (2 * s) := Nat.pow_le_pow_right (by decide) (by omega)
    have := Nat.two_pow_pos s
    show 2 ^ s - 1 < 2 ^ (2 * s)
    omega
  have hf : ∀ i, (fun i => f (2 * i)) i < 2 ^ (2 * s) := fun i => Nat.lt_of_lt_of_le (h (2 * i)) (Nat.pow_le_pow_right (by decide) (by omega))
  refine Nat.eq_of_testBit_eq fun k => ?_
  rw [Nat.testBit_and, dg_bit _ s (by omega) h, dg_bit _ (2 * s) (by omega) hm, dg_bit _ (2 * s) (by omega) hf]
  by_cases hr : k % (2 * s) < s
  · have e1 : k / s = 2 * (k / (2 * s)) ∧ k % s = k % (2 * s) := by rcases hs with rfl | rfl | rfl <;> omega
    rw [e1.1, e1.2, Nat.testBit_two_pow_sub_one, decide_eq_true hr]
    by_cases hn : k / (2 * s) < n
    · rw [decide_eq_true hn, decide_eq_true (by omega : 2 * (k / (2 * s)) < 2 * n)]; simp
    · rw [decide_eq_false hn, decide_eq_false (by omega : ¬ 2 * (k / (2 * s)) < 2 * n)]; simp
  · rw [Nat.testBit_two_pow_sub_one, decide_eq_false hr]
    have h5 : f (2 * (k / (2 * s))) < 2 ^ (k % (2 * s)) := Nat.lt_of_lt_of_le (h _) (Nat.pow_le_pow_right (by decide) (by omega))
    rw [Nat.testBit_lt_two_pow h5]; simp
/-- The digits at odd places. -/
theorem dg_odd (f : Nat → Nat) (s n : Nat) (hs : s = 1 ∨ s = 2 ∨ s = 4) (h : ∀ i, f i < 2 ^ s) (hl : f (2 * n) = 0) : (dg f s (2 * n) / 2 ^ s) &&& dg (fun _ => 2 ^ s - 1) (2 * s) n = dg (fun i => f (2 * i + 1)) (2 * s) n := by
  have e : dg f s (2 * n) / 2 ^ s = dg (fun i => f (i + 1)) s (2 * n) := by
    rw [← dg_shift f s (2 * n) (h 0)]
    simp only [dg, hl, Nat.mul_zero, Nat.zero_add]
  rw [e]
  exact dg_even (fun i => f (i + 1)) s n hs (fun i => h (i + 1))

/-- The bits of a word. -/
def bt (p : Nat → Bool) (j : Nat) (i : Nat) : Nat := if i < 64 then (if p (64 * j + i) then 1 else 0) else 0
theorem wdUp_dg (p : Nat → Bool) (j n : Nat) (h : n ≤ 64) : wdUp p j n = dg (bt p j) 1 n := by
  induction n with
  | zero => rfl
  | succ n ih =>
    simp only [wdUp, dg, ih (by omega), bt, if_pos (by omega : n < 64), Nat.one_mul]
    split <;> simp <;> omega
/-- How many of the first n bits of a word are set. -/
def cnt (p : Nat → Bool) (j n : Nat) : Nat := sm (bt p j) n
end Go.Proofs.YtjhfgiflcenjpaaDoor

namespace Go.Proofs.YtjhfgiflcenjpaaDoor
open Go.RowKit

theorem wrap_nat (x : Nat) (h : x < 18446744073709551616) : IntKind.u64.wrap (x : Int) = (x : Int) := by
  simp only [IntKind.wrap, IntKind.bits, IntKind.signed]
  simp
  omega
theorem and_nat (x : Nat) (m : Nat) (hx : x < 18446744073709551616) (hm : m < 18446744073709551616) : bits .and .u64 (x : Int) (m : Int) = ((x &&& m : Nat) : Int) := u64_and_nat x m hx hm

/-- One step to the right, of n digits of 8 bits of which the last is followed by none. -/
theorem dg_next (f : Nat → Nat) (h : ∀ i, f i < 256) (z : f 8 = 0) : dg f 8 8 / 256 = dg (fun i => f (i + 1)) 8 8 := by
  have h1 := dg_shift f 8 8 (h 0)
  rw [show dg f 8 (8 + 1) = dg f 8 8 by rw [dg, z]; simp] at h1
  exact h1
theorem fold8 (f : Nat → Nat) (h : ∀ i, f i ≤ 8) (z : ∀ i, 8 ≤ i → f i = 0) :
    ∃ y t u, y = dg f 8 8 + dg f 8 8 / 256 ∧ t = y + y / 65536 ∧ u = t + t / 4294967296 ∧ y < 18446744073709551616 ∧ t < 18446744073709551616 ∧ u < 9223372036854775808 ∧ u % 128 = f 0 + f 1 + f 2 + f 3 + f 4 + f 5 + f 6 + f 7 := by
  have a1 : ∀ i, (fun i => f i + f (i + 1)) i ≤ 16 := fun i => Nat.add_le_add (h i) (h (i + 1))
  have z1 : ∀ i, 8 ≤ i → (fun i => f i + f (i + 1)) i = 0 := fun i hi => by show f i + f (i + 1) = 0; rw [z i hi, z (i + 1) (Nat.le_succ_of_le hi)]
  have e1 : dg f 8 8 + dg f 8 8 / 256 = dg (fun i => f i + f (i + 1)) 8 8 := by
    rw [dg_next f (fun i => Nat.lt_of_le_of_lt (h i) (by decide)) (z 8 (Nat.le_refl _)), dg_add]
  have g1 : ∃ g : Nat → Nat, g = fun i => f i + f (i + 1) := ⟨_, rfl⟩
  obtain ⟨g, hg⟩ := g1
  rw [← hg] at a1 z1 e1
  have s1 : ∀ i, g i < 256 := fun i => Nat.lt_of_le_of_lt (a1 i) (by decide)
  have e2 : dg g 8 8 / 65536 = dg (fun i => g (i + 2)) 8 8 := by
    rw [show 65536 = 256 * 256 by rfl, ← Nat.div_div_eq_div_mul, dg_next g s1 (z1 8 (by decide)), dg_next (fun i => g (i + 1)) (fun i => s1 (i + 1)) (z1 9 (by decide))]
  have e3 : dg g 8 8 + dg g 8 8 / 65536 = dg (fun i => g i + g (i + 2)) 8 8 := by rw [e2, dg_add]
  have a2 : ∀ i, (fun i => g i + g (i + 2)) i ≤ 32 := fun i => Nat.add_le_add (a1 i) (a1 (i + 2))
  have z2 : ∀ i, 8 ≤ i → (fun i => g i + g (i + 2)) i = 0 := fun i hi => by show g i + g (i + 2) = 0; rw [z1 i hi, z1 (i + 2) (Nat.le_add_right_of_le hi)]
  have g2 : ∃ k : Nat → Nat, k = fun i => g i + g (i + 2) := ⟨_, rfl⟩
  obtain ⟨k, hk⟩ := g2
  rw [← hk] at a2 z2 e3
  have s2 : ∀ i, k i < 256 := fun i => Nat.lt_of_le_of_lt (a2 i) (by decide)
  have e4 : dg k 8 8 / 4294967296 = dg (fun i => k (i + 4)) 8 8 := by
    rw [show 4294967296 = 256 * 256 * 256 * 256 by rfl, ← Nat.div_div_eq_div_mul, ← Nat.div_div_eq_div_mul, ← Nat.div_div_eq_div_mul, dg_next k s2 (z2 8 (by decide)), dg_next (fun i => k (i + 1)) (fun i => s2 (i + 1)) (z2 9 (by decide)), dg_next (fun i => k (i + 1 + 1)) (fun i => s2 (i + 1 + 1)) (z2 10 (by decide)), dg_next (fun i => k (i + 1 + 1 + 1)) (fun i => s2 (i + 1 + 1 + 1)) (z2 11 (by decide))]
  have e5 : dg k 8 8 + dg k 8 8 / 4294967296 = dg (fun i => k i + k (i + 4)) 8 8 := by rw [e4, dg_add]
  have a3 : ∀ i, (fun i => k i + k (i + 4)) i ≤ 64 := fun i => Nat.add_le_add (a2 i) (a2 (i + 4))
  have g3 : ∃ m : Nat → Nat, m = fun i => k i + k (i + 4) := ⟨_, rfl⟩
  obtain ⟨m, hm⟩ := g3
  rw [← hm] at a3 e5
  have s3 : ∀ i, m i < 2 ^ 8 := fun i => Nat.lt_of_le_of_lt (a3 i) (by decide)
  have hsum : m 0 = f 0 + f 1 + f 2 + f 3 + f 4 + f 5 + f 6 + f 7 := by
    subst hm
    show k 0 + k 4 = _
    subst hk
    show g 0 + g 2 + (g 4 + g 6) = _
    subst hg
    show f 0 + f 1 + (f 2 + f 3) + (f 4 + f 5 + (f 6 + f 7)) = _
    omega
  refine ⟨dg g 8 8, dg k 8 8, dg m 8 8, e1.symm, e3.symm, e5.symm, dg_lt g 8 s1 8, dg_lt k 8 s2 8, ?_, ?_⟩
  · have h7 := dg_lt m 8 s3 7
    have h8 := a3 7
    have e : dg m 8 8 = 2 ^ (8 * 7) * m 7 + dg m 8 7 := rfl
    rw [e]
    generalize dg m 8 7 = A at h7
    generalize m 7 = B at h8
    have h9 : 2 ^ (8 * 7) * B ≤ 2 ^ (8 * 7) * 64 := Nat.mul_le_mul_left _ h8
    omega
  · have e := dg_down m 8 7
    have h8 := a3 0
    rw [hsum] at e h8
    rw [show dg m 8 8 = dg m 8 (7 + 1) from rfl, e]
    generalize dg (fun i => m (i + 1)) 8 7 = A
    generalize f 0 + f 1 + f 2 + f 3 + f 4 + f 5 + f 6 + f 7 = B at h8
    omega

theorem ones_any (p : Nat → Bool) (j : Nat) (w : World) :
    Calls Tryd.prog 56 #[.int .u64 ((wd p j : Nat) : Int)] w fun e w' => e = .returned (.int .i64 ((cnt p j 64 : Nat) : Int)) ∧ w = w' := by
  obtain ⟨f0, hf0⟩ : ∃ f, bt p j = f := ⟨_, rfl⟩
  obtain ⟨f1, hf1⟩ : ∃ f : Nat → Nat, (fun i => f0 (2 * i + 1) + f0 (2 * i)) = f := ⟨_, rfl⟩
  obtain ⟨f2, hf2⟩ : ∃ f : Nat → Nat, (fun i => f1 (2 * i + 1) + f1 (2 * i)) = f := ⟨_, rfl⟩
  obtain ⟨f3, hf3⟩ : ∃ f : Nat → Nat, (fun i => f2 (2 * i + 1) + f2 (2 * i)) = f := ⟨_, rfl⟩
  have b0 : ∀ i, f0 i ≤ 1 := by intro i; rw [← hf0]; unfold bt; split <;> (try split) <;> omega
  have z0 : ∀ i, 64 ≤ i → f0 i = 0 := by intro i hi; rw [← hf0]; unfold bt; rw [if_neg (by omega)]
  have b1 : ∀ i, f1 i ≤ 2 := by intro i; rw [← hf1]; have := b0 (2 * i + 1); have := b0 (2 * i); show f0 (2 * i + 1) + f0 (2 * i) ≤ 2; omega
  have z1 : ∀ i, 32 ≤ i → f1 i = 0 := by intro i hi; rw [← hf1]; show f0 (2 * i + 1) + f0 (2 * i) = 0; rw [z0 _ (by omega), z0 _ (by omega)]
  have b2 : ∀ i, f2 i ≤ 4 := by intro i; rw [← hf2]; have := b1 (2 * i + 1); have := b1 (2 * i); show f1 (2 * i + 1) + f1 (2 * i) ≤ 4; omega
  have z2 : ∀ i, 16 ≤ i → f2 i = 0 := by intro i hi; rw [← hf2]; show f1 (2 * i + 1) + f1 (2 * i) = 0; rw [z1 _ (by omega), z1 _ (by omega)]
  have b3 : ∀ i, f3 i ≤ 8 := by intro i; rw [← hf3]; have := b2 (2 * i + 1); have := b2 (2 * i); show f2 (2 * i + 1) + f2 (2 * i) ≤ 8; omega
  have l0 : ∀ i, f0 i < 2 ^ 1 := fun i => by have := b0 i; omega
  have l1 : ∀ i, f1 i < 2 ^ 2 := fun i => by have := b1 i; omega
  have l2 : ∀ i, f2 i < 2 ^ 4 := fun i => by have := b2 i; omega
  have l3 : ∀ i, f3 i < 2 ^ 8 := fun i => by have := b3 i; omega
  have hx : wd p j = dg f0 1 64 := by rw [← hf0]; exact wdUp_dg p j 64 (Nat.le_refl _)
  have e1 := dg_odd f0 1 32 (by omega) l0 (z0 _ (by omega))
  have e1' := dg_even f0 1 32 (by omega) l0
  have s1 := dg_add (fun i => f0 (2 * i + 1)) (fun i => f0 (2 * i)) 2 32
  simp only [hf1] at s1
  have e2 := dg_odd f1 2 16 (by omega) l1 (z1 _ (by omega))
  have e2' := dg_even f1 2 16 (by omega) l1
  have s2 := dg_add (fun i => f1 (2 * i + 1)) (fun i => f1 (2 * i)) 4 16
  simp only [hf2] at s2
  have c0 := dg_lt f0 1 l0 64
  have c1 := dg_lt f1 2 l1 32
  have c2 := dg_lt f2 4 l2 16
  have c3 := dg_lt f3 8 l3 8
  have m1 : dg (fun _ => 2 ^ 1 - 1) (2 * 1) 32 = 6148914691236517205 := by decide
  have m2 : dg (fun _ => 2 ^ 2 - 1) (2 * 2) 16 = 3689348814741910323 := by decide
  have m3 : dg (fun _ => 2 ^ 4 - 1) (2 * 4) 8 = 1085102592571150095 := by decide
  -- stage 3: the sum first, then the mask
  have e3 : (dg f2 4 16 / 16 + dg f2 4 16) &&& 1085102592571150095 = dg f3 8 8 ∧ dg f2 4 16 / 16 + dg f2 4 16 < 18446744073709551616 := by
    have h1 : dg f2 4 16 / 16 = dg (fun i => f2 (i + 1)) 4 16 := by
      have := dg_shift f2 4 16 (l2 0)
      rw [← show dg f2 4 (16 + 1) = dg f2 4 16 by rw [dg, z2 16 (by omega)]; simp]
      exact this
    have h2 := dg_add (fun i => f2 (i + 1)) f2 4 16
    rw [h1, h2]
    have l : ∀ i, (fun i => f2 (i + 1) + f2 i) i < 2 ^ 4 := fun i => by have := b2 i; have := b2 (i + 1); show f2 (i + 1) + f2 i < 2 ^ 4; omega
    have h3 := dg_even (fun i => f2 (i + 1) + f2 i) 4 8 (by omega) l
    rw [m3, show (fun i => f2 (2 * i + 1) + f2 (2 * i)) = f3 from hf3] at h3
    exact ⟨h3, dg_lt _ 4 l 16⟩
  have hsum : cnt p j 64 = sm f3 8 := by
    unfold cnt
    rw [hf0, ← hf3, sm_pair f2 8, ← hf2, sm_pair f1 16, ← hf1, sm_pair f0 32]
  rw [m1, show 2 * 32 = 64 by rfl, ← hx] at e1 e1'
  rw [m2, show 2 * 16 = 32 by rfl] at e2 e2'
  rw [← hx] at c0
  obtain ⟨x, hxx⟩ : ∃ x, wd p j = x := ⟨_, rfl⟩
  obtain ⟨x1, hx1⟩ : ∃ x, dg f1 2 32 = x := ⟨_, rfl⟩
  obtain ⟨x2, hx2⟩ : ∃ x, dg f2 4 16 = x := ⟨_, rfl⟩
  obtain ⟨x3, hx3⟩ : ∃ x, dg f3 8 8 = x := ⟨_, rfl⟩
  have hs8 : sm f3 8 = f3 0 + f3 1 + f3 2 + f3 3 + f3 4 + f3 5 + f3 6 + f3 7 := by simp only [sm]; omega
  have z3 : ∀ i, 8 ≤ i → f3 i = 0 := by intro i hi; rw [← hf3]; show f2 (2 * i + 1) + f2 (2 * i) = 0; rw [z2 _ (by omega), z2 _ (by omega)]
  obtain ⟨y, z, u, hy, hz, hu, by_, bz, bu, hr⟩ := fold8 f3 b3 z3
  rw [hx3] at hy
  rw [hxx] at e1 e1' c0 ⊢
  rw [hx1] at s1 c1 e2 e2'
  rw [hx2] at s2 c2 e3
  rw [hx3] at e3 c3
  rw [hsum, hs8]
  rw [← hr]
  clear hr hsum hs8 b0 z0 b1 z1 b2 z2 b3 z3 l0 l1 l2 l3
  have bx : x < 18446744073709551616 := c0
  have bx1 : x1 < 18446744073709551616 := c1
  have bx2 : x2 < 18446744073709551616 := c2
  have d2 : x / 2 < 18446744073709551616 := by omega
  have d4 : x1 / 4 < 18446744073709551616 := by omega
  refine ones_core x x1 x2 x3 y z u (u % 128) w ?_ ?_ ?_ ?_ ?_ ?_ ?_
  · rw [show (x : Int) / 2 = ((x / 2 : Nat) : Int) by omega, show (6148914691236517205 : Int) = ((6148914691236517205 : Nat) : Int) by rfl, and_nat _ _ d2 (by decide), and_nat _ _ bx (by decide)]
    rw [show x / 2 = x / 2 ^ 1 by rfl, e1, e1', ← Int.natCast_add, s1]
    exact wrap_nat _ bx1
  · rw [show (x1 : Int) / 4 = ((x1 / 4 : Nat) : Int) by omega, show (3689348814741910323 : Int) = ((3689348814741910323 : Nat) : Int) by rfl, and_nat _ _ d4 (by decide), and_nat _ _ bx1 (by decide)]
    rw [show x1 / 4 = x1 / 2 ^ 2 by rfl, e2, e2', ← Int.natCast_add, s2]
    exact wrap_nat _ bx2
  · rw [show (x2 : Int) / 16 + (x2 : Int) = ((x2 / 16 + x2 : Nat) : Int) by omega, wrap_nat _ e3.2, show (1085102592571150095 : Int) = ((1085102592571150095 : Nat) : Int) by rfl, and_nat _ _ e3.2 (by decide), e3.1]
  · rw [show (x3 : Int) + (x3 : Int) / 256 = ((y : Nat) : Int) by omega]; exact wrap_nat _ by_
  · rw [show (y : Int) + (y : Int) / 65536 = ((z : Nat) : Int) by omega]; exact wrap_nat _ bz
  · rw [show (z : Int) + (z : Int) / 4294967296 = ((u : Nat) : Int) by omega]; exact wrap_nat _ (by omega)
  · rw [show wrap64 (u : Int) = (u : Int) from IntWalk.wrap64_in _ ⟨by omega, by omega⟩, i64_and127]
    omega
end Go.Proofs.YtjhfgiflcenjpaaDoor
