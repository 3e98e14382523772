import Derived.Test.YtfnfliooimkddaaDoorOnesMath
import Derived.IntWalk
import Derived.Laws.Bits128
namespace Go.Proofs.YtfnfliooimkddaaDoor
open Go.RowKit

theorem wrap_nat (x : Nat) (h : x < 18446744073709551616) : IntKind.u64.wrap (x : Int) = (x : Int) := by
  simp only [IntKind.wrap, IntKind.bits, IntKind.signed]
  simp
  omega
theorem and_nat (x : Nat) (m : Nat) (hx : x < 18446744073709551616) (hm : m < 18446744073709551616) : bits .and .u64 (x : Int) (m : Int) = ((x &&& m : Nat) : Int) := u64_and_nat x m hx hm

/-- One step to the right, of n digits of 8 bits of which the last is followed by none. -/
theorem dg_next (f : Nat → Nat) (h : ∀ i, f i < 256) (z : f 8 = 0) : dg f 8 8 / 256 = dg (fun i => f (i + 1)) 8 8 := by
  have h1 := dg_shift f 8 8 (h 0)
  rw [show dg f 8 (8 + 1) = dg f 8 8 by rw [dg, z]; simp] at h1
  exact h1
theorem fold8 (f : Nat → Nat) (h : ∀ i, f i ≤ 8) (z : ∀ i, 8 ≤ i → f i = 0) :
    ∃ y t u, y = dg f 8 8 + dg f 8 8 / 256 ∧ t = y + y / 65536 ∧ u = t + t / 4294967296 ∧ y < 18446744073709551616 ∧ t < 18446744073709551616 ∧ u < 9223372036854775808 ∧ u % 128 = f 0 + f 1 + f 2 + f 3 + f 4 + f 5 + f 6 + f 7 := by
  have a1 : ∀ i, (fun i => f i + f (i + 1)) i ≤ 16 := fun i => Nat.add_le_add (h i) (h (i + 1))
  have z1 : ∀ i, 8 ≤ i → (fun i => f i + f (i + 1)) i = 0 := fun i hi => by show f i + f (i + 1) = 0; rw [z i hi, z (i + 1) (Nat.le_succ_of_le hi)]
  have e1 : dg f 8 8 + dg f 8 8 / 256 = dg (fun i => f i + f (i + 1)) 8 8 := by
    rw [dg_next f (fun i => Nat.lt_of_le_of_lt (h i) (by decide)) (z 8 (Nat.le_refl _)), dg_add]
  have g1 : ∃ g : Nat → Nat, g = fun i => f i + f (i + 1) := ⟨_, rfl⟩
  obtain ⟨g, hg⟩ := g1
  rw [← hg] at a1 z1 e1
  have s1 : ∀ i, g i < 256 := fun i => Nat.lt_of_le_of_lt (a1 i) (by decide)
  have e2 : dg g 8 8 / 65536 = dg (fun i => g (i + 2)) 8 8 := by
    rw [show 65536 = 256 * 256 by rfl, ← Nat.div_div_eq_div_mul, dg_next g s1 (z1 8 (by decide)), dg_next (fun i => g (i + 1)) (fun i => s1 (i + 1)) (z1 9 (by decide))]
  have e3 : dg g 8 8 + dg g 8 8 / 65536 = dg (fun i => g i + g (i + 2)) 8 8 := by rw [e2, dg_add]
  have a2 : ∀ i, (fun i => g i + g (i + 2)) i ≤ 32 := fun i => Nat.add_le_add (a1 i) (a1 (i + 2))
  have z2 : ∀ i, 8 ≤ i → (fun i => g i + g (i + 2)) i = 0 := fun i hi => by show g i + g (i + 2) = 0; rw [z1 i hi, z1 (i + 2) (Nat.le_add_right_of_le hi)]
  have g2 : ∃ k : Nat → Nat, k = fun i => g i + g (i + 2) := ⟨_, rfl⟩
  obtain ⟨k, hk⟩ := g2
  rw [← hk] at a2 z2 e3
  have s2 : ∀ i, k i < 256 := fun i => Nat.lt_of_le_of_lt (a2 i) (by decide)
  have e4 : dg k 8 8 / 4294967296 = dg (fun i => k (i + 4)) 8 8 := by
    rw [show 4294967296 = 256 * 256 * 256 * 256 by rfl, ← Nat.div_div_eq_div_mul, ← Nat.div_div_eq_div_mul, ← Nat.div_div_eq_div_mul, dg_next k s2 (z2 8 (by decide)), dg_next (fun i => k (i + 1)) (fun i => s2 (i + 1)) (z2 9 (by decide)), dg_next (fun i => k (i + 1 + 1)) (fun i => s2 (i + 1 + 1)) (z2 10 (by decide)), dg_next (fun i => k (i + 1 + 1 + 1)) (fun i => s2 (i + 1 + 1 + 1)) (z2 11 (by decide))]
  have e5 : dg k 8 8 + dg k 8 8 / 4294967296 = dg (fun i => k i + k (i + 4)) 8 8 := by rw [e4, dg_add]
  have a3 : ∀ i, (fun i => k i + k (i + 4)) i ≤ 64 := fun i => Nat.add_le_add (a2 i) (a2 (i + 4))
  have g3 : ∃ m : Nat → Nat, m = fun i => k i + k (i + 4) := ⟨_, rfl⟩
  obtain ⟨m, hm⟩ := g3
  rw [← hm] at a3 e5
  have s3 : ∀ i, m i < 2 ^ 8 := fun i => Nat.lt_of_le_of_lt (a3 i) (by decide)
  have hsum : m 0 = f 0 + f 1 + f 2 + f 3 + f 4 + f 5 + f 6 + f 7 := by
    subst hm
    show k 0 + k 4 = _
    subst hk
    show g 0 + g 2 + (g 4 + g 6) = _
    subst hg
    show f 0 + f 1 + (f 2 + f 3) + (f 4 + f 5 + (f 6 + f 7)) = _
    omega
  refine ⟨dg g 8 8, dg k 8 8, dg m 8 8, e1.symm, e3.symm, e5.symm, dg_lt g 8 s1 8, dg_lt k 8 s2 8, ?_, ?_⟩
  · have h7 := dg_lt m 8 s3 7
    have h8 := a3 7
    have e : dg m 8 8 = 2 ^ (8 * 7) * m 7 + dg m 8 7 := rfl
    rw [e]
    generalize dg m 8 7 = A at h7
    generalize m 7 = B at h8
    have h9 : 2 ^ (8 * 7) * B ≤ 2 ^ (8 * 7) * 64 := Nat.mul_le_mul_left _ h8
    omega
  · have e := dg_down m 8 7
    have h8 := a3 0
    rw [hsum] at e h8
    rw [show dg m 8 8 = dg m 8 (7 + 1) from rfl, e]
    generalize dg (fun i => m (i + 1)) 8 7 = A
    generalize f 0 + f 1 + f 2 + f 3 + f 4 + f 5 + f 6 + f 7 = B at h8
    omega

theorem ones_any (p : Nat → Bool) (j : Nat) (w : World) :
    Calls Tryd.prog 20 #[.int .u64 ((wd p j : Nat) : Int)] w fun e w' => e = .returned (.int .i64 ((cnt p j 64 : Nat) : Int)) ∧ w = w' := by
  obtain ⟨f0, hf0⟩ : ∃ f, bt p j = f := ⟨_, rfl⟩
  obtain ⟨f1, hf1⟩ : ∃ f : Nat → Nat, (fun i => f0 (2 * i + 1) + f0 (2 * i)) = f := ⟨_, rfl⟩
  obtain ⟨f2, hf2⟩ : ∃ f : Nat → Nat, (fun i => f1 (2 * i + 1) + f1 (2 * i)) = f := ⟨_, rfl⟩
  obtain ⟨f3, hf3⟩ : ∃ f : Nat → Nat, (fun i => f2 (2 * i + 1) + f2 (2 * i)) = f := ⟨_, rfl⟩
  have b0 : ∀ i, f0 i ≤ 1 := by intro i; rw [← hf0]; unfold bt; split <;> (try split) <;> omega
  have z0 : ∀ i, 64 ≤ i → f0 i = 0 := by intro i hi; rw [← hf0]; unfold bt; rw [if_neg (by omega)]
  have b1 : ∀ i, f1 i ≤ 2 := by intro i; rw [← hf1]; have := b0 (2 * i + 1); have := b0 (2 * i); show f0 (2 * i + 1) + f0 (2 * i) ≤ 2; omega
  have z1 : ∀ i, 32 ≤ i → f1 i = 0 := by intro i hi; rw [← hf1]; show f0 (2 * i + 1) + f0 (2 * i) = 0; rw [z0 _ (by omega), z0 _ (by omega)]
  have b2 : ∀ i, f2 i ≤ 4 := by intro i; rw [← hf2]; have := b1 (2 * i + 1); have := b1 (2 * i); show f1 (2 * i + 1) + f1 (2 * i) ≤ 4; omega
  have z2 : ∀ i, 16 ≤ i → f2 i = 0 := by intro i hi; rw [← hf2]; show f1 (2 * i + 1) + f1 (2 * i) = 0; rw [z1 _ (by omega), z1 _ (by omega)]
  have b3 : ∀ i, f3 i ≤ 8 := by intro i; rw [← hf3]; have := b2 (2 * i + 1); have := b2 (2 * i); show f2 (2 * i + 1) + f2 (2 * i) ≤ 8; omega
  have l0 : ∀ i, f0 i < 2 ^ 1 := fun i => by have := b0 i; omega
  have l1 : ∀ i, f1 i < 2 ^ 2 := fun i => by have := b1 i; omega
  have l2 : ∀ i, f2 i < 2 ^ 4 := fun i => by have := b2 i; omega
  have l3 : ∀ i, f3 i < 2 ^ 8 := fun i => by have := b3 i; omega
  have hx : wd p j = dg f0 1 64 := by rw [← hf0]; exact wdUp_dg p j 64 (Nat.le_refl _)
  have e1 := dg_odd f0 1 32 (by omega) l0 (z0 _ (by omega))
  have e1' := dg_even f0 1 32 (by omega) l0
  have s1 := dg_add (fun i => f0 (2 * i + 1)) (fun i => f0 (2 * i)) 2 32
  simp only [hf1] at s1
  have e2 := dg_odd f1 2 16 (by omega) l1 (z1 _ (by omega))
  have e2' := dg_even f1 2 16 (by omega) l1
  have s2 := dg_add (fun i => f1 (2 * i + 1)) (fun i => f1 (2 * i)) 4 16
  simp only [hf2] at s2
  have c0 := dg_lt f0 1 l0 64
  have c1 := dg_lt f1 2 l1 32
  have c2 := dg_lt f2 4 l2 16
  have c3 := dg_lt f3 8 l3 8
  have m1 : dg (fun _ => 2 ^ 1 - 1) (2 * 1) 32 = 6148914691236517205 := by decide
  have m2 : dg (fun _ => 2 ^ 2 - 1) (2 * 2) 16 = 3689348814741910323 := by decide
  have m3 : dg (fun _ => 2 ^ 4 - 1) (2 * 4) 8 = 1085102592571150095 := by decide
  -- stage 3: the sum first, then the mask
  have e3 : (dg f2 4 16 / 16 + dg f2 4 16) &&& 1085102592571150095 = dg f3 8 8 ∧ dg f2 4 16 / 16 + dg f2 4 16 < 18446744073709551616 := by
    have h1 : dg f2 4 16 / 16 = dg (fun i => f2 (i + 1)) 4 16 := by
      have := dg_shift f2 4 16 (l2 0)
      rw [← show dg f2 4 (16 + 1) = dg f2 4 16 by rw [dg, z2 16 (by omega)]; simp]
      exact this
    have h2 := dg_add (fun i => f2 (i + 1)) f2 4 16
    rw [h1, h2]
    have l : ∀ i, (fun i => f2 (i + 1) + f2 i) i < 2 ^ 4 := fun i => by have := b2 i; have := b2 (i + 1); show f2 (i + 1) + f2 i < 2 ^ 4; omega
    have h3 := dg_even (fun i => f2 (i + 1) + f2 i) 4 8 (by omega) l
    rw [m3, show (fun i => f2 (2 * i + 1) + f2 (2 * i)) = f3 from hf3] at h3
    exact ⟨h3, dg_lt _ 4 l 16⟩
  have hsum : cnt p j 64 = sm f3 8 := by
    unfold cnt
    rw [hf0, ← hf3, sm_pair f2 8, ← hf2, sm_pair f1 16, ← hf1, sm_pair f0 32]
  rw [m1, show 2 * 32 = 64 by rfl, ← hx] at e1 e1'
  rw [m2, show 2 * 16 = 32 by rfl] at e2 e2'
  rw [← hx] at c0
  obtain ⟨x, hxx⟩ : ∃ x, wd p j = x := ⟨_, rfl⟩
  obtain ⟨x1, hx1⟩ : ∃ x, dg f1 2 32 = x := ⟨_, rfl⟩
  obtain ⟨x2, hx2⟩ : ∃ x, dg f2 4 16 = x := ⟨_, rfl⟩
  obtain ⟨x3, hx3⟩ : ∃ x, dg f3 8 8 = x := ⟨_, rfl⟩
  have hs8 : sm f3 8 = f3 0 + f3 1 + f3 2 + f3 3 + f3 4 + f3 5 + f3 6 + f3 7 := by simp only [sm]; omega
  have z3 : ∀ i, 8 ≤ i → f3 i = 0 := by intro i hi; rw [← hf3]; show f2 (2 * i + 1) + f2 (2 * i) = 0; rw [z2 _ (by omega), z2 _ (by omega)]
  obtain ⟨y, z, u, hy, hz, hu, by_, bz, bu, hr⟩ := fold8 f3 b3 z3
  rw [hx3] at hy
  rw [hxx] at e1 e1' c0 ⊢
  rw [hx1] at s1 c1 e2 e2'
  rw [hx2] at s2 c2 e3
  rw [hx3] at e3 c3
  rw [hsum, hs8]
  rw [← hr]
  clear hr hsum hs8 b0 z0 b1 z1 b2 z2 b3 z3 l0 l1 l2 l3
  have bx : x < 18446744073709551616 := c0
  have bx1 : x1 < 18446744073709551616 := c1
  have bx2 : x2 < 18446744073709551616 := c2
  have d2 : x / 2 < 18446744073709551616 := by omega
  have d4 : x1 / 4 < 18446744073709551616 := by omega
  refine ones_core x x1 x2 x3 y z u (u % 128) w ?_ ?_ ?_ ?_ ?_ ?_ ?_
  · rw [show (x : Int) / 2 = ((x / 2 : Nat) : Int) by omega, show (6148914691236517205 : Int) = ((6148914691236517205 : Nat) : Int) by rfl, and_nat _ _ d2 (by decide), and_nat _ _ bx (by decide)]
    rw [show x / 2 = x / 2 ^ 1 by rfl, e1, e1', ← Int.natCast_add, s1]
    exact wrap_nat _ bx1
  · rw [show (x1 : Int) / 4 = ((x1 / 4 : Nat) : Int) by omega, show (3689348814741910323 : Int) = ((3689348814741910323 : Nat) : Int) by rfl, and_nat _ _ d4 (by decide), and_nat _ _ bx1 (by decide)]
    rw [show x1 / 4 = x1 / 2 ^ 2 by rfl, e2, e2', ← Int.natCast_add, s2]
    exact wrap_nat _ bx2
  · rw [show (x2 : Int) / 16 + (x2 : Int) = ((x2 / 16 + x2 : Nat) : Int) by omega, wrap_nat _ e3.2, show (1085102592571150095 : Int) = ((1085102592571150095 : Nat) : Int) by rfl, and_nat _ _ e3.2 (by decide), e3.1]
  · rw [show (x3 : Int) + (x3 : Int) / 256 = ((y : Nat) : Int) by omega]; exact wrap_nat _ by_
  · rw [show (y : Int) + (y : Int) / 65536 = ((z : Nat) : Int) by omega]; exact wrap_nat _ bz
  · rw [show (z : Int) + (z : Int) / 4294967296 = ((u : Nat) : Int) by omega]; exact wrap_nat _ (by omega)
  · rw [show wrap64 (u : Int) = (u : Int) from IntWalk.wrap64_in _ ⟨by omega, by omega⟩, i64_and127]
    omega
end Go.Proofs.YtfnfliooimkddaaDoor
