import Derived.Test.YthidhkaeebakjaaOnesMath
import Derived.IntWalk
import Derived.Laws.Bits128
namespace Go.Proofs.Ythidhkaeebakjaa
open Go.RowKit

theorem wrap_nat (x : Nat) (h : x < 18446744073709551616) : IntKind.u64.wrap (x : Int) = (x : Int) := by
  simp only [IntKind.wrap, IntKind.bits, IntKind.signed]
  simp
  omega
theorem and_nat (x : Nat) (m : Nat) (hx : x < 18446744073709551616) (hm : m < 18446744073709551616) : bits .and .u64 (x : Int) (m : Int) = ((x &&& m : Nat) : Int) := u64_and_nat x m hx hm

/-- One step to the right, of n digits of 8 bits of which the last is followed by none. -/
theorem dg_next (f : Nat → Nat) (h : ∀ i, f i < 256) (z : f 8 = 0) : dg f 8 8 / 256 = dg (fun i => f (i + 1)) 8 8 := by
  have h1 := dg_shift f 8 8 (h 0)
  rw [show dg f 8 (8 + 1) = dg f 8 8 by rw [dg, z]; simp] at h1
  exact h1
theorem fold8 (f : Nat → Nat) (h : ∀ i, f i ≤ 8) (z : ∀ i, 8 ≤ i → f i = 0) :
    ∃ y t u, y = dg f 8 8 + dg f 8 8 / 256 ∧ t = y + y / 65536 ∧ u = t + t / 4294967296 ∧ y < 18446744073709551616 ∧ t < 18446744073709551616 ∧ u < 9223372036854775808 ∧ u % 128 = f 0 + f 1 + f 2 + f 3 + f 4 + f 5 + f 6 + f 7 := by
  have a1 : ∀ i, (fun i => f i + f (i + 1)) i ≤ 16 := fun i => Nat.add_le_add (h i) (h (i + 1))
  have z1 : ∀ i, 8 ≤ i → (fun i => f i + f (i + 1)) i = 0 := fun i hi => by show f i + f (i + 1) = 0; rw [z i hi, z (i + 1) (Nat.le_succ_of_le hi)]
  have e1 : dg f 8 8 + dg f 8 8 / 256 = dg (fun i => f i + f (i + 1)) 8 8 := by
    rw [dg_next f (fun i => Nat.lt_of_le_of_lt (h i) (by decide)) (z 8 (Nat.le_refl _)), dg_add]
  have g1 : ∃ g : Nat → Nat, g = fun i => f i + f (i + 1) := ⟨_, rfl⟩
  obtain ⟨g, hg⟩ := g1
  rw [← hg] at a1 z1 e1
  have s1 : ∀ i, g i < 256 := fun i => Nat.lt_of_le_of_lt (a1 i) (by decide)
  have e2 : dg g 8 8 / 65536 = dg (fun i => g (i + 2)) 8 8 := by
    rw [show 65536 = 256 * 256 by rfl, ← Nat.div_div_eq_div_mul, dg_next g s1 (z1 8 (by decide)), dg_next (fun i => g (i + 1)) (fun i => s1 (i + 1)) (z1 9 (by decide))]
  have e3 : dg g 8 8 + dg g 8 8 / 65536 = dg (fun i => g i + g (i + 2)) 8 8 := by rw [e2, dg_add]
  have a2 : ∀ i, (fun i => g i + g (i + 2)) i ≤ 32 := fun i => Nat.add_le_add (a1 i) (a1 (i + 2))
  have z2 : ∀ i, 8 ≤ i → (fun i => g i + g (i + 2)) i = 0 := fun i hi => by show g i + g (i + 2) = 0; rw [z1 i hi, z1 (i + 2) (Nat.le_add_right_of_le hi)]
  have g2 : ∃ k : Nat → Nat, k = fun i => g i + g (i + 2) := ⟨_, rfl⟩
  obtain ⟨k, hk⟩ := g2
  rw [← hk] at a2 z2 e3
  have s2 : ∀ i, k i < 256 := fun i => Nat.lt_of_le_of_lt (a2 i) (by decide)
  have e4 : dg k 8 8 / 4294967296 = dg (fun i => k (i + 4)) 8 8 := by
    rw [show 4294967296 = 256 * 256 * 256 * 256 by rfl, ← Nat.div_div_eq_div_mul, ← Nat.div_div_eq_div_mul, ← Nat.div_div_eq_div_mul, dg_next k s2 (z2 8 (by decide)), dg_next (fun i => k (i + 1)) (fun i => s2 (i + 1)) (z2 9 (by decide)), dg_next (fun i => k (i + 1 + 1)) (fun i => s2 (i + 1 + 1)) (z2 10 (by decide)), dg_next (fun i => k (i + 1 + 1 + 1)) (fun i => s2 (i + 1 + 1 + 1)) (z2 11 (by decide))]
  have e5 : dg k 8 8 + dg k 8 8 / 4294967296 = dg (fun i => k i + k (i + 4)) 8 8 := by rw [e4, dg_add]
  have a3 : ∀ i, (fun i => k i + k (i + 4)) i ≤ 64 := fun i => Nat.add_le_add (a2 i) (a2 (i + 4))
  have g3 : ∃ m : Nat → Nat, m = fun i => k i + k (i + 4) := ⟨_, rfl⟩
  obtain ⟨m, hm⟩ := g3
  rw [← hm] at a3 e5
  have s3 : ∀ i, m i < 2 ^ 8 := fun i => Nat.lt_of_le_of_lt (a3 i) (by decide)
  have hsum : m 0 = f 0 + f 1 + f 2 + f 3 + f 4 + f 5 + f 6 + f 7 := by
    subst hm
    show k 0 + k 4 = _
    subst hk
    show g 0 + g 2 + (g 4 + g 6) = _
    subst hg
    show f 0 + f 1 + (f 2 + f 3) + (f 4 + f 5 + (f 6 + f 7)) = _
    omega
  refine ⟨dg g 8 8, dg k 8 8, dg m 8 8, e1.symm, e3.symm, e5.symm, dg_lt g 8 s1 8, dg_lt k 8 s2 8, ?_, ?_⟩
  · have h7 := dg_lt m 8 s3 7
    have h8 := a3 7
    have e : dg m 8 8 = 2 ^ (8 * 7) * m 7 + dg m 8 7 := rfl
    rw [e]
    generalize dg m 8 7 = A at h7
    generalize m 7 = B at h8
    have h9 : 2 ^ (8 * 7) * B ≤ 2 ^ (8 * 7) * 64 := Nat.mul_le_mul_left _ h8
    omega
  · have e := dg_down m 8 7
    have h8 := a3 0
    rw [hsum] at e h8
    rw [show dg m 8 8 = dg m 8 (7 + 1) from rfl, e]
    generalize dg (fun i => m (i + 1)) 8 7 = A
    generalize f 0 + f 1 + f 2 + f 3 + f 4 + f 5 + f 6 + f 7 = B at h8
    omega

end Go.Proofs.Ythidhkaeebakjaa
