import Derived.Test.YtddkloagaiibaaaOwn
namespace Go.Proofs.Ytddkloagaiibaaa
open Go.RowKit

/-- Eight truths as a byte: the first n of those that begin at place 8 j. -/
def byUp (f : Nat → Bool) (j : Nat) : Nat → Nat
  | 0 => 0
  | n + 1 => byUp f j n + if f (8 * j + n) then 2 ^ n else 0
def by8 (f : Nat → Bool) (j : Nat) : Nat := byUp f j 8
theorem byUp_lt (f : Nat → Bool) (j n : Nat) : byUp f j n < 2 ^ n := by
  induction n with
  | zero => simp [byUp]
  | succ n ih => unfold byUp; rw [Nat.pow_succ]; split <;> omega
theorem by8_lt (f : Nat → Bool) (j : Nat) : by8 f j < 256 := byUp_lt f j 8
theorem byUp_bit (f : Nat → Bool) (j n k : Nat) : (byUp f j n).testBit k = (decide (k < n) && f (8 * j + k)) := by
  induction n with
  | zero => simp [byUp]
  | succ n ih =>
    unfold byUp
    have hl := byUp_lt f j n
    rcases Nat.lt_trichotomy k n with h | h | h
    · have h1 : k < n + 1 := by omega
      split
      · rw [Nat.add_comm, Nat.testBit_two_pow_add_gt h, ih]; simp [h, h1]
      · rw [Nat.add_zero, ih]; simp [h, h1]
    · subst h
      split
      · rename_i hp
        rw [Nat.add_comm, Nat.testBit_two_pow_add_eq, ih]; simp [hp]
      · rename_i hp
        rw [Nat.add_zero, ih]; simp [hp]
    · have h1 : ¬ k < n + 1 := by omega
      have hb : byUp f j (n + 1) < 2 ^ k := Nat.lt_of_lt_of_le (byUp_lt f j (n + 1)) (Nat.pow_le_pow_right (by decide) (by omega))
      unfold byUp at hb
      rw [Nat.testBit_lt_two_pow hb]; simp [h1]
theorem by8_bit (f : Nat → Bool) (j k : Nat) : (by8 f j).testBit k = (decide (k < 8) && f (8 * j + k)) := byUp_bit f j 8 k
theorem by8_congr {f g : Nat → Bool} {j : Nat} (h : ∀ k, k < 8 → f (8 * j + k) = g (8 * j + k)) : by8 f j = by8 g j := by
  refine Nat.eq_of_testBit_eq fun k => ?_
  rw [by8_bit, by8_bit]
  by_cases hk : k < 8
  · rw [h k hk]
  · simp [hk]
theorem by8_eq {f g : Nat → Bool} {j : Nat} (h : by8 f j = by8 g j) (k : Nat) (hk : k < 8) : f (8 * j + k) = g (8 * j + k) := by
  have h1 := congrArg (fun x => Nat.testBit x k) h
  simpa [by8_bit, hk] using h1
theorem by8_none (j : Nat) : by8 (fun _ => false) j = 0 := by
  refine Nat.eq_of_testBit_eq fun k => ?_
  rw [by8_bit]; simp
theorem by8_one (f : Nat → Bool) (i j : Nat) (h : i / 8 = j) : by8 f j ||| 2 ^ (i % 8) = by8 (ins f i) j := by
  refine Nat.eq_of_testBit_eq fun k => ?_
  rw [Nat.testBit_or, by8_bit, by8_bit, Nat.testBit_two_pow]
  have hr : i % 8 < 8 := Nat.mod_lt _ (by decide)
  by_cases e : i % 8 = k
  · have e2 : 8 * j + k = i := by omega
    simp [e, ins, e2, (by omega : k < 8)]
  · by_cases hk : k < 8
    · have e2 : (8 * j + k == i) = false := by simp; omega
      simp [e, ins, e2]
    · simp [e, hk]
theorem by8_far (f : Nat → Bool) (i j : Nat) (h : i / 8 ≠ j) : by8 (ins f i) j = by8 f j := by
  refine by8_congr fun k hk => ?_
  have h2 : (8 * j + k == i) = false := by simp; omega
  simp [ins, h2]

/-- The bytes that tell n truths. -/
def keyL (f : Nat → Bool) (n : Nat) : List Nat := (List.range ((n + 7) / 8)).map (by8 (upTo f n))
theorem keyL_eq (f g : Nat → Bool) (n : Nat) : keyL f n = keyL g n ↔ ∀ i, i < n → f i = g i := by
  constructor
  · intro h i hi
    have h1 : ∀ j, j < (n + 7) / 8 → by8 (upTo f n) j = by8 (upTo g n) j := by
      intro j hj
      have h2 := congrArg (fun l => l[j]?) h
      simpa [keyL, hj] using h2
    have h3 := by8_eq (h1 (i / 8) (by omega)) (i % 8) (Nat.mod_lt _ (by decide))
    rw [show 8 * (i / 8) + i % 8 = i by omega] at h3
    simpa [upTo, hi] using h3
  · intro h
    unfold keyL
    refine List.map_congr_left fun j _ => by8_congr fun k _ => ?_
    by_cases hi : 8 * j + k < n
    · simp [upTo, hi, h _ hi]
    · simp [upTo, hi]
end Go.Proofs.Ytddkloagaiibaaa
