import Derived.Test.YtlnndkilaklifaaChecked
import Derived.Laws.Bits64b
import Derived.Laws.BitsAllLaws
import Derived.WalkKit
import Derived.WalkLawsBesides
import Derived.WalkSpells
import Derived.Outline
import Derived.Below
import Derived.Lib.Hide
import Derived.RegionTactic
import Derived.Laws.Rows
namespace Go.Proofs.Ytlnndkilaklifaa

/-- The first n bits of word j of a set of numbers. -/
def wdUp (p : Nat → Bool) (j : Nat) : Nat → Nat
  | 0 => 0
  | n + 1 => wdUp p j n + if p (64 * j + n) then 2 ^ n else 0
/-- Word j of a set of numbers. -/
def wd (p : Nat → Bool) (j : Nat) : Nat := wdUp p j 64

theorem wdUp_lt (p : Nat → Bool) (j n : Nat) : wdUp p j n < 2 ^ n := by
  induction n with
  | zero => simp [wdUp]
  | succ n ih => unfold wdUp; rw [Nat.pow_succ]; split <;> omega
theorem wdUp_bit (p : Nat → Bool) (j n k : Nat) : (wdUp p j n).testBit k = (decide (k < n) && p (64 * j + k)) := by
  induction n with
  | zero => simp [wdUp]
  | succ n ih =>
    unfold wdUp
    have hl := wdUp_lt p j n
    rcases Nat.lt_trichotomy k n with h | h | h
    · have h1 : k < n + 1 := by omega
      split
      · rw [Nat.add_comm, Nat.testBit_two_pow_add_gt h, ih]; simp [h, h1]
      · rw [Nat.add_zero, ih]; simp [h, h1]
    · subst h
      split
      · rename_i hp
        rw [Nat.add_comm, Nat.testBit_two_pow_add_eq, ih]; simp [hp]
      · rename_i hp
        rw [Nat.add_zero, ih]; simp [hp]
    · have h1 : ¬ k < n + 1 := by omega
      have h2 : ¬ k < n := by omega
      have hb : wdUp p j (n + 1) < 2 ^ k := Nat.lt_of_lt_of_le (wdUp_lt p j (n + 1)) (Nat.pow_le_pow_right (by decide) (by omega))
      unfold wdUp at hb
      rw [Nat.testBit_lt_two_pow hb]; simp [h1]
theorem wd_lt (p : Nat → Bool) (j : Nat) : wd p j < 18446744073709551616 := wdUp_lt p j 64
theorem wd_bit (p : Nat → Bool) (j k : Nat) : (wd p j).testBit k = (decide (k < 64) && p (64 * j + k)) := wdUp_bit p j 64 k
theorem wd_congr {p q : Nat → Bool} {j : Nat} (h : ∀ k, k < 64 → p (64 * j + k) = q (64 * j + k)) : wd p j = wd q j := by
  refine Nat.eq_of_testBit_eq fun k => ?_
  rw [wd_bit, wd_bit]
  by_cases hk : k < 64
  · rw [h k hk]
  · simp [hk]
theorem wd_eq {p q : Nat → Bool} {j : Nat} (h : wd p j = wd q j) (k : Nat) (hk : k < 64) : p (64 * j + k) = q (64 * j + k) := by
  have h1 := congrArg (fun x => Nat.testBit x k) h
  simpa [wd_bit, hk] using h1
/-- Two sets of bytes are equal if their words are. -/
theorem wd_iff (p q : Nat → Bool) : (wd p 0 = wd q 0 ∧ wd p 1 = wd q 1 ∧ wd p 2 = wd q 2 ∧ wd p 3 = wd q 3) ↔ ∀ b, b < 256 → p b = q b := by
  constructor
  · rintro ⟨h0, h1, h2, h3⟩ b hb
    have hr : b % 64 < 64 := Nat.mod_lt _ (by decide)
    have hd : b = 64 * (b / 64) + b % 64 := (Nat.div_add_mod b 64).symm
    have hq : b / 64 = 0 ∨ b / 64 = 1 ∨ b / 64 = 2 ∨ b / 64 = 3 := by omega
    rw [hd]
    rcases hq with h | h | h | h <;> rw [h]
    · exact wd_eq h0 _ hr
    · exact wd_eq h1 _ hr
    · exact wd_eq h2 _ hr
    · exact wd_eq h3 _ hr
  · intro h
    exact ⟨wd_congr fun k hk => h _ (by omega), wd_congr fun k hk => h _ (by omega), wd_congr fun k hk => h _ (by omega), wd_congr fun k hk => h _ (by omega)⟩
theorem wd_or (p q : Nat → Bool) (j : Nat) : wd p j ||| wd q j = wd (fun x => p x || q x) j := by
  refine Nat.eq_of_testBit_eq fun k => ?_
  rw [Nat.testBit_or, wd_bit, wd_bit, wd_bit]
  cases decide (k < 64) <;> simp
theorem wd_and (p q : Nat → Bool) (j : Nat) : wd p j &&& wd q j = wd (fun x => p x && q x) j := by
  refine Nat.eq_of_testBit_eq fun k => ?_
  rw [Nat.testBit_and, wd_bit, wd_bit, wd_bit]
  cases decide (k < 64) <;> simp
theorem wd_not (p : Nat → Bool) (j : Nat) : 18446744073709551615 - wd p j = wd (fun x => !p x) j := by
  refine Nat.eq_of_testBit_eq fun k => ?_
  have h := Nat.testBit_two_pow_sub_succ (n := 64) (wd_lt p j) k
  rw [show 2 ^ 64 - (wd p j + 1) = 18446744073709551615 - wd p j by omega] at h
  rw [h, wd_bit, wd_bit]
  cases decide (k < 64) <;> simp
theorem wd_one (j r : Nat) (hr : r < 64) (b : Nat) (hb : b = 64 * j + r) : 2 ^ r = wd (fun x => x == b) j := by
  refine Nat.eq_of_testBit_eq fun k => ?_
  rw [Nat.testBit_two_pow, wd_bit]
  by_cases h : r = k
  · subst h; subst hb; simp [hr]
  · have h2 : (64 * j + k == b) = false := by simp; omega
    simp [h, h2]
theorem wd_none (j : Nat) : wd (fun _ => false) j = 0 := by
  refine Nat.eq_of_testBit_eq fun k => ?_
  rw [wd_bit]; simp
theorem wd_full (j : Nat) : wd (fun _ => true) j = 18446744073709551615 := by
  refine Nat.eq_of_testBit_eq fun k => ?_
  rw [wd_bit, show 18446744073709551615 = 2 ^ 64 - 1 by decide, Nat.testBit_two_pow_sub_one]; simp
/-- One more number. -/
def ins (p : Nat → Bool) (b : Nat) : Nat → Bool := fun x => p x || x == b
theorem wd_ins (p : Nat → Bool) (b j : Nat) (h : b / 64 = j) : wd p j ||| 2 ^ (b % 64) = wd (ins p b) j := by
  rw [wd_one j (b % 64) (Nat.mod_lt _ (by decide)) b (by omega), wd_or]; rfl
theorem wd_far (p : Nat → Bool) (b j : Nat) (h : b / 64 ≠ j) : wd (ins p b) j = wd p j := by
  refine wd_congr fun k hk => ?_
  have h2 : (64 * j + k == b) = false := by simp; omega
  simp [ins, h2]
theorem wdUp_ins (p : Nat → Bool) (b j n : Nat) (hp : p b = false) (h : b / 64 = j) : wdUp (ins p b) j n = wdUp p j n + if b % 64 < n then 2 ^ (b % 64) else 0 := by
  induction n with
  | zero => simp [wdUp]
  | succ n ih =>
    unfold wdUp
    rw [ih]
    have e : ins p b (64 * j + n) = (p (64 * j + n) || (64 * j + n == b)) := rfl
    by_cases hn : b % 64 = n
    · have hb : 64 * j + n = b := by omega
      have : ¬ b % 64 < n := by omega
      rw [e, hb, hp, if_neg this, if_pos (by omega : b % 64 < n + 1), ← hn]
      simp
    · have hb : (64 * j + n == b) = false := by simp; omega
      rw [e, hb, Bool.or_false]
      by_cases hl : b % 64 < n
      · rw [if_pos hl, if_pos (by omega : b % 64 < n + 1)]; omega
      · rw [if_neg hl, if_neg (by omega : ¬ b % 64 < n + 1)]; omega
theorem wd_add (p : Nat → Bool) (b j : Nat) (hp : p b = false) (h : b / 64 = j) : wd p j + 2 ^ (b % 64) = wd (ins p b) j := by
  unfold wd
  rw [wdUp_ins p b j 64 hp h, if_pos (Nat.mod_lt _ (by decide))]
/-- Bit b of a set, by shifting. -/
theorem wd_has (p : Nat → Bool) (b j : Nat) (h : b / 64 = j) : (wd p j / 2 ^ (b % 64)) % 2 = if p b then 1 else 0 := by
  have h1 := wd_bit p j (b % 64)
  rw [Nat.testBit_eq_decide_div_mod_eq, show 64 * j + b % 64 = b by omega] at h1
  have hr : b % 64 < 64 := Nat.mod_lt _ (by decide)
  by_cases hp : p b
  · simpa [hr, hp] using h1
  · have : ¬ (wd p j / 2 ^ (b % 64)) % 2 = 1 := by simpa [hr, hp] using h1
    simp [hp]; omega
/-- Any four words are those of a set. -/
theorem words_set (a0 a1 a2 a3 : Nat) (h0 : a0 < 18446744073709551616) (h1 : a1 < 18446744073709551616) (h2 : a2 < 18446744073709551616) (h3 : a3 < 18446744073709551616) :
    ∃ p : Nat → Bool, a0 = wd p 0 ∧ a1 = wd p 1 ∧ a2 = wd p 2 ∧ a3 = wd p 3 := by
  refine ⟨fun b => (match b / 64 with | 0 => a0 | 1 => a1 | 2 => a2 | _ => a3).testBit (b % 64), ?_⟩
  have key : ∀ (a j : Nat), a < 18446744073709551616 → ∀ p : Nat → Bool, (∀ k, k < 64 → p (64 * j + k) = a.testBit k) → a = wd p j := by
    intro a j ha p hp
    refine Nat.eq_of_testBit_eq fun k => ?_
    rw [wd_bit]
    by_cases hk : k < 64
    · simp [hk, hp k hk]
    · have : a < 2 ^ k := Nat.lt_of_lt_of_le (show a < 2 ^ 64 from ha) (Nat.pow_le_pow_right (by decide) (by omega))
      rw [Nat.testBit_lt_two_pow this]; simp [hk]
  have dv : ∀ j k : Nat, k < 64 → (64 * j + k) / 64 = j ∧ (64 * j + k) % 64 = k := fun j k hk => by omega
  refine ⟨key _ 0 h0 _ fun k hk => ?_, key _ 1 h1 _ fun k hk => ?_, key _ 2 h2 _ fun k hk => ?_, key _ 3 h3 _ fun k hk => ?_⟩ <;> simp only [(dv _ k hk).1, (dv _ k hk).2]

/-- The model's operations on words. -/
theorem bits_or (p q : Nat → Bool) (j : Nat) : bits .or .u64 ((wd p j : Nat) : Int) ((wd q j : Nat) : Int) = ((wd (fun x => p x || q x) j : Nat) : Int) := by
  rw [u64_or_nat _ _ (wd_lt p j) (wd_lt q j), wd_or]
theorem bits_and (p q : Nat → Bool) (j : Nat) : bits .and .u64 ((wd p j : Nat) : Int) ((wd q j : Nat) : Int) = ((wd (fun x => p x && q x) j : Nat) : Int) := by
  rw [u64_and_nat _ _ (wd_lt p j) (wd_lt q j), wd_and]
theorem bits_less (p q : Nat → Bool) (j : Nat) : bits .andNot .u64 ((wd p j : Nat) : Int) ((wd q j : Nat) : Int) = ((wd (fun x => p x && !q x) j : Nat) : Int) := by
  rw [u64_andNot_nat _ _ (wd_lt p j) (wd_lt q j), wd_not, wd_and]
theorem bits_not (p : Nat → Bool) (j : Nat) : bits .xor .u64 18446744073709551615 ((wd p j : Nat) : Int) = ((wd (fun x => !p x) j : Nat) : Int) := by
  rw [show (18446744073709551615 : Int) = ((18446744073709551615 : Nat) : Int) by rfl, u64_xor_nat _ _ (by decide) (wd_lt p j), ← wd_full j]
  congr 1
  refine Nat.eq_of_testBit_eq fun k => ?_
  rw [Nat.testBit_xor, wd_bit, wd_bit, wd_bit]
  cases decide (k < 64) <;> simp
theorem wrap_pow (r : Nat) (hr : r < 64) : IntKind.u64.wrap ((2 : Int) ^ r) = ((2 ^ r : Nat) : Int) := by
  have h1 : 2 ^ r < 2 ^ 64 := Nat.pow_lt_pow_right (by decide) hr
  have h2 : ((2 : Int) ^ r) = ((2 ^ r : Nat) : Int) := by simp
  rw [h2]
  simp only [IntKind.wrap, IntKind.bits, IntKind.signed]
  have h3 : ((2 ^ r : Nat) : Int) < 18446744073709551616 := by have := h1; omega
  generalize hx : 2 ^ r = x at h1 h3 ⊢
  simp
  omega
theorem bits_has (p : Nat → Bool) (b j : Nat) (h : b / 64 = j) : (bits .and .u64 (((wd p j : Nat) : Int) / 2 ^ (b % 64)) 1 == 1) = p b := by
  have h1 := wd_has p b j h
  have h2 := wd_lt p j
  have h3 : ((wd p j : Nat) : Int) / 2 ^ (b % 64) = ((wd p j / 2 ^ (b % 64) : Nat) : Int) := by simp
  have h4 : wd p j / 2 ^ (b % 64) ≤ wd p j := Nat.div_le_self _ _
  rw [h3, show (1 : Int) = ((1 : Nat) : Int) by rfl, u64_and_nat _ _ (by omega) (by decide), Nat.and_one_is_mod, h1]
  cases p b <;> simp
theorem bits_ins (p : Nat → Bool) (b j : Nat) (h : b / 64 = j) : bits .or .u64 ((wd p j : Nat) : Int) (IntKind.u64.wrap (2 ^ (b % 64))) = ((wd (ins p b) j : Nat) : Int) := by
  have hr : b % 64 < 64 := Nat.mod_lt _ (by decide)
  have h1 : 2 ^ (b % 64) < 2 ^ 64 := Nat.pow_lt_pow_right (by decide) hr
  rw [wrap_pow _ hr, u64_or_nat _ _ (wd_lt p j) h1, wd_ins p b j h]
/-- The numbers below k of a set. -/
def upTo (p : Nat → Bool) (k : Nat) : Nat → Bool := fun x => decide (x < k) && p x
theorem upTo_zero (p : Nat → Bool) : upTo p 0 = fun _ => false := by funext x; simp [upTo]
theorem upTo_yes (p : Nat → Bool) (k : Nat) (h : p k = true) : upTo p (k + 1) = ins (upTo p k) k := by
  funext x
  rw [Bool.eq_iff_iff]
  simp only [upTo, ins, Bool.or_eq_true, Bool.and_eq_true, decide_eq_true_eq, beq_iff_eq]
  constructor
  · rintro ⟨h1, h2⟩
    by_cases e : x = k
    · exact Or.inr e
    · exact Or.inl ⟨by omega, h2⟩
  · rintro (⟨h1, h2⟩ | rfl)
    · exact ⟨by omega, h2⟩
    · exact ⟨by omega, h⟩
theorem upTo_no (p : Nat → Bool) (k : Nat) (h : p k = false) : upTo p (k + 1) = upTo p k := by
  funext x
  rw [Bool.eq_iff_iff]
  simp only [upTo, Bool.and_eq_true, decide_eq_true_eq]
  constructor
  · rintro ⟨h1, h2⟩
    refine ⟨?_, h2⟩
    rcases Nat.lt_or_ge x k with e | e
    · exact e
    · obtain rfl : x = k := by omega
      rw [h] at h2; simp at h2
  · rintro ⟨h1, h2⟩
    exact ⟨by omega, h2⟩
theorem wd_upTo (p : Nat → Bool) (j : Nat) (hj : j < 4) : wd (upTo p 256) j = wd p j := wd_congr fun k hk => by
  have : 64 * j + k < 256 := by omega
  simp [upTo, this]
theorem bits_add (p : Nat → Bool) (k j : Nat) (h : k / 64 = j) : IntKind.u64.wrap (((wd (upTo p k) j : Nat) : Int) + IntKind.u64.wrap (2 ^ (k % 64))) = ((wd (ins (upTo p k) k) j : Nat) : Int) := by
  have hr : k % 64 < 64 := Nat.mod_lt _ (by decide)
  have h1 := wd_add (upTo p k) k j (by simp [upTo]) h
  have h2 := wd_lt (ins (upTo p k) k) j
  rw [wrap_pow _ hr, ← h1]
  rw [← h1] at h2
  simp only [IntKind.wrap, IntKind.bits, IntKind.signed]
  generalize wd (upTo p k) j = x at h2 ⊢
  generalize 2 ^ (k % 64) = y at h2 ⊢
  simp
  omega
end Go.Proofs.Ytlnndkilaklifaa

namespace Go.Proofs.Ytlnndkilaklifaa
open Go.RowKit

theorem has_any (p : Nat → Bool) (b : Nat) (hb : b < 256) (w : World) :
    Calls Try.prog 81 #[(.agg #[.int .u64 ((wd p 0 : Nat) : Int), .int .u64 ((wd p 1 : Nat) : Int), .int .u64 ((wd p 2 : Nat) : Int), .int .u64 ((wd p 3 : Nat) : Int)]), .int .u8 b] w fun e w' => e = .returned (.bool (p b)) ∧ Below w.heap.size w w' := by
  have hq : b / 64 = 0 ∨ b / 64 = 1 ∨ b / 64 = 2 ∨ b / 64 = 3 := by omega
  rcases hq with h | h | h | h
  · go_enter Try.func81, Try.ntmps81
    go_wp2
    rw [bits_has p b 0 h]
    go_ret
    exact ⟨rfl, (Below.refl _ _).alloc (Nat.le_refl _) _⟩
  · go_enter Try.func81, Try.ntmps81
    go_wp2
    rw [bits_has p b 1 h]
    go_ret
    exact ⟨rfl, (Below.refl _ _).alloc (Nat.le_refl _) _⟩
  · go_enter Try.func81, Try.ntmps81
    go_wp2
    rw [bits_has p b 2 h]
    go_ret
    exact ⟨rfl, (Below.refl _ _).alloc (Nat.le_refl _) _⟩
  · go_enter Try.func81, Try.ntmps81
    go_wp2
    rw [bits_has p b 3 h]
    go_ret
    exact ⟨rfl, (Below.refl _ _).alloc (Nat.le_refl _) _⟩

end Go.Proofs.Ytlnndkilaklifaa

namespace Go.Proofs.Ytlnndkilaklifaa
open Go.RowKit

/-- Block g is cells cs of type t. -/
def St (w : World) (t g : Nat) (cs : Array Value) : Prop := w.heap[g]? = some (.cells cs t (0, 0))
theorem St.lt {w : World} {t g : Nat} {cs : Array Value} (h : St w t g cs) : g < w.heap.size := (Array.getElem?_eq_some_iff.1 h).1
theorem St.set {w : World} {t g : Nat} {cs : Array Value} (h : St w t g cs) (i : Nat) (u : Value) : St (w.setCell ⟨g, i, none⟩ u) t g (cs.setIfInBounds i u) := heap_setCell_same w g i cs t u h
theorem St.far {w : World} {t g : Nat} {cs : Array Value} (h : St w t g cs) {p : Addr} (hp : g ≠ p.block) (u : Value) : St (w.setCell p u) t g cs := (Below.heap_setCell w p u g hp).trans h
theorem St.below {w w' : World} {t g B : Nat} {cs : Array Value} (h : St w t g cs) (k : Below B w w') (hg : g < B) : St w' t g cs := (k.block g hg).trans h
theorem St.keep {w w' : World} {t g : Nat} {cs : Array Value} (h : St w t g cs) (k : Below w.heap.size w w') : St w' t g cs := h.below k h.lt
theorem St.drew {w : World} {t g : Nat} {cs : Array Value} (h : St w t g cs) : St w.drew t g cs := h
theorem St.set4 {w : World} {t g : Nat} {c0 c1 c2 c3 : Value} (h : St w t g #[c0, c1, c2, c3]) (d0 d1 d2 d3 : Value) :
    St ((((w.setCell ⟨g, 0, none⟩ d0).setCell ⟨g, 1, none⟩ d1).setCell ⟨g, 2, none⟩ d2).setCell ⟨g, 3, none⟩ d3) t g #[d0, d1, d2, d3] := by
  have := (((h.set 0 d0).set 1 d1).set 2 d2).set 3 d3
  simpa using this
theorem St.far4 {w : World} {t g g' : Nat} {cs : Array Value} (h : St w t g cs) (hn : g ≠ g') (d0 d1 d2 d3 : Value) :
    St ((((w.setCell ⟨g', 0, none⟩ d0).setCell ⟨g', 1, none⟩ d1).setCell ⟨g', 2, none⟩ d2).setCell ⟨g', 3, none⟩ d3) t g cs :=
  (((h.far (p := ⟨g', 0, none⟩) hn d0).far (p := ⟨g', 1, none⟩) hn d1).far (p := ⟨g', 2, none⟩) hn d2).far (p := ⟨g', 3, none⟩) hn d3
theorem below4 {w0 w : World} {B g : Nat} (h : Below B w0 w) (hg : B ≤ g) (d0 d1 d2 d3 : Value) :
    Below B w0 ((((w.setCell ⟨g, 0, none⟩ d0).setCell ⟨g, 1, none⟩ d1).setCell ⟨g, 2, none⟩ d2).setCell ⟨g, 3, none⟩ d3) :=
  (((h.setCell (p := ⟨g, 0, none⟩) hg d0).setCell (p := ⟨g, 1, none⟩) hg d1).setCell (p := ⟨g, 2, none⟩) hg d2).setCell (p := ⟨g, 3, none⟩) hg d3
theorem St.new (w : World) (t : Nat) (cs : Array Value) : St (w.alloc (.cells cs t)) t w.heap.size cs := by
  show (w.heap.push _)[w.heap.size]? = _
  rw [Array.getElem?_push, if_pos rfl]
theorem St.alloc {w : World} {t g : Nat} {cs : Array Value} (h : St w t g cs) (o : Obj) : St (w.alloc o) t g cs := (Below.heap_alloc w o g h.lt).trans h
theorem row4 {w : World} {g : Nat} {c0 c1 c2 c3 : Value} {t : TypeId} (h : St w t g #[c0, c1, c2, c3]) :
    w.cell? ⟨g, 0, none⟩ = some c0 ∧ w.cell? ⟨g, 1, none⟩ = some c1 ∧ w.cell? ⟨g, 2, none⟩ = some c2 ∧ w.cell? ⟨g, 3, none⟩ = some c3 ∧
    w.frozen? ⟨g, 0, none⟩ = false ∧ w.frozen? ⟨g, 1, none⟩ = false ∧ w.frozen? ⟨g, 2, none⟩ = false ∧ w.frozen? ⟨g, 3, none⟩ = false := by
  have h : w.heap[g]? = some (.cells #[c0, c1, c2, c3] t (0, 0)) := h
  refine ⟨?_, ?_, ?_, ?_, frozen_of_row w g 0 _ _ h, frozen_of_row w g 1 _ _ h, frozen_of_row w g 2 _ _ h, frozen_of_row w g 3 _ _ h⟩ <;> (rw [cell_of_row w g _ _ _ _ h]; rfl)
theorem size4 (w : World) (g : Nat) (d0 d1 d2 d3 : Value) : ((((w.setCell ⟨g, 0, none⟩ d0).setCell ⟨g, 1, none⟩ d1).setCell ⟨g, 2, none⟩ d2).setCell ⟨g, 3, none⟩ d3).heap.size = w.heap.size := by simp [World.setCell]

/-- The numbers that z gives at places below k. -/
def ofUp (z : Nat → Nat) : Nat → Nat → Bool
  | 0 => fun _ => false
  | k + 1 => ins (ofUp z k) (z k)
theorem ofUp_iff (z : Nat → Nat) (k b : Nat) : ofUp z k b = true ↔ ∃ j, j < k ∧ z j = b := by
  induction k with
  | zero => simp [ofUp]
  | succ k ih =>
    simp only [ofUp, ins, Bool.or_eq_true, ih, beq_iff_eq]
    constructor
    · rintro (⟨j, hj, e⟩ | e)
      · exact ⟨j, by omega, e⟩
      · exact ⟨k, by omega, e.symm⟩
    · rintro ⟨j, hj, e⟩
      rcases Nat.lt_or_ge j k with h | h
      · exact Or.inl ⟨j, h, e⟩
      · obtain rfl : j = k := by omega
        exact Or.inr e.symm

/-- What is known of a slice of bytes that came in. -/
def ElsB (w : World) (a : Option Addr) (len : Nat) (z : Nat → Nat) : Prop :=
  0 < len → ∃ b off, a = some ⟨b, off, none⟩ ∧ b < w.heap.size ∧ ∀ j, j < len → w.cell? ⟨b, off + j, none⟩ = some (.int .u8 (z j)) ∧ z j < 256

/-- The state of a loop that fills one set: block t is the set q, block t' (the result's) is empty. -/
structure Fills (w : World) (q : Nat → Bool) (wr : World) : Prop where
  s0 : St wr 41 w.heap.size #[.int .u64 ((wd ((fun _ => false)) 0 : Nat) : Int), .int .u64 ((wd ((fun _ => false)) 1 : Nat) : Int), .int .u64 ((wd ((fun _ => false)) 2 : Nat) : Int), .int .u64 ((wd ((fun _ => false)) 3 : Nat) : Int)]
  s1 : St wr 41 (w.heap.size + 1) #[.int .u64 ((wd q 0 : Nat) : Int), .int .u64 ((wd q 1 : Nat) : Int), .int .u64 ((wd q 2 : Nat) : Int), .int .u64 ((wd q 3 : Nat) : Int)]
  below : Below w.heap.size w wr
theorem Fills.start (w : World) : Fills w (fun _ => false) ((w.alloc (.cells #[.int .u64 0, .int .u64 0, .int .u64 0, .int .u64 0] 41)).alloc (.cells #[.int .u64 0, .int .u64 0, .int .u64 0, .int .u64 0] 41)) := by
  have e : ∀ j, ((wd (fun _ => false) j : Nat) : Int) = 0 := fun j => by rw [wd_none]; rfl
  refine ⟨?_, ?_, ((Below.refl _ _).alloc (Nat.le_refl _) _).alloc (by simp) _⟩ <;> simp only [e]
  · exact (St.new _ _ _).alloc _
  · have := St.new (w.alloc (.cells #[.int .u64 0, .int .u64 0, .int .u64 0, .int .u64 0] 41)) 41 #[.int .u64 0, .int .u64 0, .int .u64 0, .int .u64 0]
    simpa using this
theorem Fills.step {w wr w1 : World} {q : Nat → Bool} (h : Fills w q wr) (hb : Below wr.heap.size wr w1) (q' : Nat → Bool) :
    Fills w q' ((((w1.setCell ⟨w.heap.size + 1, 0, none⟩ (.int .u64 ((wd q' 0 : Nat) : Int))).setCell ⟨w.heap.size + 1, 1, none⟩ (.int .u64 ((wd q' 1 : Nat) : Int))).setCell ⟨w.heap.size + 1, 2, none⟩ (.int .u64 ((wd q' 2 : Nat) : Int))).setCell ⟨w.heap.size + 1, 3, none⟩ (.int .u64 ((wd q' 3 : Nat) : Int))) :=
  have hs := h.below.size
  ⟨(h.s0.keep hb).far4 (by omega) _ _ _ _, (h.s1.keep hb).set4 _ _ _ _, below4 (h.below.trans (hb.mono hs)) (by omega) _ _ _ _⟩
end Go.Proofs.Ytlnndkilaklifaa
