import Derived.Test.YtjhfgiflcenjpaaDoorZSt
import Derived.LoopTactic
namespace Go.Proofs.YtjhfgiflcenjpaaDoor
open Go.RowKit

theorem of_any (a : Option Addr) (len cap : Nat) (z : Nat → Nat) (w : World) (hE : ElsB w a len z) (hlen : len ≤ 9223372036854775806) :
    Calls Tryd.prog 63 #[.slice a len cap] w fun e w' => e = .returned (.agg #[.int .u64 ((wd (ofUp z len) 0 : Nat) : Int), .int .u64 ((wd (ofUp z len) 1 : Nat) : Int), .int .u64 ((wd (ofUp z len) 2 : Nat) : Int), .int .u64 ((wd (ofUp z len) 3 : Nat) : Int)]) ∧ Below w.heap.size w w' := by
  go_enter Tryd.func63, Tryd.ntmps63
  go_wp2_with fail
  go_loopw [8] (fun i wr => ∃ k : Nat, i = .int .i64 k ∧ k ≤ len ∧ Fills w (ofUp z k) wr) (fun i _ => len - (intOf i).toNat)
  case atStart => exact ⟨0, rfl, Nat.zero_le _, Fills.start w⟩
  case round =>
    obtain ⟨k, rfl, hk, R⟩ := hrel
    obtain ⟨r0, r1, r2, r3, r4, r5, r6, r7⟩ := row4 R.s0
    obtain ⟨q0, q1, q2, q3, q4, q5, q6, q7⟩ := row4 R.s1
    by_cases hlt : k < len
    · obtain ⟨b, off, rfl, hb, hz⟩ := hE (by omega)
      obtain ⟨hz1, hz2⟩ := hz k hlt
      have hc := (R.below.cell (p := ⟨b, off + k, none⟩) hb).trans hz1
      clear hz1 hz
      go_wp2_with fail
      refine (with_any _ _ hz2 _).mono ?_
      rintro e w1 ⟨rfl, b1⟩
      have R1 := R.step b1 (ins (ofUp z k) (z k))
      have hs := b1.size
      have hs0 := R.s1.lt
      obtain ⟨q0, q1, q2, q3, q4, q5, q6, q7⟩ := row4 (R.s1.keep b1)
      clear R b1 hc
      go_wp2_with fail
      go_roundw
      case rel => exact ⟨k + 1, by go_num, by omega, R1⟩
      case measure => simp [intOf]; omega
    · obtain rfl : k = len := by omega
      go_wp2_with fail
      exact bodyPost_ret (v := (.agg #[.int .u64 ((wd (ofUp z k) 0 : Nat) : Int), .int .u64 ((wd (ofUp z k) 1 : Nat) : Int), .int .u64 ((wd (ofUp z k) 2 : Nat) : Int), .int .u64 ((wd (ofUp z k) 3 : Nat) : Int)])) (by simp [results, Tryd.results63, go_sem, r0, r1, r2, r3]) rfl ⟨rfl, below4 R.below (Nat.le_refl _) _ _ _ _⟩
end Go.Proofs.YtjhfgiflcenjpaaDoor

namespace Go.Proofs.YtjhfgiflcenjpaaDoor
open Go.RowKit

/-- The numbers from a to one another, k of them. -/
def ival (a k : Nat) : Nat → Bool := fun x => decide (a ≤ x) && decide (x < a + k)
theorem ival_zero (a : Nat) : ival a 0 = fun _ => false := by funext x; simp [ival]
theorem ival_succ (a k : Nat) : ival a (k + 1) = ins (ival a k) (a + k) := by
  funext x
  rw [Bool.eq_iff_iff]
  simp only [ival, ins, Bool.or_eq_true, Bool.and_eq_true, decide_eq_true_eq, beq_iff_eq]
  omega

theorem u8_sum {a k n : Nat} (h : a + k ≤ 255) (hn : n = a + k) : IntKind.u8.wrap ((a : Int) + (k : Int)) = ((n : Nat) : Int) := by
  subst hn
  simp [IntKind.wrap, IntKind.bits, IntKind.signed]
  omega

theorem range_any (a c : Nat) (ha : a < 256) (hc : c < 256) (w : World) :
    Calls Tryd.prog 72 #[.int .u8 a, .int .u8 c] w fun e w' => e = .returned (.agg #[.int .u64 ((wd (ival a (c + 1 - a)) 0 : Nat) : Int), .int .u64 ((wd (ival a (c + 1 - a)) 1 : Nat) : Int), .int .u64 ((wd (ival a (c + 1 - a)) 2 : Nat) : Int), .int .u64 ((wd (ival a (c + 1 - a)) 3 : Nat) : Int)]) ∧ Below w.heap.size w w' := by
  rcases (by omega : c + 1 ≤ a ∨ a ≤ c) with h | h
  · go_enter Tryd.func72, Tryd.ntmps72
    go_wp2_with fail
    go_loopw [13] (fun i wr => i = .int .i64 0 ∧ Fills w (ival a 0) wr) (fun _ _ => 0)
    case atStart => exact ⟨rfl, by rw [ival_zero]; exact Fills.start w⟩
    case round =>
      obtain ⟨rfl, R⟩ := hrel
      obtain ⟨r0, r1, r2, r3, r4, r5, r6, r7⟩ := row4 R.s0
      obtain ⟨q0, q1, q2, q3, q4, q5, q6, q7⟩ := row4 R.s1
      go_wp2_with fail
      exact bodyPost_ret (v := (.agg #[.int .u64 ((wd (ival a 0) 0 : Nat) : Int), .int .u64 ((wd (ival a 0) 1 : Nat) : Int), .int .u64 ((wd (ival a 0) 2 : Nat) : Int), .int .u64 ((wd (ival a 0) 3 : Nat) : Int)])) (by simp [results, Tryd.results72, go_sem, r0, r1, r2, r3]) rfl ⟨by rw [show c + 1 - a = 0 by omega], below4 R.below (Nat.le_refl _) _ _ _ _⟩
  · obtain ⟨n, hn, hn2⟩ : ∃ n, c + 1 - a = n ∧ c + 1 = a + n := ⟨_, rfl, by omega⟩
    rw [hn]
    have h1 : 1 ≤ n := by omega
    obtain rfl : c = a + n - 1 := by omega
    clear hn hn2
    have h3 : a + n ≤ 256 := by omega
    have hcast : ((a + n - 1 : Nat) : Int) = (a : Int) + (n : Int) - 1 := by omega
    rw [hcast]
    clear hcast hc h
    go_enter Tryd.func72, Tryd.ntmps72
    go_wp2_with fail
    go_loopw [6, 13] (fun _ i wr => ∃ k : Nat, i = .int .i64 k ∧ k ≤ n ∧ Fills w (ival a k) wr) (fun _ i _ => n - (intOf i).toNat)
    case atStart => exact ⟨0, rfl, Nat.zero_le _, by rw [ival_zero]; exact Fills.start w⟩
    case round =>
      obtain ⟨k, rfl, hk, R⟩ := hrel
      obtain ⟨r0, r1, r2, r3, r4, r5, r6, r7⟩ := row4 R.s0
      obtain ⟨q0, q1, q2, q3, q4, q5, q6, q7⟩ := row4 R.s1
      by_cases hlt : k < n
      · go_wp2_with fail
        rw [show (a : Int) + (k : Int) = ((a + k : Nat) : Int) from by omega]
        refine (with_any (ival a k) (a + k) (by omega) _).mono ?_
        rintro e w1 ⟨rfl, b1⟩
        have R1 := R.step b1 (ival a (k + 1))
        rw [ival_succ] at R1
        have HR := Lib.hid R1
        have hs := b1.size
        have hs0 := R.s1.lt
        obtain ⟨q0, q1, q2, q3, q4, q5, q6, q7⟩ := row4 (R.s1.keep b1)
        clear R b1 R1
        go_wp2_with fail
        go_roundw
        case rel => exact ⟨k + 1, by go_num, by omega, by rw [ival_succ]; exact HR.out⟩
        case measure => simp [intOf]; omega
      · obtain rfl : k = n := by omega
        go_wp2_with fail
        exact bodyPost_ret (v := (.agg #[.int .u64 ((wd (ival a k) 0 : Nat) : Int), .int .u64 ((wd (ival a k) 1 : Nat) : Int), .int .u64 ((wd (ival a k) 2 : Nat) : Int), .int .u64 ((wd (ival a k) 3 : Nat) : Int)])) (by simp [results, Tryd.results72, go_sem, r0, r1, r2, r3]) rfl ⟨rfl, below4 R.below (Nat.le_refl _) _ _ _ _⟩
end Go.Proofs.YtjhfgiflcenjpaaDoor
