import Derived.Test.YtfnfliooimkddaaDoorSt
import Derived.LoopTactic
namespace Go.Proofs.YtfnfliooimkddaaDoor
open Go.RowKit

theorem of_any (a : Option Addr) (len cap : Nat) (z : Nat → Nat) (w : World) (hE : ElsB w a len z) (hlen : len ≤ 9223372036854775806) :
    Calls Tryd.prog 19 #[.slice a len cap] w fun e w' => e = .returned (.agg #[.int .u64 ((wd (ofUp z len) 0 : Nat) : Int), .int .u64 ((wd (ofUp z len) 1 : Nat) : Int), .int .u64 ((wd (ofUp z len) 2 : Nat) : Int), .int .u64 ((wd (ofUp z len) 3 : Nat) : Int)]) ∧ Below w.heap.size w w' := by
  go_enter Tryd.func19, Tryd.ntmps19
  go_wp2_with fail
  go_loopw [8] (fun i wr => ∃ k : Nat, i = .int .i64 k ∧ k ≤ len ∧ Fills w (ofUp z k) wr) (fun i _ => len - (intOf i).toNat)
  case atStart => exact ⟨0, rfl, Nat.zero_le _, Fills.start w⟩
  case round =>
    obtain ⟨k, rfl, hk, R⟩ := hrel
    obtain ⟨r0, r1, r2, r3, r4, r5, r6, r7⟩ := row4 R.s0
    obtain ⟨q0, q1, q2, q3, q4, q5, q6, q7⟩ := row4 R.s1
    by_cases hlt : k < len
    · obtain ⟨b, off, rfl, hb, hz⟩ := hE (by omega)
      obtain ⟨hz1, hz2⟩ := hz k hlt
      have hc := (R.below.cell (p := ⟨b, off + k, none⟩) hb).trans hz1
      clear hz1 hz
      go_wp2_with fail
      refine (with_any _ _ hz2 _).mono ?_
      rintro e w1 ⟨rfl, b1⟩
      have R1 := R.step b1 (ins (ofUp z k) (z k))
      have hs := b1.size
      have hs0 := R.s1.lt
      obtain ⟨q0, q1, q2, q3, q4, q5, q6, q7⟩ := row4 (R.s1.keep b1)
      clear R b1 hc
      go_wp2_with fail
      go_roundw
      case rel => exact ⟨k + 1, by go_num, by omega, R1⟩
      case measure => simp [intOf]; omega
    · obtain rfl : k = len := by omega
      go_wp2_with fail
      exact bodyPost_ret (v := (.agg #[.int .u64 ((wd (ofUp z k) 0 : Nat) : Int), .int .u64 ((wd (ofUp z k) 1 : Nat) : Int), .int .u64 ((wd (ofUp z k) 2 : Nat) : Int), .int .u64 ((wd (ofUp z k) 3 : Nat) : Int)])) (by simp [results, Tryd.results19, go_sem, r0, r1, r2, r3]) rfl ⟨rfl, below4 R.below (Nat.le_refl _) _ _ _ _⟩
end Go.Proofs.YtfnfliooimkddaaDoor
