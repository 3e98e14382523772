import Derived.Test.YthidhkaeebakjaaLen
import Derived.Test.YthidhkaeebakjaaSetEq
namespace Go.Proofs.Ythidhkaeebakjaa
open Go.RowKit

theorem set_none (p : Nat → Bool) : (((wd p 0 : Nat) : Int) == 0 && (((wd p 1 : Nat) : Int) == 0 && (((wd p 2 : Nat) : Int) == 0 && ((wd p 3 : Nat) : Int) == 0))) = decide ((lst p 256).length = 0) := by
  have h := wd_iff p (fun _ => false)
  simp only [wd_none] at h
  have e : (∀ b, b < 256 → p b = false) ↔ (lst p 256).length = 0 := by
    constructor
    · intro h1
      refine List.length_eq_zero_iff.2 (List.eq_nil_iff_forall_not_mem.2 fun x hx => ?_)
      have := (lst_mem p 256 x).1 hx
      rw [h1 x this.1] at this; simp at this
    · intro h1 b hb
      have e : lst p 256 = [] := List.length_eq_zero_iff.1 h1
      rcases hp : p b with _ | _
      · rfl
      · have := (lst_mem p 256 b).2 ⟨hb, hp⟩
        rw [e] at this; simp at this
  rw [e] at h
  rw [Bool.eq_iff_iff]
  simp only [Bool.and_eq_true, beq_iff_eq, decide_eq_true_eq, ← h]
  omega
theorem empty_any (p : Nat → Bool) (w : World) :
    Calls Try.prog 55 #[(.agg #[.int .u64 ((wd p 0 : Nat) : Int), .int .u64 ((wd p 1 : Nat) : Int), .int .u64 ((wd p 2 : Nat) : Int), .int .u64 ((wd p 3 : Nat) : Int)])] w fun e w' => e = .returned (.bool (decide ((lst p 256).length = 0))) ∧ Below w.heap.size w w' := by
  have heq := run_eq_set
  have HS := Lib.hid (set_none p)
  go_enter Try.func55, Try.ntmps55
  go_wp2_with fail
  go_ret
  exact ⟨congrArg (fun b => Ending.returned (.bool b)) HS.out, (Below.refl _ _).alloc (Nat.le_refl _) _⟩
end Go.Proofs.Ythidhkaeebakjaa
