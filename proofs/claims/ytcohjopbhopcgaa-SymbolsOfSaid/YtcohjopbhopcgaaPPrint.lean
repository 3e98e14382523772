import Derived.Test.YtcohjopbhopcgaaEscIn
namespace Go.Proofs.Ytcohjopbhopcgaa
open Go.RowKit

/-- Is a byte printable? -/
def isPrint (c : Nat) : Bool := decide (32 ≤ c) && decide (c ≤ 126)
theorem print_any (c : Nat) (w : World) :
    Calls Try.prog 28 #[.int .u8 c] w fun e w' => e = .returned (.bool (isPrint c)) ∧ w = w' := by
  have HP : Hid (isPrint c = (decide (32 ≤ c) && decide (c ≤ 126))) := rfl
  rcases (by omega : c < 32 ∨ (32 ≤ c ∧ c ≤ 126) ∨ (32 ≤ c ∧ 126 < c)) with h | ⟨h, h'⟩ | ⟨h, h'⟩
  all_goals
    go_enter Try.func28, Try.ntmps28
    go_wp2_with fail
    go_ret
    exact ⟨congrArg (fun b => Ending.returned (.bool b)) (by rw [HP.out, Bool.eq_iff_iff]; simp <;> omega), rfl⟩
end Go.Proofs.Ytcohjopbhopcgaa
