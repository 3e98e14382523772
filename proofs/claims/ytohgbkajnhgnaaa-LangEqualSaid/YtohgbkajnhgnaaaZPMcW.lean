import Derived.Test.YtohgbkajnhgnaaaZClasses
import Derived.Test.YtohgbkajnhgnaaaZMCol
import Derived.Test.YtohgbkajnhgnaaaZMUniq
import Derived.Test.YtohgbkajnhgnaaaZPBlk
import Derived.Test.YtohgbkajnhgnaaaZPMst
import Derived.Test.YtohgbkajnhgnaaaZSClose
namespace Go.Proofs.Ytohgbkajnhgnaaa
open Go.RowKit Go.Maps Go.WideElems Go.ChangeMaps Go.MapKept
set_option linter.unusedVariables false
set_option linter.unusedSimpArgs false


end Go.Proofs.Ytohgbkajnhgnaaa

namespace Go.Proofs.Ytohgbkajnhgnaaa
open Go.RowKit Go.Maps Go.WideElems Go.ChangeMaps Go.MapKept
set_option linter.unusedVariables false
set_option linter.unusedSimpArgs false

theorem zDfa_cls11 : ∀ j, j < 256 → (zC 26)[j]? = some (.int .u8 0) := by
  have h : (List.range 256).all (fun j => match (zC 26)[j]? with | some (.int .u8 0) => true | _ => false) = true := by kernel_rfl
  intro j hj
  have h1 := List.all_eq_true.1 h j (by simpa using hj)
  split at h1
  · rename_i e; rw [e]
  · cases h1
theorem rpl_congr {f g : Nat → Nat} : ∀ i, (∀ j, j < i → f j = g j) → rpl f i = rpl g i := by
  intro i
  induction i with
  | zero => intro _; rfl
  | succ i ih =>
    intro h
    have e := ih (fun j hj => h j (by omega))
    show (if f i < (rpl f i).length then rpl f i else rpl f i ++ [i]) = if g i < (rpl g i).length then rpl g i else rpl g i ++ [i]
    rw [e, h i (by omega)]
/-! ### Columns as texts. -/
def cS (D : Dd) (c : Nat) : ByteArray := strOf (colT (fun i => D.nx i c) D.n)
theorem zero_u89 (w : World) : (zeroValue 5).run Try.prog w = .ok (.int .u8 0) w := by kernel_rfl
section
variable {W0 : World} {D : Dd} {C bM b4 : Nat} {vC : Value} {k : Nat} {v6 : Value} {nm : List ByteArray} {g : Nat → Nat} {w : World}
theorem cls_upd (g : Nat → Nat) (k b : Nat) : (fun i => if i = k then b else if i < k then g i else 0) = fun j => if j < k + 1 then (if j = k then b else g j) else 0 := by
  funext i
  by_cases e : i = k
  · rw [if_pos e, if_pos (by omega), if_pos e]
  · rw [if_neg e]
    by_cases e2 : i < k
    · rw [if_pos e2, if_pos (by omega), if_neg e]
    · rw [if_neg e2, if_neg (by omega)]
theorem MapN.set {w : World} {k : TypeId} {b n t g i : Nat} {u : Value} {cs : Array Value} {Q : Value → Value → Prop} (h : MapN w k b n Q) (h' : St w t g cs) : MapN (w.setCell ⟨g, i, none⟩ u) k b n Q := by
  refine h.same (Below.heap_setCell _ _ _ _ ?_)
  intro e
  obtain ⟨es, clock, hb, _⟩ := h
  have h2 : w.heap[g]? = _ := h'
  rw [show b = g from e, h2] at hb
  cases hb
end
section
variable {W0 : World} {D : Dd} {b4 C' : Nat} {K' : Nat → Nat} {vN v6 : Value} {R : List (List Int)} {ws : Nat → Value} {l : List Nat} {w : World}
end
end Go.Proofs.Ytohgbkajnhgnaaa

namespace Go.Proofs.Ytohgbkajnhgnaaa
open Go.RowKit Go.Maps Go.WideElems Go.ChangeMaps Go.MapKept
set_option linter.unusedVariables false
set_option linter.unusedSimpArgs false


end Go.Proofs.Ytohgbkajnhgnaaa
