import Derived.Test.YtohgbkajnhgnaaaZIter
import Derived.Test.YtohgbkajnhgnaaaZPMn
import Derived.Lib.SlKeysI
namespace Go.Proofs
open Go.RowKit Go.Maps Go.Sort Go.Shelf

end Go.Proofs
namespace Go.Proofs.Ytohgbkajnhgnaaa
open Go.RowKit Go.Maps Go.WideElems Go.ChangeMaps Go.MapKept
set_option linter.unusedVariables false
set_option linter.unusedSimpArgs false

/-- 'm[k]'. -/
theorem MapEx.look1 {w : World} {k t e : TypeId} {b n : Nat} {Q : Value → Value → Prop} (h : MapEx w k b n Q) (K : Keyed Try.prog k) (ht : Try.prog.underlying t = some (.map k e)) {z : Value} (hz : (zeroValue e).run Try.prog w = .ok z w)
    {key : Value} {kl : Lit} (hkey : keyOf Try.prog k key = some kl) :
    ((Instr.lookup t (.map (some b)) key false).run Try.prog w = .ok z w ∧ ∀ y, ¬ Q key y) ∨ ∃ v, Q key v ∧ (Instr.lookup t (.map (some b)) key false).run Try.prog w = .ok v w := by
  obtain ⟨es, clock, hb, F, _, hq, hall⟩ := h
  rcases Maps.fit_look false K ht hz hb F hkey with ⟨hrun, hno, _⟩ | ⟨e0, y, hm, hk, hrun, _⟩
  · refine Or.inl ⟨by simpa using hrun, fun y hy => ?_⟩
    obtain ⟨e1, h1, h2⟩ := hall _ _ hy
    exact hno e1 h1 h2
  · exact Or.inr ⟨e0.val, by rw [← hk]; exact hq e0 hm, by simpa using hrun⟩
theorem int_key_z (x : Int) (h : -9223372036854775808 ≤ x ∧ x ≤ 9223372036854775807) : keyOf Try.prog 3 (.int .i64 x) = some (.int .i64 x) := by
  have hw := wf64 h
  unfold keyOf
  simp [Try.underlying3, mapKey, hw]
end Go.Proofs.Ytohgbkajnhgnaaa

namespace Go.Proofs.Ytohgbkajnhgnaaa
open Go.RowKit Go.Maps Go.WideElems Go.ChangeMaps Go.MapKept
set_option linter.unusedVariables false
set_option linter.unusedSimpArgs false

section
variable {D : Dd} {W0 w : World} {bM k : Nat} {vs : Int → Value}
end
end Go.Proofs.Ytohgbkajnhgnaaa

namespace Go.Proofs.Ytohgbkajnhgnaaa
open Go.RowKit Go.Maps Go.WideElems Go.ChangeMaps Go.MapKept
set_option linter.unusedVariables false
set_option linter.unusedSimpArgs false



end Go.Proofs.Ytohgbkajnhgnaaa
