import Derived.Test.YtohgbkajnhgnaaaZPRep
import Derived.Test.YtohgbkajnhgnaaaZTLaw
import Derived.Test.YtohgbkajnhgnaaaZTRefW
namespace Go.Proofs.Ytohgbkajnhgnaaa
open Go.RowKit Go.Maps Go.WideElems Go.ChangeMaps Go.MapKept
set_option linter.unusedVariables false
set_option linter.unusedSimpArgs false

def nmZ (f : Nat → Int) (n : Nat) : List Value := (List.range n).map fun y => Value.int .i64 (f y)
theorem nmZ_at (f : Nat → Int) (n x : Nat) (h : x < n) : (nmZ f n)[x]? = some (.int .i64 (f x)) := by simp [nmZ, h]
theorem nmZ_set (f : Nat → Int) (n x : Nat) (v : Int) : (nmZ f n).set x (.int .i64 v) = nmZ (fun y => if y = x then v else f y) n := by
  unfold nmZ
  apply List.ext_getElem?
  intro i
  rw [List.getElem?_set]
  by_cases e : x = i
  · subst e
    by_cases h : x < n
    · simp [h]
    · simp [h]
  · rw [if_neg e]
    by_cases h : i < n
    · simp [h, Ne.symm e, show ¬ i = x from fun h => e h.symm]
    · simp [h]
theorem nmZ_rep (n : Nat) (v : Int) : ints (List.replicate n v) = nmZ (fun _ => v) n := by
  unfold nmZ ints
  apply List.ext_getElem?
  intro i
  by_cases h : i < n <;> simp [h]

end Go.Proofs.Ytohgbkajnhgnaaa

namespace Go.Proofs.Ytohgbkajnhgnaaa
open Go.RowKit Go.Maps Go.WideElems Go.ChangeMaps Go.MapKept
set_option linter.unusedVariables false
set_option linter.unusedSimpArgs false


end Go.Proofs.Ytohgbkajnhgnaaa

namespace Go.Proofs.Ytohgbkajnhgnaaa
open Go.RowKit Go.Maps Go.WideElems Go.ChangeMaps Go.MapKept
set_option linter.unusedVariables false
set_option linter.unusedSimpArgs false


end Go.Proofs.Ytohgbkajnhgnaaa

namespace Go.Proofs.Ytohgbkajnhgnaaa
open Go.RowKit Go.Maps Go.WideElems Go.ChangeMaps Go.MapKept
set_option linter.unusedVariables false
set_option linter.unusedSimpArgs false

end Go.Proofs.Ytohgbkajnhgnaaa
