import Derived.Test.YtohgbkajnhgnaaaZDBase
import Derived.Test.YtohgbkajnhgnaaaZNNew
import Derived.Maps.AppendAt
import Derived.BigQuiet
import Derived.Deep.QuietTactic
import Derived.Laws.BytesArg
import Derived.OwnWalk
import Derived.RegionTactic
import Derived.BigRegion
import Derived.Maps.Own
import Derived.Maps.OwnOps
import Derived.Maps.OwnSet
import Derived.Maps.Views
import Derived.StringKeys
import Derived.Laws.Tables
namespace Go.Proofs.Ytohgbkajnhgnaaa
open Go.RowKit Go.Maps Go.WideElems Go.ChangeMaps Go.MapKept
set_option linter.unusedVariables false
set_option linter.unusedSimpArgs false

theorem own_kinds {w : World} {B B' t t' s s' n n' : Nat} {v v' : Value} {xs xs' : List Value} (h : w.ownsRow B t s v n xs) (h' : w.ownsRow B' t' s' v' n' xs') (ht : t ≠ t') : ∀ g, v.ownBlock = some g → v'.ownBlock ≠ some g := by
  intro g e1 e2
  obtain ⟨c, fz, hc⟩ := own_kind h g e1
  obtain ⟨c', fz', hc'⟩ := own_kind h' g e2
  rw [hc] at hc'
  injection hc' with hc'
  injection hc' with _ hc'
  exact ht hc'

end Go.Proofs.Ytohgbkajnhgnaaa

namespace Go.Proofs.Ytohgbkajnhgnaaa
open Go.RowKit Go.Maps Go.WideElems Go.ChangeMaps Go.MapKept
set_option linter.unusedVariables false
set_option linter.unusedSimpArgs false


end Go.Proofs.Ytohgbkajnhgnaaa

namespace Go.Proofs.Ytohgbkajnhgnaaa
open Go.RowKit


end Go.Proofs.Ytohgbkajnhgnaaa

namespace Go.Proofs.Ytohgbkajnhgnaaa
open Go.RowKit

/-- A list of bytes as a string. -/
def strOf (l : List Nat) : ByteArray := strOfNums (l.map fun n => ((n : Nat) : Int))
theorem strOf_list (l : List Nat) : (strOf l).data.toList = l.map UInt8.ofNat := by simp [strOf, strOfNums_data]
theorem strOf_size (l : List Nat) : (strOf l).size = l.length := by simp [strOf, strOfNums_size]
end Go.Proofs.Ytohgbkajnhgnaaa

namespace Go.Proofs.Ytohgbkajnhgnaaa
open Go.RowKit

theorem conv_any {W : World} {base : Nat} {a : Option Addr} {n cap : Nat} {l : List Nat} (h : W.ownsRow base 5 1 (.slice a n cap) n (u8s l)) (hn : n = l.length) :
    (convert 49 9 (.slice a n cap)).run Try.prog W = .ok (.string (strOf l)) W := by
  rcases Nat.eq_zero_or_pos n with h0 | h0
  · subst h0
    have hl : l = [] := List.length_eq_zero_iff.1 hn.symm
    subst hl
    rcases a with _ | a
    · exact run_convert_bytes_nil W 49 5 Try.underlying49 Try.underlying5 0 cap 9 Try.underlying9
    · have e := h.2
      rcases e with ⟨e, _⟩ | ⟨g, cap', cur, e, _⟩
      · simp at e
      · simp at e
        obtain ⟨rfl, rfl⟩ := e
        exact run_convert_bytes_arg W 49 5 Try.underlying49 Try.underlying5 g 0 0 cap [] rfl (fun i hi => absurd hi (by omega)) 9 Try.underlying9
  · obtain ⟨g, rfl, _, _, hc⟩ := ownsRow_read h h0
    refine run_convert_bytes_arg W 49 5 Try.underlying49 Try.underlying5 g 0 n cap (l.map fun n => ((n : Nat) : Int)) (by simp [hn]) (fun i hi => ?_) 9 Try.underlying9
    rw [Nat.zero_add, (hc i (by omega)).1, u8s_get l i (by omega)]
    simp [List.getElem?_eq_getElem (by omega : i < l.length)]
end Go.Proofs.Ytohgbkajnhgnaaa

namespace Go.Proofs.Ytohgbkajnhgnaaa
open Go.RowKit





end Go.Proofs.Ytohgbkajnhgnaaa

namespace Go.Proofs.Ytohgbkajnhgnaaa
open Go.RowKit Go.Maps Go.WideElems Go.ChangeMaps Go.MapKept
set_option linter.unusedVariables false
set_option linter.unusedSimpArgs false


end Go.Proofs.Ytohgbkajnhgnaaa

namespace Go.Proofs.Ytohgbkajnhgnaaa
open Go.RowKit Go.Maps Go.WideElems Go.ChangeMaps Go.MapKept
set_option linter.unusedVariables false
set_option linter.unusedSimpArgs false



end Go.Proofs.Ytohgbkajnhgnaaa

namespace Go.Proofs.Ytohgbkajnhgnaaa
open Go.RowKit Go.Maps Go.WideElems Go.ChangeMaps Go.MapKept
set_option linter.unusedVariables false
set_option linter.unusedSimpArgs false


end Go.Proofs.Ytohgbkajnhgnaaa

namespace Go.Proofs.Ytohgbkajnhgnaaa
open Go.RowKit Go.Maps
open Classical

/-- The least number whose key is that of b. -/
noncomputable def fst (K : Nat → Lit) (b : Nat) : Nat := ((List.range b).filter fun c => decide (K c = K b)).headD b



end Go.Proofs.Ytohgbkajnhgnaaa

namespace Go.Proofs.Ytohgbkajnhgnaaa
open Go.RowKit Go.Maps


/-- Block g is 256 bytes, given by v. -/
def Bytes (w : World) (g : Nat) (v : Nat → Nat) : Prop := ∃ cs, St w 22 g cs ∧ cs.size = 256 ∧ ∀ j, j < 256 → cs[j]? = some (.int .u8 ((v j : Nat) : Int))




end Go.Proofs.Ytohgbkajnhgnaaa
