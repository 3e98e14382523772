import Derived.Test.YtjehgdjlncofeaaZNMath
import Derived.Test.YtjehgdjlncofeaaZSClose
namespace Go.Proofs.Ytjehgdjlncofeaa
open Go.RowKit
set_option linter.unusedVariables false
set_option linter.unusedSimpArgs false

/-- Marks in memory. -/
def ZAt (w : World) (a : Option Addr) (n : Nat) (z : Nat → Int) : Prop := 0 < n → ∃ g off, a = some ⟨g, off, none⟩ ∧ g < w.heap.size ∧ ∀ j, j < n → w.cell? ⟨g, off + j, none⟩ = some (.int .i64 (z j))
theorem ZAt.below {w w' : World} {a : Option Addr} {n : Nat} {z : Nat → Int} (h : ZAt w a n z) (k : Below w.heap.size w w') : ZAt w' a n z := by
  intro h0
  obtain ⟨g, off, e, hg, hc⟩ := h h0
  have := k.size
  exact ⟨g, off, e, by omega, fun j hj => (k.cell (p := ⟨g, off + j, none⟩) hg).trans (hc j hj)⟩

end Go.Proofs.Ytjehgdjlncofeaa

namespace Go.Proofs.Ytjehgdjlncofeaa
open Go.RowKit
set_option linter.unusedVariables false
set_option linter.unusedSimpArgs false

/-- A truth that tells whether Q. -/
def TruPost (Q : Prop) (w : World) (e : Ending) (w' : World) : Prop := ∃ b : Bool, e = .returned (.bool b) ∧ (b = true ↔ Q) ∧ Below w.heap.size w w'


end Go.Proofs.Ytjehgdjlncofeaa

namespace Go.Proofs.Ytjehgdjlncofeaa
open Go.RowKit
set_option linter.unusedVariables false
set_option linter.unusedSimpArgs false

/-- Rows of numbers in memory. -/
def ZsAt (w : World) (a : Option Addr) (n : Nat) (A : Nat → Option Addr) (C len : Nat → Nat) (z : Nat → Nat → Int) : Prop := 0 < n → ∃ g off, a = some ⟨g, off, none⟩ ∧ g < w.heap.size ∧ ∀ i, i < n → w.cell? ⟨g, off + i, none⟩ = some (.slice (A i) (len i) (C i)) ∧ ZAt w (A i) (len i) (z i)
theorem ZsAt.below {w w' : World} {a : Option Addr} {n : Nat} {A : Nat → Option Addr} {C len : Nat → Nat} {z : Nat → Nat → Int} (h : ZsAt w a n A C len z) (k : Below w.heap.size w w') : ZsAt w' a n A C len z := by
  intro h0
  obtain ⟨g, off, e, hg, hc⟩ := h h0
  have := k.size
  exact ⟨g, off, e, by omega, fun j hj => ⟨(k.cell (p := ⟨g, off + j, none⟩) hg).trans (hc j hj).1, (hc j hj).2.below k⟩⟩

end Go.Proofs.Ytjehgdjlncofeaa

namespace Go.Proofs.Ytjehgdjlncofeaa
set_option linter.unusedVariables false
set_option linter.unusedSimpArgs false


/-! ### Two runs beside each other -/
end Go.Proofs.Ytjehgdjlncofeaa

namespace Go.Proofs.Ytjehgdjlncofeaa
open Go.RowKit Go.Maps Go.WideElems Go.ChangeMaps Go.MapKept
set_option linter.unusedVariables false
set_option linter.unusedSimpArgs false



end Go.Proofs.Ytjehgdjlncofeaa

namespace Go.Proofs.Ytjehgdjlncofeaa
open Go.RowKit Go.Maps Go.WideElems Go.ChangeMaps Go.MapKept
set_option linter.unusedVariables false
set_option linter.unusedSimpArgs false

end Go.Proofs.Ytjehgdjlncofeaa
