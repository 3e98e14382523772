import Derived.Test.YtcohjopbhopcgaaMem
namespace Go.Proofs.Ytcohjopbhopcgaa
open Go.RowKit
set_option linter.unusedVariables false

/-- Marks in memory. -/
def ZAt (w : World) (a : Option Addr) (n : Nat) (z : Nat → Int) : Prop := 0 < n → ∃ g off, a = some ⟨g, off, none⟩ ∧ g < w.heap.size ∧ ∀ j, j < n → w.cell? ⟨g, off + j, none⟩ = some (.int .i64 (z j))
theorem ZAt.below {w w' : World} {a : Option Addr} {n : Nat} {z : Nat → Int} (h : ZAt w a n z) (k : Below w.heap.size w w') : ZAt w' a n z := by
  intro h0
  obtain ⟨g, off, e, hg, hc⟩ := h h0
  have := k.size
  exact ⟨g, off, e, by omega, fun j hj => (k.cell (p := ⟨g, off + j, none⟩) hg).trans (hc j hj)⟩
end Go.Proofs.Ytcohjopbhopcgaa
