import Derived.Test.YthidhkaeebakjaaDParts
namespace Go.Proofs.Ythidhkaeebakjaa
open Go.RowKit
set_option linter.unusedVariables false

/-- The operands of an expression. -/
def Rx.kids : Rx → List (List Pc)
  | .leaf _ => []
  | .un _ a => [a.flat]
  | .bin _ a b => [a.flat, b.flat]
theorem Rx.kids_flat (t : Rx) : t.flat = t.kids.flatten ++ [t.top] := by cases t <;> simp [Rx.flat, Rx.kids, Rx.top]
theorem Rx.kids_takes (t : Rx) (hw : t.wf) : takesZ t.top.k = t.kids.length := by cases t <;> exact hw.1
theorem Rx.kids_two (t : Rx) : t.kids.length ≤ 2 := by cases t <;> simp [Rx.kids]
/-- A row of expressions, none where there are none. -/
def PartsIn (w : World) (a : Option Addr) (L : List (List Pc)) : Prop :=
  ∀ i (h : i < L.length), ∃ b g off c, a = some ⟨b, 0, none⟩ ∧ w.cell? ⟨b, i, none⟩ = some (.slice (some ⟨g, off, none⟩) L[i].length c) ∧ RxAt w (some ⟨g, off, none⟩) L[i] ∧ 1 ≤ L[i].length ∧ b < w.heap.size
theorem PartsIn.below {w w' : World} {a : Option Addr} {L : List (List Pc)} (h : PartsIn w a L) (k : Below w.heap.size w w') : PartsIn w' a L := by
  intro i hi
  obtain ⟨b, g, off, c, e, h1, h2, h3, h4⟩ := h i hi
  have := k.size
  exact ⟨b, g, off, c, e, (k.cell (p := ⟨b, i, none⟩) h4).trans h1, h2.below k, h3, by omega⟩
end Go.Proofs.Ythidhkaeebakjaa
