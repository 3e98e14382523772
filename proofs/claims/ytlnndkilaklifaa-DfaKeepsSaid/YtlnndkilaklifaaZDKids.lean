import Derived.Test.YtlnndkilaklifaaZStart
import Derived.Lib.OwnKind
import Derived.OwnWalk
import Derived.Laws.AppendOwn
import Derived.Deep.RegionHeld3
import Derived.Deep.DeepCutAuto
namespace Go.Proofs.Ytlnndkilaklifaa
open Go.RowKit
set_option linter.unusedVariables false


/-- A row in a new block is the call's own. -/
theorem own_lit (w : World) (base : Nat) (e : TypeId) (size : Nat) (cs : Array Value) (n : Nat) (hn : cs.size = n * size) (hb : base ≤ w.heap.size) (hm : n ≤ maxLen) : (w.alloc (.cells cs e)).ownsRow base e size (.slice (some ⟨w.heap.size, 0, none⟩) n n) n cs.toList :=
  ⟨by simpa using hn, Or.inr ⟨w.heap.size, n, cs, rfl, hb, St.new w e cs, Nat.le_refl _, hm, hn, by rw [← hn]; exact List.take_of_length_le (by simp)⟩⟩
theorem takes_wf (t : Rx) (hw : t.wf) : ∀ x ∈ t.flat, 0 ≤ takesZ x.k := by
  induction t with
  | leaf x => intro y hy; simp [Rx.flat] at hy; subst hy; rw [hw.1]; omega
  | un x a ih =>
    intro y hy
    simp [Rx.flat] at hy
    rcases hy with hy | rfl
    · exact ih hw.2.2 y hy
    · rw [hw.1]; omega
  | bin x a b iha ihb =>
    intro y hy
    simp [Rx.flat] at hy
    rcases hy with hy | hy | rfl
    · exact iha hw.2.2.1 y hy
    · exact ihb hw.2.2.2 y hy
    · rw [hw.1]; omega



end Go.Proofs.Ytlnndkilaklifaa

namespace Go.Proofs.Ytlnndkilaklifaa
open Go.RowKit
set_option linter.unusedVariables false

/-- The operands of an expression. -/
def Rx.kids : Rx → List (List Pc)
  | .leaf _ => []
  | .un _ a => [a.flat]
  | .bin _ a b => [a.flat, b.flat]
theorem Rx.kids_flat (t : Rx) : t.flat = t.kids.flatten ++ [t.top] := by cases t <;> simp [Rx.flat, Rx.kids, Rx.top]
theorem Rx.kids_takes (t : Rx) (hw : t.wf) : takesZ t.top.k = t.kids.length := by cases t <;> exact hw.1
theorem Rx.kids_two (t : Rx) : t.kids.length ≤ 2 := by cases t <;> simp [Rx.kids]
/-- A row of expressions, none where there are none. -/
def PartsIn (w : World) (a : Option Addr) (L : List (List Pc)) : Prop :=
  ∀ i (h : i < L.length), ∃ b g off c, a = some ⟨b, 0, none⟩ ∧ w.cell? ⟨b, i, none⟩ = some (.slice (some ⟨g, off, none⟩) L[i].length c) ∧ RxAt w (some ⟨g, off, none⟩) L[i] ∧ 1 ≤ L[i].length ∧ b < w.heap.size
theorem PartsIn.below {w w' : World} {a : Option Addr} {L : List (List Pc)} (h : PartsIn w a L) (k : Below w.heap.size w w') : PartsIn w' a L := by
  intro i hi
  obtain ⟨b, g, off, c, e, h1, h2, h3, h4⟩ := h i hi
  have := k.size
  exact ⟨b, g, off, c, e, (k.cell (p := ⟨b, i, none⟩) h4).trans h1, h2.below k, h3, by omega⟩
end Go.Proofs.Ytlnndkilaklifaa
