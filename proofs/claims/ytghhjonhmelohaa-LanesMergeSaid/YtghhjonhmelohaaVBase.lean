import Derived.Test.YtghhjonhmelohaaBase
import Derived.Test.YtghhjonhmelohaaVMath
import Derived.WalkLawsBesides
import Derived.WalkSpells
import Derived.Outline
import Derived.Lib.Hide
import Derived.Lib.OthersKept
import Derived.LoopTactic
import Derived.WalkSmall
import Derived.IntWalk
import Derived.Deep.Cut
import Derived.Deep.RegionWith
import Derived.Deep.AppendLies
import Derived.Deep.RegionHeld3
import Derived.Deep.DeepCutAuto
import Derived.Deep.QuietTactic
import Derived.Deep.RegionLaw
import Derived.BigQuiet
import Derived.OwnWalk
import Derived.Laws.Rows
import Derived.Laws.Strings3
import Derived.Laws.Small
namespace Go.Proofs.Ytghhjonhmelohaa
open Go.RowKit Go.Maps Go.WideElems Go.ChangeMaps Go.MapKept
theorem al (w : World) (o : Obj) : Below w.heap.size w (w.alloc o) := (Below.refl _ _).alloc (Nat.le_refl _) _

/-- The number that a value is. -/
def nV : Value → Int
  | .int _ z => z
  | _ => 0
/-- Block g is cells cs of type t. -/
def Bl (w : World) (t g : Nat) (cs : Array Value) : Prop := w.heap[g]? = some (.cells cs t (0, 0))
theorem Bl.lt {w : World} {t g : Nat} {cs : Array Value} (h : Bl w t g cs) : g < w.heap.size := (Array.getElem?_eq_some_iff.1 h).1
theorem Bl.set {w : World} {t g : Nat} {cs : Array Value} (h : Bl w t g cs) (i : Nat) (u : Value) : Bl (w.setCell ⟨g, i, none⟩ u) t g (cs.setIfInBounds i u) := heap_setCell_same w g i cs t u h
theorem Bl.below {w w' : World} {t g B : Nat} {cs : Array Value} (h : Bl w t g cs) (k : Below B w w') (hg : g < B) : Bl w' t g cs := (k.block g hg).trans h
theorem Bl.new (w : World) (t : Nat) (cs : Array Value) : Bl (w.alloc (.cells cs t)) t w.heap.size cs := by
  show (w.heap.push _)[w.heap.size]? = _
  rw [Array.getElem?_push, if_pos rfl]
theorem Bl.set2 {w : World} {t g : Nat} {c0 c1 : Value} (h : Bl w t g #[c0, c1]) (d0 d1 : Value) : Bl ((w.setCell ⟨g, 0, none⟩ d0).setCell ⟨g, 1, none⟩ d1) t g #[d0, d1] := by
  have := (h.set 0 d0).set 1 d1
  simpa using this
theorem Bl.row2 {w : World} {g : Nat} {c0 c1 : Value} {t : TypeId} (h : Bl w t g #[c0, c1]) :
    w.cell? ⟨g, 0, none⟩ = some c0 ∧ w.cell? ⟨g, 1, none⟩ = some c1 ∧ w.frozen? ⟨g, 0, none⟩ = false ∧ w.frozen? ⟨g, 1, none⟩ = false := by
  have h : w.heap[g]? = some (.cells #[c0, c1] t (0, 0)) := h
  refine ⟨?_, ?_, frozen_of_row w g 0 _ _ h, frozen_of_row w g 1 _ _ h⟩ <;> (rw [cell_of_row w g _ _ _ _ h]; rfl)
theorem two_below {w0 w : World} {B g : Nat} (h : Below B w0 w) (hg : B ≤ g) (d0 d1 : Value) : Below B w0 ((w.setCell ⟨g, 0, none⟩ d0).setCell ⟨g, 1, none⟩ d1) :=
  (h.setCell (p := ⟨g, 0, none⟩) hg d0).setCell (p := ⟨g, 1, none⟩) hg d1

/-- A walk over a text by runes: the iterator lies in block k, at byte pos. -/
def ItAt (w : World) (k : Nat) (s : ByteArray) (pos : Nat) : Prop := w.heap[k]? = some (.stringIter s pos)
theorem ItAt.pos {w : World} {k : Nat} {s : ByteArray} {pos : Nat} (h : ItAt w k s pos) : w.iterPos k = pos := by
  have h : w.heap[k]? = _ := h
  simp [World.iterPos, h]
theorem ItAt.new (w : World) (s : ByteArray) : ItAt (w.iter s 0) w.heap.size s 0 := World.iter_heap w s 0
end Go.Proofs.Ytghhjonhmelohaa
