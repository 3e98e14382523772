import Derived.Test.YtldpmcgkbdejjaaChecked
import Derived.Laws.Bits64b
import Derived.Laws.BitsAllLaws
import Derived.WalkKit
import Derived.WalkLawsBesides
import Derived.WalkSpells
import Derived.Outline
import Derived.Below
import Derived.Lib.Hide
import Derived.RegionTactic
import Derived.Laws.Rows
namespace Go.Proofs.Ytldpmcgkbdejjaa



end Go.Proofs.Ytldpmcgkbdejjaa

namespace Go.Proofs.Ytldpmcgkbdejjaa
open Go.RowKit


end Go.Proofs.Ytldpmcgkbdejjaa

namespace Go.Proofs.Ytldpmcgkbdejjaa
open Go.RowKit

/-- Block g is cells cs of type t. -/
def St (w : World) (t g : Nat) (cs : Array Value) : Prop := w.heap[g]? = some (.cells cs t (0, 0))
theorem St.lt {w : World} {t g : Nat} {cs : Array Value} (h : St w t g cs) : g < w.heap.size := (Array.getElem?_eq_some_iff.1 h).1
theorem St.set {w : World} {t g : Nat} {cs : Array Value} (h : St w t g cs) (i : Nat) (u : Value) : St (w.setCell ⟨g, i, none⟩ u) t g (cs.setIfInBounds i u) := heap_setCell_same w g i cs t u h
theorem St.far {w : World} {t g : Nat} {cs : Array Value} (h : St w t g cs) {p : Addr} (hp : g ≠ p.block) (u : Value) : St (w.setCell p u) t g cs := (Below.heap_setCell w p u g hp).trans h
theorem St.below {w w' : World} {t g B : Nat} {cs : Array Value} (h : St w t g cs) (k : Below B w w') (hg : g < B) : St w' t g cs := (k.block g hg).trans h
theorem St.keep {w w' : World} {t g : Nat} {cs : Array Value} (h : St w t g cs) (k : Below w.heap.size w w') : St w' t g cs := h.below k h.lt
theorem St.new (w : World) (t : Nat) (cs : Array Value) : St (w.alloc (.cells cs t)) t w.heap.size cs := by
  show (w.heap.push _)[w.heap.size]? = _
  rw [Array.getElem?_push, if_pos rfl]
theorem St.alloc {w : World} {t g : Nat} {cs : Array Value} (h : St w t g cs) (o : Obj) : St (w.alloc o) t g cs := (Below.heap_alloc w o g h.lt).trans h



end Go.Proofs.Ytldpmcgkbdejjaa

namespace Go.Proofs.Ytldpmcgkbdejjaa
set_option linter.unusedVariables false


/-! ### New names -/

/-! ### Rounds over all edges -/
end Go.Proofs.Ytldpmcgkbdejjaa
