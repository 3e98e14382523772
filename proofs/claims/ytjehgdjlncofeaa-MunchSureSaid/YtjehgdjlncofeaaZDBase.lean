import Derived.Test.YtjehgdjlncofeaaRows
import Derived.Test.YtjehgdjlncofeaaChecked
import Derived.Test.YtjehgdjlncofeaaZNMath
import Derived.WalkKit
import Derived.ProofKit
import Derived.OpenShut
import Derived.ShutString
import Derived.ChangeOld
import Derived.ChangeMaps5
import Derived.Below
import Derived.Deep.Slices
import Derived.Deep.Fields
import Derived.ChangeSame
import Derived.WalkLawsBesides
import Derived.WalkSpells
import Derived.Outline
import Derived.Lib.Hide
import Derived.LoopTactic
import Derived.Laws.Rows
import Derived.Lib.Walk
import Derived.Deep.RegionWith
import Derived.Lib.OwnKind
import Derived.OwnWalk
import Derived.Laws.AppendOwn
import Derived.Deep.RegionHeld3
import Derived.Deep.DeepCutAuto
import Derived.Maps.OwnOps
import Derived.Maps.OwnSet
import Derived.DeepKeys4
import Derived.Laws.Cover3
namespace Go.Proofs.Ytjehgdjlncofeaa
open Go.ChangeShapes Go.WideShapes Go.ChangeAt Go.RowKit Go.Deep

theorem own : ownKnob Try.prog.godebug = none := by kernel_rfl
theorem laidOut : laidOutB Try.prog = true := by kernel_rfl
end Go.Proofs.Ytjehgdjlncofeaa

namespace Go.Proofs.Ytjehgdjlncofeaa
open Go.RowKit

theorem ownsRow_keep {w w' : World} {base : Nat} {e : TypeId} {size : Nat} {v : Value} {n : Nat} {xs : List Value} (h : w.ownsRow base e size v n xs) (k : Below w.heap.size w w') : w'.ownsRow base e size v n xs := by
  obtain ⟨h1, h2⟩ := h
  refine ⟨h1, ?_⟩
  rcases h2 with h2 | ⟨g, cap, cur, hv, hg, hh, r⟩
  · exact Or.inl h2
  · refine Or.inr ⟨g, cap, cur, hv, hg, ?_, r⟩
    rw [k.block g (Array.getElem?_eq_some_iff.1 hh).1]
    exact hh
theorem ownsRow_slice {w : World} {base : Nat} {e : TypeId} {size : Nat} {v : Value} {n : Nat} {xs : List Value} (h : w.ownsRow base e size v n xs) : ∃ a cap, v = .slice a n cap := by
  rcases h.2 with ⟨h1, h2⟩ | ⟨g, cap, cur, hv, _⟩
  · subst h2; exact ⟨_, _, h1⟩
  · exact ⟨_, _, hv⟩
theorem ownsRow_read {w : World} {base : Nat} {e : TypeId} {size : Nat} {a : Option Addr} {n cap : Nat} {xs : List Value} (h : w.ownsRow base e size (.slice a n cap) n xs) (hn : 0 < n) : ∃ g, a = some ⟨g, 0, none⟩ ∧ base ≤ g ∧ g < w.heap.size ∧ ∀ j, j < n * size → w.cell? ⟨g, j, none⟩ = xs[j]? ∧ w.frozen? ⟨g, j, none⟩ = false := by
  have h0 := h
  rcases h.2 with ⟨h1, h2⟩ | ⟨g, cap', cur, hv, hg, hh, _⟩
  · omega
  · simp at hv
    obtain ⟨rfl, rfl⟩ := hv
    exact ⟨g, rfl, hg, (Array.getElem?_eq_some_iff.1 hh).1, fun j hj => ⟨h0.cellAt j hj, h0.frozenAt j⟩⟩
theorem Try.info_u8 : (Try.prog.info? 5).map (fun i => (i.zero, i.size, i.bytes)) = some (some (.int .u8 0), 1, 1) := by kernel_rfl

/-- Numbers as bytes in memory. -/
def u8s (l : List Nat) : List Value := l.map fun n => .int .u8 ((n : Nat) : Int)
theorem u8s_length (l : List Nat) : (u8s l).length = l.length := by simp [u8s]
end Go.Proofs.Ytjehgdjlncofeaa

namespace Go.Proofs.Ytjehgdjlncofeaa
open Go.RowKit



end Go.Proofs.Ytjehgdjlncofeaa

namespace Go.Proofs.Ytjehgdjlncofeaa
open Go.RowKit





end Go.Proofs.Ytjehgdjlncofeaa

namespace Go.Proofs.Ytjehgdjlncofeaa
open Go.RowKit



end Go.Proofs.Ytjehgdjlncofeaa

namespace Go.Proofs.Ytjehgdjlncofeaa
open Go.RowKit


end Go.Proofs.Ytjehgdjlncofeaa

namespace Go.Proofs.Ytjehgdjlncofeaa
open Go.RowKit
set_option linter.unusedVariables false





end Go.Proofs.Ytjehgdjlncofeaa

namespace Go.Proofs.Ytjehgdjlncofeaa
open Go.RowKit
set_option linter.unusedVariables false

end Go.Proofs.Ytjehgdjlncofeaa

namespace Go.Proofs.Ytjehgdjlncofeaa
open Go.RowKit Go.Maps Go.WideElems Go.ChangeMaps Go.MapKept
set_option linter.unusedVariables false

/-! ### What a call leaves as it was -/
/-- Every block of w stands in w', but for rows of the types ts, and the blocks bs. -/
def Kept (ts : List TypeId) (bs : List Nat) (w w' : World) : Prop :=
  ∀ k o, w.heap[k]? = some o → (∀ c e fz, o = .cells c e fz → e ∉ ts) → k ∉ bs → w'.heap[k]? = some o
theorem St.kept {w w' : World} {t g : Nat} {cs : Array Value} {ts : List TypeId} {bs : List Nat} (h : St w t g cs) (k : Kept ts bs w w') (ht : t ∉ ts) (hg : g ∉ bs) : St w' t g cs :=
  k g _ h (fun c e fz e0 => by injection e0 with _ e1; subst e1; exact ht) hg

/-! ### A map of the call's own, by what holds of its entries -/
/-! ### Behind an append to a row of the call's own, and behind a store into a map -/

/-! ### .. and by all that it should hold -/

/-! ### Keys -/
end Go.Proofs.Ytjehgdjlncofeaa
