import Derived.Test.YthidhkaeebakjaaStart
import Derived.Lib.OwnKind
import Derived.OwnWalk
import Derived.Laws.AppendOwn
import Derived.Deep.RegionHeld3
import Derived.Deep.DeepCutAuto
namespace Go.Proofs.Ythidhkaeebakjaa
open Go.RowKit
set_option linter.unusedVariables false

theorem Try.info_rx : (Try.prog.info? 69).map (fun i => (i.zero, i.size, i.bytes)) = some (some (.slice none 0 0), 1, 24) := by kernel_rfl

/-- What Parts gives back: slices of the same list. -/
def PartsPost (vs : List Value) (w : World) (e : Ending) (w' : World) : Prop := ∃ a cap, e = .returned (.slice a vs.length cap) ∧ w'.ownsRow w.heap.size 69 1 (.slice a vs.length cap) vs.length vs ∧ Below w.heap.size w w'
/-- A row in a new block is the call's own. -/
theorem own_lit (w : World) (base : Nat) (e : TypeId) (size : Nat) (cs : Array Value) (n : Nat) (hn : cs.size = n * size) (hb : base ≤ w.heap.size) (hm : n ≤ maxLen) : (w.alloc (.cells cs e)).ownsRow base e size (.slice (some ⟨w.heap.size, 0, none⟩) n n) n cs.toList :=
  ⟨by simpa using hn, Or.inr ⟨w.heap.size, n, cs, rfl, hb, St.new w e cs, Nat.le_refl _, hm, hn, by rw [← hn]; exact List.take_of_length_le (by simp)⟩⟩
theorem takes_wf (t : Rx) (hw : t.wf) : ∀ x ∈ t.flat, 0 ≤ takesZ x.k := by
  induction t with
  | leaf x => intro y hy; simp [Rx.flat] at hy; subst hy; rw [hw.1]; omega
  | un x a ih =>
    intro y hy
    simp [Rx.flat] at hy
    rcases hy with hy | rfl
    · exact ih hw.2.2 y hy
    · rw [hw.1]; omega
  | bin x a b iha ihb =>
    intro y hy
    simp [Rx.flat] at hy
    rcases hy with hy | hy | rfl
    · exact iha hw.2.2.1 y hy
    · exact ihb hw.2.2.2 y hy
    · rw [hw.1]; omega



end Go.Proofs.Ythidhkaeebakjaa
