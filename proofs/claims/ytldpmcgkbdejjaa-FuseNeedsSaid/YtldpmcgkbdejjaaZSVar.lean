import Derived.Test.YtldpmcgkbdejjaaZRefClass
import Derived.Test.YtldpmcgkbdejjaaZSClose
import Derived.Deep.RegionWith
import Derived.Deep.RegionHeld3
import Derived.IntWalk
import Derived.Laws.CopyRow
import Derived.Laws.ResultCell
namespace Go.Proofs.Ytldpmcgkbdejjaa
open Go.RowKit
set_option linter.unusedVariables false
set_option linter.unusedSimpArgs false


end Go.Proofs.Ytldpmcgkbdejjaa

namespace Go.Proofs.Ytldpmcgkbdejjaa
open Go.RowKit Go.Maps Go.WideElems Go.ChangeMaps Go.MapKept
set_option linter.unusedVariables false
set_option linter.unusedSimpArgs false


end Go.Proofs.Ytldpmcgkbdejjaa

namespace Go.Proofs.Ytldpmcgkbdejjaa
open Go.RowKit Go.Maps Go.WideElems Go.ChangeMaps Go.MapKept
set_option linter.unusedVariables false
set_option linter.unusedSimpArgs false


end Go.Proofs.Ytldpmcgkbdejjaa

namespace Go.Proofs.Ytldpmcgkbdejjaa
open Go.RowKit Go.Maps Go.WideElems Go.ChangeMaps Go.MapKept
set_option linter.unusedVariables false
set_option linter.unusedSimpArgs false

theorem zero_run9 (w : World) : (zeroValue 26).run Try.prog w = .ok (.agg (zC 26)) w := by kernel_rfl
theorem info_dfa9 : (Try.prog.info? 26).map (·.size) = some 258 := by kernel_rfl
/-- A variable of a type whose zero is told. -/
theorem wpList_alloc9 {P : Program} {ops : Array Oper} {rest : List Oper} {o : Oper} {a : Act} {w : World} {Q : Exit → Act → World → Prop} (hgd : o.guard = none) (t : TypeId) (ho : o.op = .alloc t) (cs : Array Value) (hz : (zeroValue t).run P w = .ok (.agg cs) w)
    (h : wpList P ops Q rest (a.put o.dst (.pointer (some ⟨w.heap.size, 0, none⟩))) (w.alloc (.cells cs t))) : wpList P ops Q (o :: rest) a w :=
  wpList_plain hgd fun _ hK => by
    unfold Oper.wp execOp
    simp only [ho, Instr.alloc, Sem.run_bind, hz, Result.andThen_ok, newVar, newRow, newObj, Value.cells]
    exact hK _ _ h
/-- A store of a whole variable. -/
theorem wpList_store_var9 {P : Program} {ops : Array Oper} {rest : List Oper} {o : Oper} {a : Act} {w : World} {Q : Exit → Act → World → Prop} (hgd : o.guard = none) (ty : TypeId) (x v : Operand) (ho : o.op = .store ty x v) (g t : Nat) (old cs : Array Value) (hx : a.eval x = .pointer (some ⟨g, 0, none⟩)) (hv : a.eval v = .agg cs)
    (hst : w.heap[g]? = some (.cells old t (0, 0))) (hsz : old.size = cs.size) (hi : (P.info? ty).map (·.size) = some cs.size) (h1 : ∀ u ∈ cs.toList, u.oneCell' = true) (h : wpList P ops Q rest (a.put o.dst undef) (w.setRow g cs)) : wpList P ops Q (o :: rest) a w := by
  have hrun : (storeVar ty ⟨g, 0, none⟩ (.agg cs)).run P w = .ok () (w.setRow g cs) := by
    have hs : (sizeOf ty).run P w = .ok cs.size w := by
      cases hq : P.info? ty with
      | none => simp [hq] at hi
      | some inf =>
        have : inf.size = cs.size := by simpa [hq] using hi
        simp [sizeOf, typeInfo, hq, this]
    have := run_storeCells_at (P := P) g 0 t cs.toList 0 old w hst (by simp [hsz]) h1
    unfold storeVar
    simp only [Sem.run_bind, hs, Result.andThen_ok]
    rw [if_neg (show ¬ ((Value.agg cs).cells.size ≠ cs.size) from fun h => h rfl)]
    show (storeCells ⟨g, 0, none⟩ cs.toList).run P w = _
    rw [this]
    congr 2
    have hd : List.drop cs.size old.toList = [] := List.drop_of_length_le (by simp [hsz])
    simp [hd]
  exact wpList_plain hgd fun _ hK => by
    unfold Oper.wp execOp
    simp only [ho, hx, hv, Instr.storeAt, Instr.sureAddr, Sem.run_bind, Sem.run_pure, Result.andThen_ok, hrun]
    exact hK _ _ h
theorem St.setRow {w : World} {t g : Nat} {old cs : Array Value} (h : St w t g old) : St (w.setRow g cs) t g cs := setRow_heap w g old cs t (0, 0) h
theorem below_setRow9 {B : Nat} {w w' : World} {g : Nat} (h : Below B w w') (hg : B ≤ g) (cs : Array Value) : Below B w (w'.setRow g cs) :=
  ⟨h.os, h.tape, h.output, by rw [setRow_size]; exact h.size, fun k hk => by rw [setRow_other w' g k cs (by omega)]; exact h.block k hk⟩
theorem St.part {w : World} {t g : Nat} {cs : Array Value} (h : St w t g cs) : ∀ j v, cs.toList[j]? = some v → w.cell? ((⟨g, 0, none⟩ : Addr).add j) = some v := fun j v hj => by
  have e : (⟨g, 0, none⟩ : Addr).add j = ⟨g, j, none⟩ := by unfold Addr.add; split <;> simp_all
  rw [e, h.at_, ← Array.getElem?_toList, hj]
end Go.Proofs.Ytldpmcgkbdejjaa
