import Derived.Test.YtjehgdjlncofeaaZClasses
import Derived.Test.YtjehgdjlncofeaaZDBase
import Derived.Test.YtjehgdjlncofeaaZNMath
import Derived.Test.YtjehgdjlncofeaaZNNew
import Derived.Test.YtjehgdjlncofeaaZNRClose
import Derived.Test.YtjehgdjlncofeaaZSLeadN
import Derived.Deep.RegionWith
import Derived.Maps.AppendAt
import Derived.Deep.AppendLies
import Derived.BigQuiet
import Derived.Deep.QuietTactic
import Derived.Deep.RegionHeld3
namespace Go.Proofs.Ytjehgdjlncofeaa
open Go.RowKit Go.Maps Go.WideElems Go.ChangeMaps Go.MapKept
set_option linter.unusedVariables false
set_option linter.unusedSimpArgs false

end Go.Proofs.Ytjehgdjlncofeaa

namespace Go.Proofs.Ytjehgdjlncofeaa
open Go.RowKit Go.Maps Go.WideElems Go.ChangeMaps Go.MapKept
set_option linter.unusedVariables false
set_option linter.unusedSimpArgs false


end Go.Proofs.Ytjehgdjlncofeaa

namespace Go.Proofs.Ytjehgdjlncofeaa
open Go.RowKit Go.Maps Go.WideElems Go.ChangeMaps Go.MapKept
set_option linter.unusedVariables false
set_option linter.unusedSimpArgs false



end Go.Proofs.Ytjehgdjlncofeaa

namespace Go.Proofs.Ytjehgdjlncofeaa
open Go.RowKit Go.Maps Go.WideElems Go.ChangeMaps Go.MapKept
set_option linter.unusedVariables false
set_option linter.unusedSimpArgs false
set_option maxRecDepth 100000

/-! ### A map by sets -/
end Go.Proofs.Ytjehgdjlncofeaa

namespace Go.Proofs.Ytjehgdjlncofeaa
open Go.RowKit Go.Maps Go.WideElems Go.ChangeMaps Go.MapKept
set_option linter.unusedVariables false
set_option linter.unusedSimpArgs false


end Go.Proofs.Ytjehgdjlncofeaa

namespace Go.Proofs.Ytjehgdjlncofeaa
open Go.RowKit Go.Maps Go.WideElems Go.ChangeMaps Go.MapKept
set_option linter.unusedVariables false
set_option linter.unusedSimpArgs false

end Go.Proofs.Ytjehgdjlncofeaa

namespace Go.Proofs.Ytjehgdjlncofeaa
open Go.RowKit Go.Maps Go.WideElems Go.ChangeMaps Go.MapKept
set_option linter.unusedVariables false
set_option linter.unusedSimpArgs false

/-- Cells are put into others. -/
def putAt (cells vs : Array Value) (off : Nat) : Array Value := vs.zipIdx.foldl (fun cs (c, j) => cs.setIfInBounds (off + j) c) cells
theorem putL (l : List Value) (off : Nat) : ∀ (k : Nat) (cells : Array Value), ((l.zipIdx k).foldl (fun (cs : Array Value) (x : Value × Nat) => cs.setIfInBounds (off + x.2) x.1) cells).size = cells.size ∧
    ∀ i, ((l.zipIdx k).foldl (fun (cs : Array Value) (x : Value × Nat) => cs.setIfInBounds (off + x.2) x.1) cells)[i]? = if off + k ≤ i ∧ i < off + k + l.length ∧ i < cells.size then l[i - (off + k)]? else cells[i]? := by
  induction l with
  | nil => intro k cells; exact ⟨rfl, fun i => by rw [if_neg (by simp; omega)]; rfl⟩
  | cons v l ih =>
    intro k cells
    rw [List.zipIdx_cons, List.foldl_cons]
    obtain ⟨h1, h2⟩ := ih (k + 1) (cells.setIfInBounds (off + k) v)
    refine ⟨by rw [h1]; simp, fun i => ?_⟩
    rw [h2 i, Array.size_setIfInBounds]
    by_cases e : i = off + k
    · subst e
      rw [if_neg (by omega)]
      by_cases hlt : off + k < cells.size
      · rw [if_pos ⟨Nat.le_refl _, by simp, hlt⟩, Array.getElem?_setIfInBounds_self_of_lt hlt]
        simp
      · rw [if_neg (by omega), Array.getElem?_eq_none_iff.2 (by simp; omega), Array.getElem?_eq_none_iff.2 (by omega)]
    · by_cases hc : off + (k + 1) ≤ i ∧ i < off + (k + 1) + l.length ∧ i < cells.size
      · rw [if_pos hc, if_pos ⟨by omega, by simp; omega, hc.2.2⟩]
        have : i - (off + k) = (i - (off + (k + 1))) + 1 := by omega
        rw [this, List.getElem?_cons_succ]
      · rw [if_neg hc, Array.getElem?_setIfInBounds_ne (by omega)]
        rw [if_neg (by simp only [List.length_cons]; omega)]
theorem putAt_get (cells vs : Array Value) (off : Nat) (h : off + vs.size ≤ cells.size) : (putAt cells vs off).size = cells.size ∧ ∀ i, (putAt cells vs off)[i]? = if off ≤ i ∧ i < off + vs.size then vs[i - off]? else cells[i]? := by
  have e : putAt cells vs off = (vs.toList.zipIdx 0).foldl (fun (cs : Array Value) (x : Value × Nat) => cs.setIfInBounds (off + x.2) x.1) cells := by
    unfold putAt
    rw [← Array.foldl_toList, Array.toList_zipIdx]
  obtain ⟨h1, h2⟩ := putL vs.toList off 0 cells
  rw [e]
  refine ⟨h1, fun i => ?_⟩
  rw [h2 i, Nat.add_zero]
  by_cases hc : off ≤ i ∧ i < off + vs.size
  · rw [if_pos hc, if_pos ⟨hc.1, by simpa using hc.2, by omega⟩, Array.getElem?_toList]
  · rw [if_neg hc, if_neg (fun h3 => hc ⟨h3.1, by simpa using h3.2.1⟩)]
theorem fill_put (place : Nat → Option (Nat × Nat)) (cells : Array Value) (i off size : Nat) (v : Value) (rest : List (Nat × Value)) (hp : place i = some (off, size)) (hv : v.cells.size = size) (hs : off + size ≤ cells.size) :
    Instr.fill place cells ((i, v) :: rest) = Instr.fill place (putAt cells v.cells off) rest := by
  rw [Instr.fill, hp]
  simp only [hv]
  rw [if_neg (by simp; omega)]
  rfl
/-- The zero of a type, in cells. -/
noncomputable def zC (t : TypeId) : Array Value := match Try.prog.info? t with
  | some it => match it.zero with | some z => z.cells | none => #[]
  | none => #[]
theorem zDfa_size : (zC 26).size = 258 := by kernel_rfl
theorem zDfa_tail : (zC 26)[256]? = some (.slice none 0 0) ∧ (zC 26)[257]? = some (.slice none 0 0) := ⟨by kernel_rfl, by kernel_rfl⟩
/-- A value is built, by a law of one's own. -/
theorem wpList_build9 {P : Program} {ops : Array Oper} {rest : List Oper} {o : Oper} {a : Act} {w : World} {Q : Exit → Act → World → Prop} (hgd : o.guard = none) (t : TypeId) (parts : Array (Nat × Operand)) (ho : o.op = .build t parts) (ps : Array (Nat × Value)) (hp : (parts.map fun (i, x) => (i, a.eval x)) = ps) (v : Value)
    (hb : (Instr.build t ps).run P w = .ok v w) (h : wpList P ops Q rest (a.put o.dst v) w) : wpList P ops Q (o :: rest) a w :=
  wpList_plain hgd fun _ hK => by
    unfold Oper.wp execOp
    simp only [ho, hp, Sem.run_bind, hb, Result.andThen_ok]
    exact hK _ _ h
end Go.Proofs.Ytjehgdjlncofeaa

namespace Go.Proofs.Ytjehgdjlncofeaa
open Go.RowKit
set_option linter.unusedVariables false


end Go.Proofs.Ytjehgdjlncofeaa

namespace Go.Proofs.Ytjehgdjlncofeaa
open Go.RowKit Go.Maps

/-- Do the first i sets hold both or neither? -/
def same (s : Nat → Nat → Bool) (b c : Nat) : Nat → Bool
  | 0 => true
  | i + 1 => same s b c i && (s i b == s i c)

end Go.Proofs.Ytjehgdjlncofeaa
