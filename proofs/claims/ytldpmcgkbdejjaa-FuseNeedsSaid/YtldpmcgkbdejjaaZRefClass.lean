import Derived.Test.YtldpmcgkbdejjaaZClasses
import Derived.Test.YtldpmcgkbdejjaaZDBase
import Derived.Test.YtldpmcgkbdejjaaZNMath
import Derived.Test.YtldpmcgkbdejjaaZNNew
import Derived.Test.YtldpmcgkbdejjaaZNRClose
import Derived.Test.YtldpmcgkbdejjaaZSLeadN
import Derived.Deep.RegionWith
import Derived.Maps.AppendAt
import Derived.Deep.AppendLies
import Derived.BigQuiet
import Derived.Deep.QuietTactic
import Derived.Deep.RegionHeld3
namespace Go.Proofs.Ytldpmcgkbdejjaa
open Go.RowKit Go.Maps Go.WideElems Go.ChangeMaps Go.MapKept
set_option linter.unusedVariables false
set_option linter.unusedSimpArgs false

/-- Rows of rows that grow. -/
structure GridOw (w : World) (B ts te sz : Nat) (v : Value) (M : Nat) (vs : Nat → Value) (len : Nat → Nat) (xs : Nat → List Value) : Prop where
  own : w.ownsRow B ts 1 v M ((List.range M).map vs)
  row : ∀ i, i < M → w.ownsRow B te sz (vs i) (len i) (xs i)
  sep : ∀ i j, i < M → j < M → i ≠ j → ∀ b, (vs i).ownBlock = some b → (vs j).ownBlock ≠ some b
theorem GridOw.keep {w w' : World} {B ts te sz M : Nat} {v : Value} {vs : Nat → Value} {len : Nat → Nat} {xs : Nat → List Value} (h : GridOw w B ts te sz v M vs len xs) (k : Below w.heap.size w w') : GridOw w' B ts te sz v M vs len xs :=
  ⟨ownsRow_keep h.own k, fun i hi => ownsRow_keep (h.row i hi) k, h.sep⟩
theorem GridOw.congr {w : World} {B ts te sz M : Nat} {v : Value} {vs : Nat → Value} {len len' : Nat → Nat} {xs xs' : Nat → List Value} (h : GridOw w B ts te sz v M vs len xs) (e : ∀ i, i < M → len i = len' i ∧ xs i = xs' i) : GridOw w B ts te sz v M vs len' xs' :=
  ⟨h.own, fun i hi => by rw [← (e i hi).1, ← (e i hi).2]; exact h.row i hi, h.sep⟩
theorem GridOw.lt {w : World} {B ts te sz M : Nat} {v : Value} {vs : Nat → Value} {len : Nat → Nat} {xs : Nat → List Value} (h : GridOw w B ts te sz v M vs len xs) : (∀ b, v.ownBlock = some b → b < w.heap.size) ∧ ∀ i, i < M → ∀ b, (vs i).ownBlock = some b → b < w.heap.size := by
  have own : ∀ {t s n : Nat} {v : Value} {xs : List Value}, w.ownsRow B t s v n xs → ∀ g, v.ownBlock = some g → g < w.heap.size := fun ho g e => by
    obtain ⟨c, fz, hc⟩ := own_kind ho g e
    exact (Array.getElem?_eq_some_iff.1 hc).1
  exact ⟨own h.own, fun i hi => own (h.row i hi)⟩
end Go.Proofs.Ytldpmcgkbdejjaa

namespace Go.Proofs.Ytldpmcgkbdejjaa
open Go.RowKit Go.Maps Go.WideElems Go.ChangeMaps Go.MapKept
set_option linter.unusedVariables false
set_option linter.unusedSimpArgs false


end Go.Proofs.Ytldpmcgkbdejjaa

namespace Go.Proofs.Ytldpmcgkbdejjaa
open Go.RowKit Go.Maps Go.WideElems Go.ChangeMaps Go.MapKept
set_option linter.unusedVariables false
set_option linter.unusedSimpArgs false



end Go.Proofs.Ytldpmcgkbdejjaa

namespace Go.Proofs.Ytldpmcgkbdejjaa
open Go.RowKit Go.Maps Go.WideElems Go.ChangeMaps Go.MapKept
set_option linter.unusedVariables false
set_option linter.unusedSimpArgs false
set_option maxRecDepth 100000

/-! ### A map by sets -/
end Go.Proofs.Ytldpmcgkbdejjaa

namespace Go.Proofs.Ytldpmcgkbdejjaa
open Go.RowKit Go.Maps Go.WideElems Go.ChangeMaps Go.MapKept
set_option linter.unusedVariables false
set_option linter.unusedSimpArgs false


end Go.Proofs.Ytldpmcgkbdejjaa

namespace Go.Proofs.Ytldpmcgkbdejjaa
open Go.RowKit Go.Maps Go.WideElems Go.ChangeMaps Go.MapKept
set_option linter.unusedVariables false
set_option linter.unusedSimpArgs false

end Go.Proofs.Ytldpmcgkbdejjaa

namespace Go.Proofs.Ytldpmcgkbdejjaa
open Go.RowKit Go.Maps Go.WideElems Go.ChangeMaps Go.MapKept
set_option linter.unusedVariables false
set_option linter.unusedSimpArgs false

/-- Cells are put into others. -/
def putAt (cells vs : Array Value) (off : Nat) : Array Value := vs.zipIdx.foldl (fun cs (c, j) => cs.setIfInBounds (off + j) c) cells
theorem putL (l : List Value) (off : Nat) : ∀ (k : Nat) (cells : Array Value), ((l.zipIdx k).foldl (fun (cs : Array Value) (x : Value × Nat) => cs.setIfInBounds (off + x.2) x.1) cells).size = cells.size ∧
    ∀ i, ((l.zipIdx k).foldl (fun (cs : Array Value) (x : Value × Nat) => cs.setIfInBounds (off + x.2) x.1) cells)[i]? = if off + k ≤ i ∧ i < off + k + l.length ∧ i < cells.size then l[i - (off + k)]? else cells[i]? := by
  induction l with
  | nil => intro k cells; exact ⟨rfl, fun i => by rw [if_neg (by simp; omega)]; rfl⟩
  | cons v l ih =>
    intro k cells
    rw [List.zipIdx_cons, List.foldl_cons]
    obtain ⟨h1, h2⟩ := ih (k + 1) (cells.setIfInBounds (off + k) v)
    refine ⟨by rw [h1]; simp, fun i => ?_⟩
    rw [h2 i, Array.size_setIfInBounds]
    by_cases e : i = off + k
    · subst e
      rw [if_neg (by omega)]
      by_cases hlt : off + k < cells.size
      · rw [if_pos ⟨Nat.le_refl _, by simp, hlt⟩, Array.getElem?_setIfInBounds_self_of_lt hlt]
        simp
      · rw [if_neg (by omega), Array.getElem?_eq_none_iff.2 (by simp; omega), Array.getElem?_eq_none_iff.2 (by omega)]
    · by_cases hc : off + (k + 1) ≤ i ∧ i < off + (k + 1) + l.length ∧ i < cells.size
      · rw [if_pos hc, if_pos ⟨by omega, by simp; omega, hc.2.2⟩]
        have : i - (off + k) = (i - (off + (k + 1))) + 1 := by omega
        rw [this, List.getElem?_cons_succ]
      · rw [if_neg hc, Array.getElem?_setIfInBounds_ne (by omega)]
        rw [if_neg (by simp only [List.length_cons]; omega)]
theorem putAt_get (cells vs : Array Value) (off : Nat) (h : off + vs.size ≤ cells.size) : (putAt cells vs off).size = cells.size ∧ ∀ i, (putAt cells vs off)[i]? = if off ≤ i ∧ i < off + vs.size then vs[i - off]? else cells[i]? := by
  have e : putAt cells vs off = (vs.toList.zipIdx 0).foldl (fun (cs : Array Value) (x : Value × Nat) => cs.setIfInBounds (off + x.2) x.1) cells := by
    unfold putAt
    rw [← Array.foldl_toList, Array.toList_zipIdx]
  obtain ⟨h1, h2⟩ := putL vs.toList off 0 cells
  rw [e]
  refine ⟨h1, fun i => ?_⟩
  rw [h2 i, Nat.add_zero]
  by_cases hc : off ≤ i ∧ i < off + vs.size
  · rw [if_pos hc, if_pos ⟨hc.1, by simpa using hc.2, by omega⟩, Array.getElem?_toList]
  · rw [if_neg hc, if_neg (fun h3 => hc ⟨h3.1, by simpa using h3.2.1⟩)]
theorem fill_put (place : Nat → Option (Nat × Nat)) (cells : Array Value) (i off size : Nat) (v : Value) (rest : List (Nat × Value)) (hp : place i = some (off, size)) (hv : v.cells.size = size) (hs : off + size ≤ cells.size) :
    Instr.fill place cells ((i, v) :: rest) = Instr.fill place (putAt cells v.cells off) rest := by
  rw [Instr.fill, hp]
  simp only [hv]
  rw [if_neg (by simp; omega)]
  rfl
/-- The zero of a type, in cells. -/
noncomputable def zC (t : TypeId) : Array Value := match Try.prog.info? t with
  | some it => match it.zero with | some z => z.cells | none => #[]
  | none => #[]
theorem zDfa_size : (zC 26).size = 258 := by kernel_rfl
theorem zDfa_tail : (zC 26)[256]? = some (.slice none 0 0) ∧ (zC 26)[257]? = some (.slice none 0 0) := ⟨by kernel_rfl, by kernel_rfl⟩
end Go.Proofs.Ytldpmcgkbdejjaa

namespace Go.Proofs.Ytldpmcgkbdejjaa
open Go.RowKit
set_option linter.unusedVariables false


end Go.Proofs.Ytldpmcgkbdejjaa

namespace Go.Proofs.Ytldpmcgkbdejjaa
open Go.RowKit Go.Maps

/-- Do the first i sets hold both or neither? -/
def same (s : Nat → Nat → Bool) (b c : Nat) : Nat → Bool
  | 0 => true
  | i + 1 => same s b c i && (s i b == s i c)

end Go.Proofs.Ytldpmcgkbdejjaa
