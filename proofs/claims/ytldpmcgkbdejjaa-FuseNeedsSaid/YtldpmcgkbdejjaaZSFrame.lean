import Derived.Test.YtldpmcgkbdejjaaZClasses
import Derived.Test.YtldpmcgkbdejjaaZNNew
import Derived.Test.YtldpmcgkbdejjaaZSClose
import Derived.Test.YtldpmcgkbdejjaaZSLeadN
import Derived.Test.YtldpmcgkbdejjaaZSVar
import Derived.Test.YtldpmcgkbdejjaaZTok
import Derived.Deep.RegionWith
import Derived.Deep.AppendLies
import Derived.Deep.RegionHeld3
import Derived.Deep.DeepCutAuto
import Derived.BigQuiet
import Derived.Deep.QuietTactic
import Derived.Maps.AppendAt
namespace Go.Proofs.Ytldpmcgkbdejjaa
open Go.ChangeShapes Go.WideShapes Go.ChangeAt Go.RowKit Go.Deep
set_option linter.unusedVariables false
set_option maxRecDepth 100000


end Go.Proofs.Ytldpmcgkbdejjaa

namespace Go.Proofs.Ytldpmcgkbdejjaa
open Go.ChangeShapes Go.WideShapes Go.ChangeAt Go.RowKit Go.Deep
set_option linter.unusedVariables false
set_option maxRecDepth 100000

end Go.Proofs.Ytldpmcgkbdejjaa

namespace Go.Proofs.Ytldpmcgkbdejjaa
open Go.RowKit Go.Maps Go.WideElems Go.ChangeMaps Go.MapKept
set_option linter.unusedVariables false
set_option linter.unusedSimpArgs false


end Go.Proofs.Ytldpmcgkbdejjaa

namespace Go.Proofs.Ytldpmcgkbdejjaa
open Go.RowKit Go.Maps Go.WideElems Go.ChangeMaps Go.MapKept
set_option linter.unusedVariables false
set_option linter.unusedSimpArgs false




end Go.Proofs.Ytldpmcgkbdejjaa

namespace Go.Proofs.Ytldpmcgkbdejjaa
set_option linter.unusedVariables false
set_option linter.unusedSimpArgs false

end Go.Proofs.Ytldpmcgkbdejjaa

namespace Go.Proofs.Ytldpmcgkbdejjaa
open Go.RowKit Go.Maps Go.WideElems Go.ChangeMaps Go.MapKept
set_option linter.unusedVariables false
set_option linter.unusedSimpArgs false

theorem kept_setRow9 (w : World) (b : Nat) (cs : Array Value) : Kept [] [b] w (w.setRow b cs) := fun k o hk _ hn => by
  rw [setRow_other w b k cs (by simpa using hn)]
  exact hk

end Go.Proofs.Ytldpmcgkbdejjaa

namespace Go.Proofs.Ytldpmcgkbdejjaa
open Go.RowKit
set_option linter.unusedVariables false
set_option linter.unusedSimpArgs false

end Go.Proofs.Ytldpmcgkbdejjaa

namespace Go.Proofs.Ytldpmcgkbdejjaa
open Go.RowKit Go.Maps Go.WideElems Go.ChangeMaps Go.MapKept
set_option linter.unusedVariables false
set_option linter.unusedSimpArgs false




end Go.Proofs.Ytldpmcgkbdejjaa

namespace Go.Proofs.Ytldpmcgkbdejjaa
open Go.RowKit Go.Maps Go.WideElems Go.ChangeMaps Go.MapKept
set_option linter.unusedVariables false
set_option linter.unusedSimpArgs false


end Go.Proofs.Ytldpmcgkbdejjaa

namespace Go.Proofs.Ytldpmcgkbdejjaa
open Go.RowKit Go.Maps Go.WideElems Go.ChangeMaps Go.MapKept
set_option linter.unusedVariables false
set_option linter.unusedSimpArgs false

end Go.Proofs.Ytldpmcgkbdejjaa

namespace Go.Proofs.Ytldpmcgkbdejjaa
open Go.RowKit Go.Maps Go.WideElems Go.ChangeMaps Go.MapKept
set_option linter.unusedVariables false
set_option linter.unusedSimpArgs false

/-- A row is put behind. -/
theorem GridOw.pushRow {w w' : World} {B ts te sz M : Nat} {v v' u : Value} {vs : Nat → Value} {len : Nat → Nat} {xs : Nat → List Value} (h : GridOw w B ts te sz v M vs len xs) (ht : te ≠ ts) (hu : w.ownsRow B te sz u (len M) (xs M)) (hs : ∀ i, i < M → ∀ b, (vs i).ownBlock = some b → u.ownBlock ≠ some b)
    (ho : w'.ownsRow B ts 1 v' (M + 1) ((List.range M).map vs ++ [u])) (hg : w.grownBy w' v.ownBlock) : GridOw w' B ts te sz v' (M + 1) (fun j => if j = M then u else vs j) len xs := by
  refine ⟨?_, fun i hi => ?_, fun i j hi hj hij b => ?_⟩
  · have e : (List.range (M + 1)).map (fun j => if j = M then u else vs j) = (List.range M).map vs ++ [u] := by
      rw [List.range_succ, List.map_append]
      congr 1
      · refine List.map_congr_left fun j hj => ?_
        have : j < M := by simpa using hj
        rw [if_neg (by omega)]
      · simp
    rw [e]
    exact ho
  · by_cases e : i = M
    · subst e
      simp only [if_pos rfl]
      exact own_grown hu hg (fun b e1 e2 => own_kinds hu h.own ht b e1 e2.symm)
    · simp only [if_neg e]
      exact own_grown (h.row i (by omega)) hg (fun b e1 e2 => own_kinds (h.row i (by omega)) h.own ht b e1 e2.symm)
  · by_cases e1 : i = M
    · by_cases e2 : j = M
      · omega
      · simp only [if_pos e1, if_neg e2]
        intro e3 e4
        exact hs j (by omega) b e4 e3
    · by_cases e2 : j = M
      · simp only [if_neg e1, if_pos e2]
        exact hs i (by omega) b
      · simp only [if_neg e1, if_neg e2]
        exact h.sep i j (by omega) (by omega) hij b

end Go.Proofs.Ytldpmcgkbdejjaa

namespace Go.Proofs.Ytldpmcgkbdejjaa
open Go.RowKit Go.Maps Go.WideElems Go.ChangeMaps Go.MapKept
set_option linter.unusedVariables false
set_option linter.unusedSimpArgs false

theorem own_lt9 {w : World} {B t s n : Nat} {v : Value} {xs : List Value} (ho : w.ownsRow B t s v n xs) : ∀ g, v.ownBlock = some g → g < w.heap.size := fun g e => by
  obtain ⟨c, fz, hc⟩ := own_kind ho g e
  exact (Array.getElem?_eq_some_iff.1 hc).1
section
variable {W0 : World} {z N C : Nat} {rp : List Nat} {vP vR : Value} {SS : List (Nat → Bool)} {vs : Nat → Value} {vN : Value} {R : List (List Int)} {ws : Nat → Value} {vO : Value} {ms : List Int} {vW : Value} {row : List Int} {w : World}
end
end Go.Proofs.Ytldpmcgkbdejjaa

namespace Go.Proofs.Ytldpmcgkbdejjaa
open Go.RowKit Go.Maps Go.WideElems Go.ChangeMaps Go.MapKept
set_option linter.unusedVariables false
set_option linter.unusedSimpArgs false

end Go.Proofs.Ytldpmcgkbdejjaa

namespace Go.Proofs.Ytldpmcgkbdejjaa
open Go.RowKit Go.Maps Go.WideElems Go.ChangeMaps Go.MapKept
set_option linter.unusedVariables false
set_option linter.unusedSimpArgs false

def slA : Value → Option Addr
  | .slice a _ _ => a
  | _ => none
def slC : Value → Nat
  | .slice _ _ c => c
  | _ => 0
/-- Rows of numbers that were built, as they are read. -/
theorem GridOw.zs {w : World} {B k c C : Nat} {a : Option Addr} {ws : Nat → Value} {R : List (List Int)} (h : GridOw w B 24 3 1 (.slice a k c) k ws (fun _ => C) (fun j => ints (R.getD j []))) (hk : R.length = k) (hl : ∀ r ∈ R, r.length = C) :
    ZsAt w a k (fun i => slA (ws i)) (fun i => slC (ws i)) (fun _ => C) (fun i x => (R.getD i []).getD x 0) := by
  intro h0
  obtain ⟨g, rfl, _, hg, hc⟩ := ownsRow_read h.own h0
  refine ⟨g, 0, rfl, hg, fun i hi => ?_⟩
  obtain ⟨ai, ci, e⟩ := ownsRow_slice (h.row i hi)
  have hr := h.row i hi
  refine ⟨?_, fun h1 => ?_⟩
  · rw [Nat.zero_add, (hc i (by omega)).1]
    simp [hi, e, slA, slC]
  · rw [e] at hr
    obtain ⟨g2, e2, _, hg2, hc2⟩ := ownsRow_read hr h1
    refine ⟨g2, 0, by simp [e, slA, e2], hg2, fun j hj => ?_⟩
    rw [Nat.zero_add, (hc2 j (by simpa using hj)).1]
    have hi2 : i < R.length := by omega
    have hj2 : j < R[i].length := by rw [hl _ (List.getElem_mem hi2)]; exact hj
    simp [ints, List.getD_eq_getElem?_getD, hi2, hj2]
theorem own_zat {w : World} {B n c : Nat} {a : Option Addr} {l : List Int} (h : w.ownsRow B 3 1 (.slice a n c) n (ints l)) (hl : l.length = n) : ZAt w a n (fun i => l.getD i 0) := by
  intro h0
  obtain ⟨g, rfl, _, hg, hc⟩ := ownsRow_read h h0
  refine ⟨g, 0, rfl, hg, fun j hj => ?_⟩
  rw [Nat.zero_add, (hc j (by omega)).1]
  have hj2 : j < l.length := by omega
  simp [ints, List.getD_eq_getElem?_getD, hj2]
end Go.Proofs.Ytldpmcgkbdejjaa
