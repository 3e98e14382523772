import Derived.Test.YtiijebameffenaaGreatZA
import Derived.Below
import Derived.Deep.RegionHeld3
import Derived.Lib.Hide
import Derived.WalkKit
namespace Go.Proofs.YtiijebameffenaaGreat
open Go.RowKit
open Region (free noSelect ready wanted)
variable {a: Act}{cG: Array Bool}{fuel: Nat}{oi: Oper}{w: World}
set_option linter.unusedVariables false

variable {P : Program}{md : Region.Mode}{ops : Array Oper}{Q : Exit → Act → World → Prop}{S : World → Prop}
theorem ay(i : Nat){v : Value}
    (h : wpAnyH P md ops Q S fuel (cG.setIfInBounds i true) (a.put oi.dst v) w)
    (hi : ops[i]? = some oi := by (simp only [List.getElem?_toArray, List.getElem?_cons_succ, List.getElem?_cons_zero]); first | done | rfl)
    (hs : noSelect ops = true := by kernel_rfl) (hf : free md ops cG i = true := by kernel_rfl) (hr : (ready md ops cG).contains i = true := by kernel_rfl)
    (hQ : ∀ c a w, Q (.panic c) (a.put oi.dst v) w → Q (.panic c) a w := by exact fun _ _ _ h => h) (hS : S w := by assumption)
    (hw : wanted oi (yielded ops a.tmps) = true := by rfl)
    (hy : ∀ w, S w → (execOp a.eval oi).run P w = .ok (.value v) w := by intro wz hSw; (try simp only [Act.put, List.setIfInBounds_toArray, List.set_cons_zero, List.set_cons_succ]); (try dsimp only at hSw); go_simp; first | done | with_reducible rfl) : wpAnyH P md ops Q S (fuel + 1) cG a w :=
  wpAnyH_take hi hs hf hr hQ (Or.inl ⟨hw, hy⟩) hS h
theorem bS(i : Nat)
    (h : wpAnyH P md ops Q S fuel (cG.setIfInBounds i true) (a.put oi.dst undef) w)
    (hi : ops[i]? = some oi := by (simp only [List.getElem?_toArray, List.getElem?_cons_succ, List.getElem?_cons_zero]); first | done | rfl)
    (hs : noSelect ops = true := by kernel_rfl) (hf : free md ops cG i = true := by kernel_rfl) (hr : (ready md ops cG).contains i = true := by kernel_rfl)
    (hQ : ∀ c a w, Q (.panic c) (a.put oi.dst undef) w → Q (.panic c) a w := by exact fun _ _ _ h => h) (hS : S w := by assumption)
    (hw : wanted oi (yielded ops a.tmps) = false := by rfl) : wpAnyH P md ops Q S (fuel + 1) cG a w :=
  wpAnyH_take hi hs hf hr hQ (Or.inr ⟨hw, rfl⟩) hS h
theorem jn{i : Nat}{o : Oper}{rs : List Nat}
    (h : ∀ K' : Act → World → Prop, Shut (∀ a w, S w → (S w → wpAnyH P md ops Q S fuel (cG.setIfInBounds i true) a w) → K' a w) → if wanted o (yielded ops a.tmps) = true then Oper.wp P o a w K' Q else K' (a.put o.dst undef) w)
    (hs : AllReadyH P md ops Q S fuel cG a w rs)
    (ho : ops[i]? = some o := by (simp only [List.getElem?_toArray, List.getElem?_cons_succ, List.getElem?_cons_zero]); first | done | rfl) : AllReadyH P md ops Q S fuel cG a w (i :: rs) := AllReadyH.cons ho h hs
theorem bH(i : Nat){o : Oper}
    (h : ∀ K' : Act → World → Prop, Shut (∀ a w, S w → (S w → wpAnyH P md ops Q S fuel (cG.setIfInBounds i true) a w) → K' a w) → if wanted o (yielded ops a.tmps) = true then Oper.wp P o a w K' Q else K' (a.put o.dst undef) w)
    (hr : ready md ops cG = [i] := by kernel_rfl)
    (ho : ops[i]? = some o := by (simp only [List.getElem?_toArray, List.getElem?_cons_succ, List.getElem?_cons_zero]); first | done | rfl) : wpAnyH P md ops Q S (fuel + 1) cG a w :=
  wpAnyH_ready (rs := [i]) hr (by simp) (AllReadyH.cons ho h AllReadyH.nil)
theorem sA.{u} : (∀ {α : Type u} (as : List α) (a : α) (i : Nat), as.toArray.setIfInBounds i a = (as.set i a).toArray) ∧ (∀ {α : Type u} (a : α) (as : List α) (b : α), (a :: as).set 0 b = b :: as) ∧ ∀ {α : Type u} (a : α) (as : List α) (n : Nat) (b : α), (a :: as).set (n + 1) b = a :: as.set n b := ⟨fun _ _ _ => List.setIfInBounds_toArray .., fun _ _ _ => rfl, fun _ _ _ _ => rfl⟩
