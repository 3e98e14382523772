import Derived.Test.YtldpmcgkbdejjaaZNMath
import Derived.Test.YtldpmcgkbdejjaaZSClose
import Derived.Test.YtldpmcgkbdejjaaZTok
namespace Go.Proofs.Ytldpmcgkbdejjaa
open Go.RowKit
set_option linter.unusedVariables false
set_option linter.unusedSimpArgs false


end Go.Proofs.Ytldpmcgkbdejjaa

namespace Go.Proofs.Ytldpmcgkbdejjaa
open Go.RowKit
set_option linter.unusedVariables false
set_option linter.unusedSimpArgs false

/-- A truth that tells whether Q. -/
def TruPost (Q : Prop) (w : World) (e : Ending) (w' : World) : Prop := ∃ b : Bool, e = .returned (.bool b) ∧ (b = true ↔ Q) ∧ Below w.heap.size w w'


end Go.Proofs.Ytldpmcgkbdejjaa

namespace Go.Proofs.Ytldpmcgkbdejjaa
open Go.RowKit
set_option linter.unusedVariables false
set_option linter.unusedSimpArgs false

/-- Rows of numbers in memory. -/
def ZsAt (w : World) (a : Option Addr) (n : Nat) (A : Nat → Option Addr) (C len : Nat → Nat) (z : Nat → Nat → Int) : Prop := 0 < n → ∃ g off, a = some ⟨g, off, none⟩ ∧ g < w.heap.size ∧ ∀ i, i < n → w.cell? ⟨g, off + i, none⟩ = some (.slice (A i) (len i) (C i)) ∧ ZAt w (A i) (len i) (z i)
theorem ZsAt.below {w w' : World} {a : Option Addr} {n : Nat} {A : Nat → Option Addr} {C len : Nat → Nat} {z : Nat → Nat → Int} (h : ZsAt w a n A C len z) (k : Below w.heap.size w w') : ZsAt w' a n A C len z := by
  intro h0
  obtain ⟨g, off, e, hg, hc⟩ := h h0
  have := k.size
  exact ⟨g, off, e, by omega, fun j hj => ⟨(k.cell (p := ⟨g, off + j, none⟩) hg).trans (hc j hj).1, (hc j hj).2.below k⟩⟩

end Go.Proofs.Ytldpmcgkbdejjaa

namespace Go.Proofs.Ytldpmcgkbdejjaa
set_option linter.unusedVariables false
set_option linter.unusedSimpArgs false


/-! ### Two runs beside each other -/
end Go.Proofs.Ytldpmcgkbdejjaa

namespace Go.Proofs.Ytldpmcgkbdejjaa
open Go.RowKit Go.Maps Go.WideElems Go.ChangeMaps Go.MapKept
set_option linter.unusedVariables false
set_option linter.unusedSimpArgs false


/-- The targets so far. -/
structure TgAt (w3 : World) (B gT C : Nat) (vs : Nat → Value) (tg : Nat → List Nat) (wq : World) : Prop where
  grid : GridAt wq w3.heap.size 24 3 1 gT C vs (fun c => (tg c).length) (fun c => nums64 (tg c))
  kept : Kept [] [gT] w3 wq
  below : Below B w3 wq
  lo : B ≤ gT ∧ B ≤ w3.heap.size
theorem TgAt.keep {w3 wq w1 : World} {B gT C : Nat} {vs : Nat → Value} {tg : Nat → List Nat} (h : TgAt w3 B gT C vs tg wq) (k : Below wq.heap.size wq w1) : TgAt w3 B gT C vs tg w1 :=
  ⟨h.grid.keep k, h.kept.below k, h.below.trans (k.mono (Nat.le_trans h.lo.2 h.below.size)), h.lo⟩
theorem TgAt.app {w3 W w6 : World} {B gT C : Nat} {vs : Nat → Value} {tg : Nat → List Nat} (h : TgAt w3 B gT C vs tg W) {x t : Nat} (hx : x < C) {v' : Value} {p : Nat} (hp : (tg x).length = p)
    (ho : w6.ownsRow w3.heap.size 3 1 v' (p + 1) (nums64 (tg x) ++ [.int .i64 ((t : Nat) : Int)])) (hg : W.grownBy w6 (vs x).ownBlock)
    (hat : ∀ b, v'.ownBlock = some b → (vs x).ownBlock = some b ∨ W.heap.size ≤ b) :
    TgAt w3 B gT C (fun j => if j = x then v' else vs j) (fun j => if j = x then tg x ++ [t] else tg j) (w6.setCell ⟨gT, x, none⟩ v') := by
  have hr := h.grid.2.1 x hx
  have hsz := h.below.size
  refine ⟨(h.grid.app (by decide) hx ho hg hat).congr (fun i hi => ?_), ?_, (below_grown_own h.below (ownsRow_base hr h.lo.2) (Nat.le_trans h.lo.2 hsz) hg |> fun k => k.setCell (p := ⟨gT, x, none⟩) h.lo.1 v'), h.lo⟩
  · by_cases e : i = x
    · subst e
      refine ⟨by simp [hp], by simp [nums64_snoc]⟩
    · simp [e]
  · exact (h.kept.grown hg (fun g e => Or.inr (Or.inl (own_above hr g e)))).setCell ⟨gT, x, none⟩ v' (Or.inl (by simp))
theorem TgAt.made (V : World) (B C : Nat) (w3 : World) (hB : B ≤ V.heap.size) (k : Below (V.alloc (.cells (madeCells #[.slice none 0 0] C) 24)).heap.size (V.alloc (.cells (madeCells #[.slice none 0 0] C) 24)) w3) :
    TgAt w3 B V.heap.size C (fun _ => .slice none 0 0) (fun _ => []) w3 :=
  ⟨(GridAt.made V w3.heap.size 24 3 1 C).keep k, Kept.refl _ _ _, Below.refl _ _, hB, by have := k.size; simp at this; omega⟩

end Go.Proofs.Ytldpmcgkbdejjaa

namespace Go.Proofs.Ytldpmcgkbdejjaa
open Go.RowKit Go.Maps Go.WideElems Go.ChangeMaps Go.MapKept
set_option linter.unusedVariables false
set_option linter.unusedSimpArgs false

end Go.Proofs.Ytldpmcgkbdejjaa
