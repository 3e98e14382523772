import Derived.Test.YtgmcfgkjhobiaaaZPApt
import Derived.Deep.RegionHeld
import Derived.Deep.RegionHeld3
import Derived.OrdersHeld
namespace Go.Proofs.Ytgmcfgkjhobiaaa
open Go.RowKit Go.Maps Go.WideElems Go.ChangeMaps Go.MapKept
set_option linter.unusedVariables false
set_option linter.unusedSimpArgs false

theorem AptM.cells {W0 w : World} {M N g c : Nat} {gs : Nat → Nat} {A : Nat → Nat → Bool} (h : AptM W0 M N (.slice (some ⟨g, 0, none⟩) M c) gs A w) {i : Nat} (hi : i < M) : w.cell? ⟨g, i, none⟩ = some (.slice (some ⟨gs i, 0, none⟩) N N) := by
  obtain ⟨g', c', e, _, h3⟩ := h.out hi
  injection e with e
  injection e with e
  injection e with e _
  subst e
  exact h3 i hi
theorem AptM.nil (W0 : World) (N : Nat) (gs : Nat → Nat) (A : Nat → Nat → Bool) : AptM W0 0 N (.slice none 0 0) gs A W0 :=
  ⟨Below.refl _ _, ⟨World.ownsRow_nil _ _ _ _, fun i hi => absurd hi (by omega), fun i j hi => absurd hi (by omega)⟩⟩
theorem AptM.base {W0 W w : World} {M N : Nat} {vO : Value} {gs : Nat → Nat} {A : Nat → Nat → Bool} (h : AptM W0 M N vO gs A w) (k : Below W.heap.size W W0) : AptM W M N vO gs A w :=
  ⟨k.trans (h.bel.mono k.size), ⟨ownsRow_base h.gr.own k.size, fun i hi => ownsRow_base (h.gr.row i hi) k.size, h.gr.sep⟩⟩
/-- A row is put behind. -/
theorem AptM.push {W0 wr w1 w2 w' : World} {M N g : Nat} {vO v' : Value} {gs : Nat → Nat} {A : Nat → Nat → Bool} {f : Nat → Bool} (h : AptM W0 M N vO gs A wr) (ho : OB wr g N f w1) (hN : 0 < N) (hf : ∀ y, y < N → f y = A M y) (k2 : Below w1.heap.size w1 w2)
    (hown : w2.ownsRow W0.heap.size 48 1 vO M ((List.range M).map fun i => .slice (some ⟨gs i, 0, none⟩) N N) → w'.ownsRow W0.heap.size 48 1 v' (M + 1) (((List.range M).map fun i => .slice (some ⟨gs i, 0, none⟩) N N) ++ [.slice (some ⟨g, 0, none⟩) N N])) (hg : w2.grownBy w' vO.ownBlock) :
    AptM W0 (M + 1) N v' (fun i => if i = M then g else gs i) A w' := by
  have h2 := (h.keep ho.bel).keep k2
  have hlt := h.gr.lt.2
  have e : bls f N = bls (A M) N := by
    unfold bls
    refine List.map_congr_left fun x hx => ?_
    rw [hf x (List.mem_range.1 hx)]
  have hu : w2.ownsRow W0.heap.size 4 1 (.slice (some ⟨g, 0, none⟩) N N) N (bls (A M) N) := by
    rw [← e]
    exact ownsRow_base (ownsRow_keep ho.own k2) h.bel.size
  have hp := h2.gr.pushRow (u := .slice (some ⟨g, 0, none⟩) N N) (by decide) hu (fun i hi b e1 e2 => by
    have h3 := hlt i hi b e1
    have h4 := ho.lo
    have h5 : g = b := by simpa [Value.ownBlock] using e2
    omega) (hown h2.gr.own) hg
  refine ⟨below_grown_own h2.bel h2.gr.own h2.bel.size hg, ?_⟩
  have e3 : (fun j => if j = M then Value.slice (some ⟨g, 0, none⟩) N N else .slice (some ⟨gs j, 0, none⟩) N N) = fun i => .slice (some ⟨(fun i => if i = M then g else gs i) i, 0, none⟩) N N := by
    funext j
    by_cases e : j = M <;> simp [e]
  rw [e3] at hp
  exact hp

end Go.Proofs.Ytgmcfgkjhobiaaa

namespace Go.Proofs.Ytgmcfgkjhobiaaa
open Go.RowKit Go.Maps Go.WideElems Go.ChangeMaps Go.MapKept
set_option linter.unusedVariables false
set_option linter.unusedSimpArgs false

/-- While numbers are given. -/
structure RbI (D : Dd) (C : Nat) (W0 : World) (i B : Nat) (v : Value) (f : Nat → Nat) (w : World) : Prop where
  below : Below W0.heap.size W0 w
  own : w.ownsRow W0.heap.size 3 1 v i (nums64 ((List.range i).map f))
  num : Num (Eqv C (tD D) (mD D)) i f B
theorem RbI.grow {D : Dd} {C i B b B' : Nat} {W0 w w' : World} {v v' : Value} {f : Nat → Nat} (h : RbI D C W0 i B v f w)
    (ho : w'.ownsRow W0.heap.size 3 1 v' (i + 1) (nums64 ((List.range i).map f) ++ [.int .i64 ((b : Nat) : Int)])) (hg : w.grownBy w' v.ownBlock) (hn : Num (Eqv C (tD D) (mD D)) (i + 1) (fun j => if j = i then b else f j) B') : ∃ f', RbI D C W0 (i + 1) B' v' f' w' :=
  ⟨fun j => if j = i then b else f j, below_grown_own h.below h.own h.below.size hg, by rw [rng_upd]; exact ho, hn⟩

end Go.Proofs.Ytgmcfgkjhobiaaa
