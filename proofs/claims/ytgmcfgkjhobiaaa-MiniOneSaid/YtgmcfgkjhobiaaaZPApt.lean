import Derived.Test.YtgmcfgkjhobiaaaZMCol
import Derived.Test.YtgmcfgkjhobiaaaZPBlk
import Derived.Test.YtgmcfgkjhobiaaaZSFrame
namespace Go.Proofs.Ytgmcfgkjhobiaaa
set_option linter.unusedVariables false
set_option linter.unusedSimpArgs false

/-- While pairs are told apart, round after round, in place. -/
structure Ap (C : Nat) (t : Nat → Nat → Nat) (m : Nat → Int) (N r i k c : Nat) (A : Nat → Nat → Bool) : Prop where
  snd : ∀ x y, x < N → y < N → A x y = true → ¬ Eqv C t m x y
  old : ∀ x y, x < N → y < N → ¬ Mo C t m r x y → A x y = true
  new : ∀ x y, x < N → y < N → (x < i ∨ (x = i ∧ y < k)) → ¬ Mo C t m (r + 1) x y → A x y = true
  cur : ∀ c', c' < c → ¬ Mo C t m r (t i c') (t k c') → A i k = true
section
variable {C N r i k c : Nat} {t : Nat → Nat → Nat} {m : Nat → Int} {A : Nat → Nat → Bool}
theorem Ap.start (h : ∀ x y, x < N → y < N → (A x y = true ↔ m x ≠ m y)) : Ap C t m N 0 0 0 0 A :=
  ⟨fun x y hx hy e h2 => (h x y hx hy).1 e (h2 0), fun x y hx hy e => (h x y hx hy).2 e, fun x y _ _ e => by omega, fun c' e => by omega⟩
def upA (A : Nat → Nat → Bool) (i k : Nat) (v : Bool) : Nat → Nat → Bool := fun x y => if x = i ∧ y = k then v else A x y
theorem Ap.put (ht : ∀ i c, i < N → c < C → t i c < N) (h : Ap C t m N r i k c A) (hi : i < N) (hk : k < N) (hc : c < C) (hA : A i k = false) : Ap C t m N r i k (c + 1) (upA A i k (A (t i c) (t k c))) := by
  have hno : A i k ≠ true := by rw [hA]; simp
  refine ⟨fun x y hx hy e => ?_, fun x y hx hy e => ?_, fun x y hx hy e1 e2 => ?_, fun c' hc' e => ?_⟩
  · by_cases a : x = i ∧ y = k
    · obtain ⟨rfl, rfl⟩ := a
      simp only [upA, and_self, if_true] at e
      exact fun h2 => h.snd _ _ (ht _ _ hi hc) (ht _ _ hk hc) e (h2.step hc)
    · simp only [upA, if_neg a] at e
      exact h.snd x y hx hy e
  · by_cases a : x = i ∧ y = k
    · obtain ⟨rfl, rfl⟩ := a
      exact absurd (h.old _ _ hx hy e) hno
    · simp only [upA, if_neg a]
      exact h.old x y hx hy e
  · have a : ¬ (x = i ∧ y = k) := by omega
    simp only [upA, if_neg a]
    exact h.new x y hx hy e1 e2
  · simp only [upA, and_self, if_true]
    by_cases a : c' = c
    · subst a
      exact h.old _ _ (ht _ _ hi hc) (ht _ _ hk hc) e
    · exact absurd (h.cur c' (by omega) e) hno
theorem Ap.done (ht : ∀ i c, i < N → c < C → t i c < N) (h : Ap C t m N N i k c A) : ∀ x y, x < N → y < N → (A x y = true ↔ ¬ Eqv C t m x y) := by
  intro x y hx hy
  refine ⟨h.snd x y hx hy, fun e => h.old x y hx hy (fun e2 => e ((mo_all ht hx hy).1 e2))⟩
end
end Go.Proofs.Ytgmcfgkjhobiaaa

namespace Go.Proofs.Ytgmcfgkjhobiaaa
open Go.RowKit Go.Maps Go.WideElems Go.ChangeMaps Go.MapKept
set_option linter.unusedVariables false
set_option linter.unusedSimpArgs false



end Go.Proofs.Ytgmcfgkjhobiaaa

namespace Go.Proofs.Ytgmcfgkjhobiaaa
open Go.RowKit Go.Maps Go.WideElems Go.ChangeMaps Go.MapKept
set_option linter.unusedVariables false
set_option linter.unusedSimpArgs false

/-- Rows of marks, each in its block. -/
structure AptM (W0 : World) (M N : Nat) (vO : Value) (gs : Nat → Nat) (A : Nat → Nat → Bool) (w : World) : Prop where
  bel : Below W0.heap.size W0 w
  gr : GridOw w W0.heap.size 48 4 1 vO M (fun i => .slice (some ⟨gs i, 0, none⟩) N N) (fun _ => N) (fun i => bls (A i) N)
section
variable {W0 w w' : World} {M N : Nat} {vO : Value} {gs : Nat → Nat} {A : Nat → Nat → Bool}
theorem AptM.keep (h : AptM W0 M N vO gs A w) (k : Below w.heap.size w w') : AptM W0 M N vO gs A w' := ⟨h.bel.trans (k.mono h.bel.size), h.gr.keep k⟩
theorem AptM.out (h : AptM W0 M N vO gs A w) {i : Nat} (hi : i < M) : ∃ g c, vO = .slice (some ⟨g, 0, none⟩) M c ∧ W0.heap.size ≤ g ∧ ∀ i, i < M → w.cell? ⟨g, i, none⟩ = some (.slice (some ⟨gs i, 0, none⟩) N N) := by
  obtain ⟨a, c, e⟩ := ownsRow_slice h.gr.own
  have ho := h.gr.own
  rw [e] at ho
  obtain ⟨g, e2, h1, h2, h3⟩ := ownsRow_read ho (by omega)
  refine ⟨g, c, by rw [e, e2], h1, fun j hj => ?_⟩
  rw [(h3 j (by omega)).1]
  simp [hj]
theorem AptM.lo (h : AptM W0 M N vO gs A w) (hN : 0 < N) {i : Nat} (hi : i < M) : W0.heap.size ≤ gs i := by
  obtain ⟨g, e, h1, _⟩ := ownsRow_read (h.gr.row i hi) hN
  injection e with e
  injection e with e _
  omega
theorem AptM.cell (h : AptM W0 M N vO gs A w) {i j : Nat} (hi : i < M) (hj : j < N) : w.cell? ⟨gs i, j, none⟩ = some (.bool (A i j)) ∧ w.frozen? ⟨gs i, j, none⟩ = false := by
  obtain ⟨g, e, h1, h2, h3⟩ := ownsRow_read (h.gr.row i hi) (by omega)
  injection e with e
  injection e with e _
  subst e
  obtain ⟨h4, h5⟩ := h3 j (by omega)
  exact ⟨by rw [h4]; simp [bls, hj], h5⟩
theorem AptM.put (h : AptM W0 M N vO gs A w) {i j : Nat} (hi : i < M) (hj : j < N) (v : Bool) : AptM W0 M N vO gs (upA A i j v) (w.setCell ⟨gs i, j, none⟩ (.bool v)) := by
  have kk : Kept [] [gs i] w (w.setCell ⟨gs i, j, none⟩ (.bool v)) := (Kept.refl _ _ _).setCell _ _ (Or.inl (by simp))
  refine ⟨h.bel.setCell (p := ⟨gs i, j, none⟩) (h.lo (by omega) hi) _, ⟨own_kept h.gr.own kk (by simp) (fun g e hm => ?_), fun k hk => ?_, h.gr.sep⟩⟩
  · exact own_kinds h.gr.own (h.gr.row i hi) (by decide) g e (by simp [List.mem_singleton.1 hm, Value.ownBlock])
  · by_cases e : k = i
    · subst e
      have := own_put (h.gr.row k hk) j hj (.bool v)
      rw [bls_setv] at this
      have e2 : bls (upA A k j v k) N = bls (fun x => if x = j then v else A k x) N := by
        unfold bls
        refine List.map_congr_left fun x hx => ?_
        simp [upA]
      show World.ownsRow _ _ _ _ _ _ (bls (upA A k j v k) N)
      rw [e2]
      exact this
    · have e2 : bls (upA A i j v k) N = bls (A k) N := by
        unfold bls
        refine List.map_congr_left fun x hx => ?_
        simp [upA, e]
      show World.ownsRow _ _ _ _ _ _ (bls (upA A i j v k) N)
      rw [e2]
      refine own_kept (h.gr.row k hk) kk (by simp) (fun g e3 hm => ?_)
      exact h.gr.sep k i hk hi e g e3 (by simp [List.mem_singleton.1 hm, Value.ownBlock])
end
end Go.Proofs.Ytgmcfgkjhobiaaa
