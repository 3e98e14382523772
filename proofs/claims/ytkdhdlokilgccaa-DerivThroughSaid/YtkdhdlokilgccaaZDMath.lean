import Derived.Test.YtkdhdlokilgccaaZDLan
import Derived.Test.YtkdhdlokilgccaaZDNumber
namespace Go.Proofs.Ytkdhdlokilgccaa
open Go.RowKit
set_option linter.unusedVariables false

/-- Facts that are an expression's. -/
def FOk (f : Fa) (t : Rx) : Prop := (f.e = true ↔ Lan t []) ∧ (∀ b, b < 256 → (f.s b = true ↔ ∃ s, Lan t (b :: s))) ∧ f.n = t.flat.length
theorem fok_leaf (x : Pc) (a b : Nat) (X Y : Fa) (hx : takesZ x.k = 0) : FOk (joinOf ⟨x, a, b⟩ X Y) (.leaf x) := by
  have hk : x.k = 0 ∨ x.k = 1 := by have := takesZ_cases x.k; omega
  unfold joinOf FOk
  simp only [lan_leaf]
  rcases hk with h | h
  · simp [h, emp, Rx.flat]
  · simp [h, Rx.flat]
    intro b hb
    exact ⟨fun h => ⟨[], b, ⟨rfl, rfl⟩, hb, h⟩, fun ⟨_, _, ⟨e, _⟩, _, h⟩ => by rw [e]; exact h⟩
theorem fok_un (x : Pc) (s : Rx) (a b : Nat) (X Y : Fa) (hx : takesZ x.k = 1) (hX : FOk X s) : FOk (joinOf ⟨x, a, b⟩ X Y) (.un x s) := by
  obtain ⟨h1, h2, h3⟩ := hX
  have hk : x.k = 4 ∨ x.k = 5 ∨ x.k = 6 := by have := takesZ_cases x.k; omega
  have hf : (Rx.un x s).flat.length = s.flat.length + 1 := by simp [Rx.flat]
  unfold joinOf FOk
  simp only [if_neg (by omega : ¬ x.k = 0), if_neg (by omega : ¬ x.k = 1), if_neg (by omega : ¬ x.k = 3), if_neg (by omega : ¬ x.k = 2)]
  refine ⟨?_, fun b hb => ?_, by rw [hf, h3]⟩
  · simp only [lan_un]
    rcases hk with h | h | h
    · simp [h, Star.nil]
    · simp only [h, decide_true, Bool.not_true, Bool.or_false, h1]
      simp only [show ¬ ((5 : Int) = 4) by decide, if_false, if_true]
      constructor
      · exact fun h => ⟨[], [], rfl, h, Star.nil⟩
      · rintro ⟨u, v, e, hu, _⟩
        have : u = [] := by have := congrArg List.length e; simp at this; exact List.length_eq_zero_iff.1 (by omega)
        rw [this] at hu
        exact hu
    · simp [h]
  · rw [h2 b hb]
    simp only [lan_un]
    rcases hk with h | h | h
    · simp only [h, if_true]
      exact ⟨fun ⟨u, hu⟩ => ⟨u, Star.one hu⟩, fun ⟨u, hu⟩ => hu.first⟩
    · simp only [h, show ¬ ((5 : Int) = 4) by decide, if_false, if_true]
      constructor
      · exact fun ⟨u, hu⟩ => ⟨u, b :: u, [], by simp, hu, Star.nil⟩
      · rintro ⟨w, u, v, e, hu, hv⟩
        cases u with
        | nil => simp at e; rw [← e] at hv; exact hv.first
        | cons c u => simp at e; exact ⟨u, by rw [e.1]; exact hu⟩
    · simp [h]
theorem fok_bin (x : Pc) (s t : Rx) (a b : Nat) (X Y : Fa) (hx : takesZ x.k = 2) (hX : FOk X s) (hY : FOk Y t) (hs : s.wf) (ht : t.wf) : FOk (joinOf ⟨x, a, b⟩ X Y) (.bin x s t) := by
  obtain ⟨h1, h2, h3⟩ := hX
  obtain ⟨g1, g2, g3⟩ := hY
  obtain ⟨t0, ht0⟩ := lan_some t ht
  have hk : x.k = 2 ∨ x.k = 3 := by have := takesZ_cases x.k; omega
  have hf : (Rx.bin x s t).flat.length = s.flat.length + t.flat.length + 1 := by simp [Rx.flat]; omega
  unfold joinOf FOk
  rcases hk with h | h
  · simp only [h, show ¬ ((2 : Int) = 0) by decide, show ¬ ((2 : Int) = 1) by decide, show ¬ ((2 : Int) = 3) by decide, if_false, if_true]
    refine ⟨?_, fun b hb => ?_, by rw [hf, h3, g3]⟩
    · simp only [lan_bin]
      simp only [h, if_true, Bool.and_eq_true, h1, g1]
      constructor
      · exact fun ⟨a, b⟩ => ⟨[], [], rfl, a, b⟩
      · rintro ⟨u, v, e, hu, hv⟩
        have e2 : u = [] ∧ v = [] := by simpa using e.symm
        rw [e2.1] at hu
        rw [e2.2] at hv
        exact ⟨hu, hv⟩
    · simp only [lan_bin]
      simp only [h, if_true]
      by_cases he : X.e = true
      · have hse := h1.1 he
        simp only [he, if_true, Bool.or_eq_true, h2 b hb, g2 b hb]
        constructor
        · rintro (⟨u, hu⟩ | ⟨u, hu⟩)
          · exact ⟨u ++ t0, b :: u, t0, rfl, hu, ht0⟩
          · exact ⟨u, [], b :: u, rfl, hse, hu⟩
        · rintro ⟨w, u, v, e, hu, hv⟩
          cases u with
          | nil => simp at e; rw [← e] at hv; exact Or.inr ⟨_, hv⟩
          | cons c u => simp at e; exact Or.inl ⟨u, by rw [e.1]; exact hu⟩
      · simp only [he, Bool.false_eq_true, if_false, h2 b hb]
        constructor
        · rintro ⟨u, hu⟩
          exact ⟨u ++ t0, b :: u, t0, rfl, hu, ht0⟩
        · rintro ⟨w, u, v, e, hu, hv⟩
          cases u with
          | nil => exact absurd (h1.2 hu) he
          | cons c u => simp at e; exact ⟨u, by rw [e.1]; exact hu⟩
  · simp only [h, show ¬ ((3 : Int) = 0) by decide, show ¬ ((3 : Int) = 1) by decide, if_false, if_true]
    refine ⟨?_, fun b hb => ?_, by rw [hf, h3, g3]⟩
    · simp only [lan_bin]
      simp only [h, show ¬ ((3 : Int) = 2) by decide, if_false, Bool.or_eq_true, h1, g1]
    · simp only [lan_bin]
      simp only [h, show ¬ ((3 : Int) = 2) by decide, if_false, Bool.or_eq_true, h2 b hb, g2 b hb]
      exact ⟨fun h => h.elim (fun ⟨u, hu⟩ => ⟨u, Or.inl hu⟩) (fun ⟨u, hu⟩ => ⟨u, Or.inr hu⟩), fun ⟨u, hu⟩ => hu.elim (fun h => Or.inl ⟨u, h⟩) (fun h => Or.inr ⟨u, h⟩)⟩

end Go.Proofs.Ytkdhdlokilgccaa
