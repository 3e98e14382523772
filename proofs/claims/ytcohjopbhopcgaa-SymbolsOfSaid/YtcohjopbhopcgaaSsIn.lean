import Derived.Test.YtcohjopbhopcgaaNumIn
import Derived.Test.YtcohjopbhopcgaaSs
namespace Go.Proofs.Ytcohjopbhopcgaa
open Go.ChangeShapes Go.WideShapes Go.ChangeAt Go.RowKit Go.Deep
set_option linter.unusedVariables false
set_option maxRecDepth 100000

/-- Texts that came in. -/
theorem open_strs9 {H : Type} {enc : TypeId × Value → H} {w : World} {base fuel : Nat} {spare : Nat → Bool} {held : Bool} {a : Option Addr} {len cap : Nat} {x : DataW H × List MemPlace}
    (h : DataW.trod enc Try.prog w base spare held fuel 22 [.slice a len cap] = some x) : ∃ l : List ByteArray, l.length = len ∧ SsAt w a l ∧ len ≤ cap ∧ cap ≤ maxLen ∧ ∀ j (h : j < l.length), l[j].size ≤ maxLen := by
  rcases open_slice Try.underlying22 h with ⟨hcs, _⟩ | ⟨ad, l, c, m, n, D, Pl, hcs, hb, hl, hm, hmm, hx, hi⟩
  · simp at hcs
    obtain ⟨rfl, rfl, rfl⟩ := hcs
    exact ⟨[], rfl, fun h => absurd h (by simp), Nat.le_refl _, by unfold maxLen; omega, fun j h => absurd h (by simp)⟩
  · simp at hcs
    obtain ⟨rfl, rfl, rfl⟩ := hcs
    have h1 : Try.prog.cellsOf 9 = 1 := by kernel_rfl
    have hp : ∀ i, i < len → ∃ s : ByteArray, w.cell? (ad.add i) = some (.string s) ∧ s.size ≤ maxLen := by
      intro i him
      obtain ⟨cs', hc, ht⟩ := hi i (by rw [hmm]; split <;> omega)
      rw [h1] at hc
      obtain ⟨_, hcl, hat⟩ := World.cells?_some hc
      obtain ⟨s, e, _, hs⟩ := DataW.trod_string Try.underlying9 ht
      have h2 := hat 0 (by omega)
      rw [Go.Deep.add_add, e] at h2
      exact ⟨s, by simpa using h2, hs⟩
    obtain ⟨b, off, spot⟩ := ad
    obtain ⟨G, hs⟩ : ∃ G : Nat → ByteArray, ∀ i, i < len → w.cell? ((⟨b, off, spot⟩ : Addr).add i) = some (.string (G i)) ∧ (G i).size ≤ maxLen :=
      ⟨fun i => if h : i < len then Classical.choose (hp i h) else ⟨#[]⟩, fun i h => by
        have := Classical.choose_spec (hp i h)
        simp only [dif_pos h]
        exact this⟩
    refine ⟨(List.range len).map G, by simp, fun h0 => ?_, hl, hm, fun j hj => by simp at hj ⊢; exact (hs j hj).2⟩
    simp at h0
    have hspot : spot = none := by
      have := (hs 0 h0).1
      simpa [Addr.add] using World.cell?_spot this
    subst hspot
    refine ⟨b, off, rfl, ?_, fun j hj => ?_⟩
    · have := (hs 0 h0).1
      by_cases hb : b < w.heap.size
      · exact hb
      · rw [add_mid9] at this
        simp [World.cell?, Array.getElem?_eq_none (by omega : w.heap.size ≤ b)] at this
    · simp at hj
      have := (hs j hj).1
      rw [add_mid9] at this
      rw [this]
      simp
end Go.Proofs.Ytcohjopbhopcgaa
