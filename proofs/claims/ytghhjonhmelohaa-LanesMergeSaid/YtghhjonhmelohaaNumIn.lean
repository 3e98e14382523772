import Derived.Test.YtghhjonhmelohaaBase
import Derived.Test.YtghhjonhmelohaaNumAt
namespace Go.Proofs.Ytghhjonhmelohaa
open Go.ChangeShapes Go.WideShapes Go.ChangeAt Go.RowKit Go.Deep
set_option linter.unusedVariables false
set_option maxRecDepth 100000

theorem add_mid9 (b o j : Nat) : (⟨b, o, none⟩ : Addr).add j = ⟨b, o + j, none⟩ := by unfold Addr.add; split <;> simp_all

/-- Numbers that came in. -/
theorem open_ints9 {H : Type} {enc : TypeId × Value → H} {w : World} {base fuel : Nat} {spare : Nat → Bool} {held : Bool} {a : Option Addr} {len cap : Nat} {x : DataW H × List MemPlace}
    (h : DataW.trod enc Try.prog w base spare held fuel 22 [.slice a len cap] = some x) : (∃ g : Nat → Int, ZAt w a len g) ∧ len ≤ cap ∧ cap ≤ maxLen := by
  rcases open_slice Try.underlying22 h with ⟨hcs, _⟩ | ⟨ad, l, c, m, n, D, Pl, hcs, hb, hl, hm, hmm, hx, hi⟩
  · simp at hcs
    obtain ⟨rfl, rfl, rfl⟩ := hcs
    exact ⟨⟨fun _ => 0, fun h => absurd h (by omega)⟩, Nat.le_refl _, by unfold maxLen; omega⟩
  · simp at hcs
    obtain ⟨rfl, rfl, rfl⟩ := hcs
    have h1 : Try.prog.cellsOf 3 = 1 := by kernel_rfl
    have hp : ∀ i, i < len → ∃ p : Int, w.cell? (ad.add i) = some (.int .i64 p) := by
      intro i him
      obtain ⟨cs', hc, ht⟩ := hi i (by rw [hmm]; split <;> omega)
      rw [h1] at hc
      obtain ⟨_, hcl, hat⟩ := World.cells?_some hc
      obtain ⟨b, e, _⟩ := DataW.trod_int Try.underlying3 ht
      have h2 := hat 0 (by omega)
      rw [Go.Deep.add_add, e] at h2
      exact ⟨b, by simpa using h2⟩
    obtain ⟨b, off, spot⟩ := ad
    obtain ⟨G, hs⟩ : ∃ G : Nat → Int, ∀ i, i < len → w.cell? ((⟨b, off, spot⟩ : Addr).add i) = some (.int .i64 (G i)) :=
      ⟨fun i => if h : i < len then Classical.choose (hp i h) else 0, fun i h => by
        have := Classical.choose_spec (hp i h)
        simp only [dif_pos h]
        exact this⟩
    refine ⟨⟨G, fun h0 => ?_⟩, hl, hm⟩
    have hspot : spot = none := by
      have := hs 0 h0
      simpa [Addr.add] using World.cell?_spot this
    subst hspot
    refine ⟨b, off, rfl, ?_, fun j hj => ?_⟩
    · have := hs 0 h0
      by_cases hb : b < w.heap.size
      · exact hb
      · rw [add_mid9] at this
        simp [World.cell?, Array.getElem?_eq_none (by omega : w.heap.size ≤ b)] at this
    · have := hs j hj
      rwa [add_mid9] at this
end Go.Proofs.Ytghhjonhmelohaa
