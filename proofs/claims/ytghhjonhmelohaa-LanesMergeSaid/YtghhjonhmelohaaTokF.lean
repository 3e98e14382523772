import Derived.Test.YtghhjonhmelohaaNumIn
import Derived.Test.YtghhjonhmelohaaTok
namespace Go.Proofs.Ytghhjonhmelohaa
open Go.ChangeShapes Go.WideShapes Go.ChangeAt Go.RowKit Go.Deep
set_option linter.unusedVariables false
set_option maxRecDepth 100000

/-- Three cells that read as a token are one's. -/
theorem open_tok {H : Type} {enc : TypeId × Value → H} {w : World} {base fuel : Nat} {spare : Nat → Bool} {held : Bool} {cs : List Value} {x : DataW H × List MemPlace} (hlen : cs.length = 3)
    (h : DataW.trod enc Try.prog w base spare held fuel 32 cs = some x) : ∃ p : Tok, cs = tkCells p ∧ p.s.size ≤ maxLen := by
  have c3 : Try.prog.cellsOf 3 = 1 := by kernel_rfl
  have c4 : Try.prog.cellsOf 9 = 1 := by kernel_rfl
  obtain ⟨ys, n', hn', hy, hl, hyl, hf⟩ := DataW.trod_struct Try.underlying32 h
  have f0 := hf 0 _ rfl
  have f1 := hf 1 _ rfl
  have f2 := hf 2 _ rfl
  match cs, hlen with
  | [v0, v1, v2], _ =>
    simp [c3, c4] at f0 f1 f2
    match ys, hyl with
    | [y0, y1, y2], _ =>
      simp at f0 f1 f2
      obtain ⟨r, e0, _⟩ := DataW.trod_int Try.underlying3 f0
      obtain ⟨s, e1, _, hs⟩ := DataW.trod_string Try.underlying9 f1
      obtain ⟨p, e2, _⟩ := DataW.trod_int Try.underlying3 f2
      simp at e0 e1 e2
      subst e0 e1 e2
      exact ⟨⟨r, s, p⟩, rfl, hs⟩

theorem open_toks {H : Type} {enc : TypeId × Value → H} {w : World} {base fuel : Nat} {spare : Nat → Bool} {held : Bool} {a : Option Addr} {len cap : Nat} {x : DataW H × List MemPlace}
    (h : DataW.trod enc Try.prog w base spare held fuel 23 [.slice a len cap] = some x) : ∃ l : List Tok, l.length = len ∧ TkAt w a l ∧ len ≤ cap ∧ cap ≤ maxLen ∧ ∀ j (h : j < l.length), l[j].s.size ≤ maxLen := by
  rcases open_slice Try.underlying23 h with ⟨hcs, _⟩ | ⟨ad, l, c, m, n, D, Pl, hcs, hb, hl, hm, hmm, hx, hi⟩
  · simp at hcs
    obtain ⟨rfl, rfl, rfl⟩ := hcs
    exact ⟨[], rfl, fun h => absurd h (by simp), Nat.le_refl _, by unfold maxLen; omega, fun j h => absurd h (by simp)⟩
  · simp at hcs
    obtain ⟨rfl, rfl, rfl⟩ := hcs
    have h7 : Try.prog.cellsOf 32 = 3 := by kernel_rfl
    have hp : ∀ i, i < len → ∃ p : Tok, (∀ j, j < 3 → w.cell? (ad.add (i * 3 + j)) = (tkCells p)[j]?) ∧ p.s.size ≤ maxLen := by
      intro i him
      obtain ⟨cs', hc, ht⟩ := hi i (by rw [hmm]; split <;> omega)
      rw [h7] at hc
      obtain ⟨_, hcl, hat⟩ := World.cells?_some hc
      obtain ⟨p, rfl, hs⟩ := open_tok hcl ht
      refine ⟨p, fun j hj => ?_, hs⟩
      rw [← Go.Deep.add_add]
      exact hat j hj
    obtain ⟨b, off, spot⟩ := ad
    have hall : ∃ s : Nat → Tok, ∀ i, i < len → (∀ j, j < 3 → w.cell? ((⟨b, off, spot⟩ : Addr).add (i * 3 + j)) = (tkCells (s i))[j]?) ∧ (s i).s.size ≤ maxLen :=
      ⟨fun i => if h : i < len then Classical.choose (hp i h) else ⟨0, ⟨#[]⟩, 0⟩, fun i h => by
        have := Classical.choose_spec (hp i h)
        simp only [dif_pos h]
        exact this⟩
    obtain ⟨s, hs⟩ := hall
    refine ⟨(List.range len).map s, by simp, ?_, hl, hm, fun j hj => by simp at hj ⊢; exact (hs j hj).2⟩
    intro h0
    simp at h0
    have hspot : spot = none := by
      have := (hs 0 h0).1 0 (by omega)
      simpa [Addr.add, tkCells] using World.cell?_spot this
    subst hspot
    have hcell : ∀ i, i < len → ∀ j, j < 3 → w.cell? ⟨b, off + (i * 3 + j), none⟩ = (tkCells (s i))[j]? := fun i hi j hj => by
      have := (hs i hi).1 j hj
      rw [add_mid9] at this
      exact this
    refine ⟨b, off, rfl, ?_, fun j hj => ?_⟩
    · have := hcell 0 h0 0 (by omega)
      by_cases hb : b < w.heap.size
      · exact hb
      · simp [World.cell?, tkCells, Array.getElem?_eq_none (by omega : w.heap.size ≤ b)] at this
    · simp at hj
      have h1 := hcell (j / 3) (by omega) (j % 3) (by omega)
      rw [show j / 3 * 3 + j % 3 = j by omega] at h1
      rw [h1]
      have h2 := tks_get ((List.range len).map s) (j / 3) (by simp; omega) (j % 3) (by omega)
      rw [show j / 3 * 3 + j % 3 = j by omega] at h2
      rw [h2]
      simp
end Go.Proofs.Ytghhjonhmelohaa
