import Derived.Test.YtlnndkilaklifaaZFrame
import Derived.Test.YtlnndkilaklifaaZNRef
import Derived.Test.YtlnndkilaklifaaZSMarkFn
namespace Go.Proofs.Ytlnndkilaklifaa
open Go.ChangeShapes Go.WideShapes Go.ChangeAt Go.RowKit Go.Deep
set_option linter.unusedVariables false
set_option maxRecDepth 100000

theorem add_mid9 (b o j : Nat) : (⟨b, o, none⟩ : Addr).add j = ⟨b, o + j, none⟩ := by unfold Addr.add; split <;> simp_all

/-- Seven cells that read as an edge are one's. -/
theorem open_edge {H : Type} {enc : TypeId × Value → H} {w : World} {base fuel : Nat} {spare : Nat → Bool} {held : Bool} {cs : List Value} {x : DataW H × List MemPlace} (hlen : cs.length = 7)
    (h : DataW.trod enc Try.prog w base spare held fuel 43 cs = some x) : ∃ p : Eg, cs = egCells p := by
  have c3 : Try.prog.cellsOf 3 = 1 := by kernel_rfl
  have c4 : Try.prog.cellsOf 41 = 4 := by kernel_rfl
  have c5 : Try.prog.cellsOf 4 = 1 := by kernel_rfl
  obtain ⟨ys, n', hn', hy, hl, hyl, hf⟩ := DataW.trod_struct Try.underlying43 h
  have f0 := hf 0 _ rfl
  have f1 := hf 1 _ rfl
  have f2 := hf 2 _ rfl
  have f3 := hf 3 _ rfl
  match cs, hlen with
  | [v0, v1, v2, v3, v4, v5, v6], _ =>
    simp [c3, c4, c5] at f0 f1 f2 f3
    match ys, hyl with
    | [y0, y1, y2, y3], _ =>
      simp at f0 f1 f2 f3
      obtain ⟨k, e0, _⟩ := DataW.trod_int Try.underlying3 f0
      obtain ⟨t, e1, _⟩ := DataW.trod_int Try.underlying3 f1
      obtain ⟨p, hp⟩ := open_set f2
      obtain ⟨b, e3, _⟩ := DataW.trod_bool Try.underlying4 f3
      simp at e0 e1 e3 hp
      subst e0 e1 e3
      obtain ⟨rfl, rfl, rfl, rfl⟩ := hp
      exact ⟨⟨k, t, p, b⟩, rfl⟩

theorem open_edges {H : Type} {enc : TypeId × Value → H} {w : World} {base fuel : Nat} {spare : Nat → Bool} {held : Bool} {a : Option Addr} {len cap : Nat} {x : DataW H × List MemPlace}
    (h : DataW.trod enc Try.prog w base spare held fuel 22 [.slice a len cap] = some x) : ∃ l : List Eg, l.length = len ∧ EdAt w a l ∧ len ≤ cap ∧ cap ≤ maxLen := by
  rcases open_slice Try.underlying22 h with ⟨hcs, _⟩ | ⟨ad, l, c, m, n, D, Pl, hcs, hb, hl, hm, hmm, hx, hi⟩
  · simp at hcs
    obtain ⟨rfl, rfl, rfl⟩ := hcs
    exact ⟨[], rfl, fun h => absurd h (by simp), Nat.le_refl _, by unfold maxLen; omega⟩
  · simp at hcs
    obtain ⟨rfl, rfl, rfl⟩ := hcs
    have h7 : Try.prog.cellsOf 43 = 7 := by kernel_rfl
    have hp : ∀ i, i < len → ∃ p : Eg, ∀ j, j < 7 → w.cell? (ad.add (i * 7 + j)) = (egCells p)[j]? := by
      intro i him
      obtain ⟨cs', hc, ht⟩ := hi i (by rw [hmm]; split <;> omega)
      rw [h7] at hc
      obtain ⟨_, hcl, hat⟩ := World.cells?_some hc
      obtain ⟨p, rfl⟩ := open_edge hcl ht
      refine ⟨p, fun j hj => ?_⟩
      rw [← Go.Deep.add_add]
      exact hat j hj
    obtain ⟨b, off, spot⟩ := ad
    have hall : ∃ s : Nat → Eg, ∀ i, i < len → ∀ j, j < 7 → w.cell? ((⟨b, off, spot⟩ : Addr).add (i * 7 + j)) = (egCells (s i))[j]? :=
      ⟨fun i => if h : i < len then Classical.choose (hp i h) else ⟨0, 0, fun _ => false, false⟩, fun i h j hj => by
        have := Classical.choose_spec (hp i h) j hj
        simp only [dif_pos h]
        exact this⟩
    obtain ⟨s, hs⟩ := hall
    refine ⟨(List.range len).map s, by simp, ?_, hl, hm⟩
    intro h0
    simp at h0
    have hspot : spot = none := by
      have := hs 0 h0 0 (by omega)
      simpa [Addr.add, egCells] using World.cell?_spot this
    subst hspot
    have hcell : ∀ i, i < len → ∀ j, j < 7 → w.cell? ⟨b, off + (i * 7 + j), none⟩ = (egCells (s i))[j]? := fun i hi j hj => by
      have := hs i hi j hj
      rw [add_mid9] at this
      exact this
    refine ⟨b, off, rfl, ?_, fun j hj => ?_⟩
    · have := hcell 0 h0 0 (by omega)
      by_cases hb : b < w.heap.size
      · exact hb
      · simp [World.cell?, egCells, Array.getElem?_eq_none (by omega : w.heap.size ≤ b)] at this
    · simp at hj
      have h1 := hcell (j / 7) (by omega) (j % 7) (by omega)
      rw [show j / 7 * 7 + j % 7 = j by omega] at h1
      rw [h1]
      have h2 := egs_get ((List.range len).map s) (j / 7) (by simp; omega) (j % 7) (by omega)
      rw [show j / 7 * 7 + j % 7 = j by omega] at h2
      rw [h2]
      simp
theorem open_truths {H : Type} {enc : TypeId × Value → H} {w : World} {base fuel : Nat} {spare : Nat → Bool} {held : Bool} {a : Option Addr} {len cap : Nat} {x : DataW H × List MemPlace}
    (h : DataW.trod enc Try.prog w base spare held fuel 49 [.slice a len cap] = some x) : (∃ g : Nat → Bool, BAt w a len g) ∧ len ≤ cap ∧ cap ≤ maxLen := by
  rcases open_slice Try.underlying49 h with ⟨hcs, _⟩ | ⟨ad, l, c, m, n, D, Pl, hcs, hb, hl, hm, hmm, hx, hi⟩
  · simp at hcs
    obtain ⟨rfl, rfl, rfl⟩ := hcs
    exact ⟨⟨fun _ => false, fun h => absurd h (by omega)⟩, Nat.le_refl _, by unfold maxLen; omega⟩
  · simp at hcs
    obtain ⟨rfl, rfl, rfl⟩ := hcs
    have h1 : Try.prog.cellsOf 4 = 1 := by kernel_rfl
    have hp : ∀ i, i < len → ∃ p : Bool, w.cell? (ad.add i) = some (.bool p) := by
      intro i him
      obtain ⟨cs', hc, ht⟩ := hi i (by rw [hmm]; split <;> omega)
      rw [h1] at hc
      obtain ⟨_, hcl, hat⟩ := World.cells?_some hc
      obtain ⟨b, e, _⟩ := DataW.trod_bool Try.underlying4 ht
      have h2 := hat 0 (by omega)
      rw [Go.Deep.add_add, e] at h2
      exact ⟨b, by simpa using h2⟩
    obtain ⟨b, off, spot⟩ := ad
    obtain ⟨G, hs⟩ : ∃ G : Nat → Bool, ∀ i, i < len → w.cell? ((⟨b, off, spot⟩ : Addr).add i) = some (.bool (G i)) :=
      ⟨fun i => if h : i < len then Classical.choose (hp i h) else false, fun i h => by
        have := Classical.choose_spec (hp i h)
        simp only [dif_pos h]
        exact this⟩
    refine ⟨⟨G, fun h0 => ?_⟩, hl, hm⟩
    have hspot : spot = none := by
      have := hs 0 h0
      simpa [Addr.add] using World.cell?_spot this
    subst hspot
    refine ⟨b, off, rfl, ?_, fun j hj => ?_⟩
    · have := hs 0 h0
      by_cases hb : b < w.heap.size
      · exact hb
      · rw [add_mid9] at this
        simp [World.cell?, Array.getElem?_eq_none (by omega : w.heap.size ≤ b)] at this
    · have := hs j hj
      rwa [add_mid9] at this
/-- An automaton that came in. -/
theorem open_nfa {H : Type} {enc : TypeId × Value → H} {w : World} {base fuel : Nat} {spare : Nat → Bool} {held : Bool} {cs : List Value} {x : DataW H × List MemPlace} (hlen : cs.length = 4)
    (h : DataW.trod enc Try.prog w base spare held fuel 24 cs = some x) : ∃ (S F T : Int) (a : Option Addr) (n c : Nat) (L : List Eg), cs = [.int .i64 S, .slice a n c, .int .i64 F, .int .i64 T] ∧ L.length = n ∧ EdAt w a L ∧ n ≤ c ∧ c ≤ maxLen := by
  have c3 : Try.prog.cellsOf 3 = 1 := by kernel_rfl
  have c4 : Try.prog.cellsOf 22 = 1 := by kernel_rfl
  obtain ⟨ys, n', hn', hy, hl, hyl, hf⟩ := DataW.trod_struct Try.underlying24 h
  have f0 := hf 0 _ rfl
  have f1 := hf 1 _ rfl
  have f2 := hf 2 _ rfl
  have f3 := hf 3 _ rfl
  match cs, hlen with
  | [v0, v1, v2, v3], _ =>
    simp [c3, c4] at f0 f1 f2 f3
    match ys, hyl with
    | [y0, y1, y2, y3], _ =>
      simp at f0 f1 f2 f3
      obtain ⟨S, e0, _⟩ := DataW.trod_int Try.underlying3 f0
      obtain ⟨F, e2, _⟩ := DataW.trod_int Try.underlying3 f2
      obtain ⟨T, e3, _⟩ := DataW.trod_int Try.underlying3 f3
      simp at e0 e2 e3
      subst e0 e2 e3
      have hsl : ∃ a n c, v1 = .slice a n c := by
        rcases open_slice Try.underlying22 f1 with ⟨hcs, _⟩ | ⟨ad, l, c, m, n, D, Pl, hcs, _⟩
        · simp at hcs; exact ⟨_, _, _, hcs⟩
        · simp at hcs; exact ⟨_, _, _, hcs⟩
      obtain ⟨a, n, c, rfl⟩ := hsl
      obtain ⟨L, h1, h2, h3, h4⟩ := open_edges f1
      exact ⟨S, F, T, a, n, c, L, rfl, h1, h2, h3, h4⟩
theorem open_nfa_val {H : Type} {enc : TypeId × Value → H} {w : World} {base b0 : Nat} {r : Reach} {spare : Nat → Bool} {held : Bool} {v : Value} (hk : Value.okWide Try.prog w r b0 24 v)
    (h : ∃ (fuel : Nat) (x : DataW H × List MemPlace), DataW.trod enc Try.prog w base spare held fuel 24 v.cells.toList = some x) :
    ∃ (S F T : Int) (a : Option Addr) (n c : Nat) (L : List Eg), v = .agg #[.int .i64 S, .slice a n c, .int .i64 F, .int .i64 T] ∧ L.length = n ∧ EdAt w a L ∧ n ≤ c ∧ c ≤ maxLen := by
  obtain ⟨xs, rfl, hsz⟩ : ∃ xs : Array Value, v = .agg xs ∧ xs.size = Try.prog.cellsOf 24 := by
    simp only [Value.okWide, Try.underlying24] at hk
    obtain ⟨cs, h1, h2, _⟩ := hk
    exact ⟨cs, h1, h2⟩
  rw [show Try.prog.cellsOf 24 = 4 by kernel_rfl] at hsz
  obtain ⟨fuel, x, hf⟩ := h
  have hcs : (Value.agg xs).cells.toList = xs.toList := rfl
  rw [hcs] at hf
  obtain ⟨S, F, T, a, n, c, L, h1, h2⟩ := open_nfa (by simpa using hsz) hf
  exact ⟨S, F, T, a, n, c, L, by congr 1; exact Array.toList_inj.1 (by rw [h1]), h2⟩
end Go.Proofs.Ytlnndkilaklifaa

namespace Go.Proofs.Ytlnndkilaklifaa
open Go.ChangeShapes Go.WideShapes Go.ChangeAt Go.RowKit Go.Deep
set_option linter.unusedVariables false
set_option maxRecDepth 100000

/-- Numbers that came in. -/
theorem open_ints9 {H : Type} {enc : TypeId × Value → H} {w : World} {base fuel : Nat} {spare : Nat → Bool} {held : Bool} {a : Option Addr} {len cap : Nat} {x : DataW H × List MemPlace}
    (h : DataW.trod enc Try.prog w base spare held fuel 25 [.slice a len cap] = some x) : (∃ g : Nat → Int, ZAt w a len g) ∧ len ≤ cap ∧ cap ≤ maxLen := by
  rcases open_slice Try.underlying25 h with ⟨hcs, _⟩ | ⟨ad, l, c, m, n, D, Pl, hcs, hb, hl, hm, hmm, hx, hi⟩
  · simp at hcs
    obtain ⟨rfl, rfl, rfl⟩ := hcs
    exact ⟨⟨fun _ => 0, fun h => absurd h (by omega)⟩, Nat.le_refl _, by unfold maxLen; omega⟩
  · simp at hcs
    obtain ⟨rfl, rfl, rfl⟩ := hcs
    have h1 : Try.prog.cellsOf 3 = 1 := by kernel_rfl
    have hp : ∀ i, i < len → ∃ p : Int, w.cell? (ad.add i) = some (.int .i64 p) := by
      intro i him
      obtain ⟨cs', hc, ht⟩ := hi i (by rw [hmm]; split <;> omega)
      rw [h1] at hc
      obtain ⟨_, hcl, hat⟩ := World.cells?_some hc
      obtain ⟨b, e, _⟩ := DataW.trod_int Try.underlying3 ht
      have h2 := hat 0 (by omega)
      rw [Go.Deep.add_add, e] at h2
      exact ⟨b, by simpa using h2⟩
    obtain ⟨b, off, spot⟩ := ad
    obtain ⟨G, hs⟩ : ∃ G : Nat → Int, ∀ i, i < len → w.cell? ((⟨b, off, spot⟩ : Addr).add i) = some (.int .i64 (G i)) :=
      ⟨fun i => if h : i < len then Classical.choose (hp i h) else 0, fun i h => by
        have := Classical.choose_spec (hp i h)
        simp only [dif_pos h]
        exact this⟩
    refine ⟨⟨G, fun h0 => ?_⟩, hl, hm⟩
    have hspot : spot = none := by
      have := hs 0 h0
      simpa [Addr.add] using World.cell?_spot this
    subst hspot
    refine ⟨b, off, rfl, ?_, fun j hj => ?_⟩
    · have := hs 0 h0
      by_cases hb : b < w.heap.size
      · exact hb
      · rw [add_mid9] at this
        simp [World.cell?, Array.getElem?_eq_none (by omega : w.heap.size ≤ b)] at this
    · have := hs j hj
      rwa [add_mid9] at this
end Go.Proofs.Ytlnndkilaklifaa
