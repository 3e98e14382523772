import Derived.Test.YtldpmcgkbdejjaaZDBase
namespace Go.Proofs.Ytldpmcgkbdejjaa
open Go.RowKit
set_option linter.unusedVariables false

/-- Marks in memory. -/
def ZAt (w : World) (a : Option Addr) (n : Nat) (z : Nat → Int) : Prop := 0 < n → ∃ g off, a = some ⟨g, off, none⟩ ∧ g < w.heap.size ∧ ∀ j, j < n → w.cell? ⟨g, off + j, none⟩ = some (.int .i64 (z j))
theorem ZAt.below {w w' : World} {a : Option Addr} {n : Nat} {z : Nat → Int} (h : ZAt w a n z) (k : Below w.heap.size w w') : ZAt w' a n z := by
  intro h0
  obtain ⟨g, off, e, hg, hc⟩ := h h0
  have := k.size
  exact ⟨g, off, e, by omega, fun j hj => (k.cell (p := ⟨g, off + j, none⟩) hg).trans (hc j hj)⟩
end Go.Proofs.Ytldpmcgkbdejjaa

namespace Go.Proofs.Ytldpmcgkbdejjaa
open Go.ChangeShapes Go.WideShapes Go.ChangeAt Go.RowKit Go.Deep
set_option linter.unusedVariables false
set_option maxRecDepth 100000

theorem add_mid9 (b o j : Nat) : (⟨b, o, none⟩ : Addr).add j = ⟨b, o + j, none⟩ := by unfold Addr.add; split <;> simp_all

/-- Numbers that came in. -/
theorem open_ints9 {H : Type} {enc : TypeId × Value → H} {w : World} {base fuel : Nat} {spare : Nat → Bool} {held : Bool} {a : Option Addr} {len cap : Nat} {x : DataW H × List MemPlace}
    (h : DataW.trod enc Try.prog w base spare held fuel 24 [.slice a len cap] = some x) : (∃ g : Nat → Int, ZAt w a len g) ∧ len ≤ cap ∧ cap ≤ maxLen := by
  rcases open_slice Try.underlying24 h with ⟨hcs, _⟩ | ⟨ad, l, c, m, n, D, Pl, hcs, hb, hl, hm, hmm, hx, hi⟩
  · simp at hcs
    obtain ⟨rfl, rfl, rfl⟩ := hcs
    exact ⟨⟨fun _ => 0, fun h => absurd h (by omega)⟩, Nat.le_refl _, by unfold maxLen; omega⟩
  · simp at hcs
    obtain ⟨rfl, rfl, rfl⟩ := hcs
    have h1 : Try.prog.cellsOf 3 = 1 := by kernel_rfl
    have hp : ∀ i, i < len → ∃ p : Int, w.cell? (ad.add i) = some (.int .i64 p) := by
      intro i him
      obtain ⟨cs', hc, ht⟩ := hi i (by rw [hmm]; split <;> omega)
      rw [h1] at hc
      obtain ⟨_, hcl, hat⟩ := World.cells?_some hc
      obtain ⟨b, e, _⟩ := DataW.trod_int Try.underlying3 ht
      have h2 := hat 0 (by omega)
      rw [Go.Deep.add_add, e] at h2
      exact ⟨b, by simpa using h2⟩
    obtain ⟨b, off, spot⟩ := ad
    obtain ⟨G, hs⟩ : ∃ G : Nat → Int, ∀ i, i < len → w.cell? ((⟨b, off, spot⟩ : Addr).add i) = some (.int .i64 (G i)) :=
      ⟨fun i => if h : i < len then Classical.choose (hp i h) else 0, fun i h => by
        have := Classical.choose_spec (hp i h)
        simp only [dif_pos h]
        exact this⟩
    refine ⟨⟨G, fun h0 => ?_⟩, hl, hm⟩
    have hspot : spot = none := by
      have := hs 0 h0
      simpa [Addr.add] using World.cell?_spot this
    subst hspot
    refine ⟨b, off, rfl, ?_, fun j hj => ?_⟩
    · have := hs 0 h0
      by_cases hb : b < w.heap.size
      · exact hb
      · rw [add_mid9] at this
        simp [World.cell?, Array.getElem?_eq_none (by omega : w.heap.size ≤ b)] at this
    · have := hs j hj
      rwa [add_mid9] at this
end Go.Proofs.Ytldpmcgkbdejjaa

namespace Go.Proofs.Ytldpmcgkbdejjaa
open Go.RowKit
set_option linter.unusedVariables false
set_option linter.unusedSimpArgs false

/-- A token. -/
structure Tok where
  r : Int
  s : ByteArray
  p : Int
def tkCells (t : Tok) : List Value := [.int .i64 t.r, .string t.s, .int .i64 t.p]
def tks (l : List Tok) : List Value := l.flatMap tkCells
theorem tks_length (l : List Tok) : (tks l).length = l.length * 3 := by
  induction l with
  | nil => rfl
  | cons x l ih => simp [tks, tkCells] at ih ⊢; omega
theorem tks_append (a b : List Tok) : tks (a ++ b) = tks a ++ tks b := by simp [tks]
theorem tks_get (l : List Tok) (i : Nat) (h : i < l.length) (j : Nat) (hj : j < 3) : (tks l)[i * 3 + j]? = (tkCells l[i])[j]? := by
  induction l generalizing i with
  | nil => simp at h
  | cons x l ih =>
    have hc : (tkCells x).length = 3 := by simp [tkCells]
    show (tkCells x ++ tks l)[i * 3 + j]? = _
    match i, h with
    | 0, _ =>
      rw [Nat.zero_mul, Nat.zero_add, List.getElem?_append_left (by omega)]
      rfl
    | i + 1, h =>
      rw [List.getElem?_append_right (by omega), hc, show (i + 1) * 3 + j - 3 = i * 3 + j by omega, ih i (by simpa using h)]
      rfl
/-- Tokens in memory. -/
def TkAt (w : World) (a : Option Addr) (l : List Tok) : Prop := 0 < l.length → ∃ g off, a = some ⟨g, off, none⟩ ∧ g < w.heap.size ∧ ∀ j, j < l.length * 3 → w.cell? ⟨g, off + j, none⟩ = (tks l)[j]?
theorem TkAt.below {w w' : World} {a : Option Addr} {l : List Tok} (h : TkAt w a l) (k : Below w.heap.size w w') : TkAt w' a l := by
  intro h0
  obtain ⟨g, off, rfl, hg, hc⟩ := h h0
  have := k.size
  exact ⟨g, off, rfl, by omega, fun j hj => (k.cell (p := ⟨g, off + j, none⟩) hg).trans (hc j hj)⟩
/-- The cells of one token. -/
theorem TkAt.get {w : World} {a : Option Addr} {l : List Tok} (h : TkAt w a l) (k : Nat) (hk : k < l.length) :
    ∃ g off, a = some ⟨g, off, none⟩ ∧ g < w.heap.size ∧ w.cell? ⟨g, off + k * 3, none⟩ = some (.int .i64 l[k].r) ∧ w.cell? ⟨g, off + k * 3 + 1, none⟩ = some (.string l[k].s) ∧ w.cell? ⟨g, off + k * 3 + 2, none⟩ = some (.int .i64 l[k].p) := by
  obtain ⟨g, off, rfl, hg, hc⟩ := h (by omega)
  refine ⟨g, off, rfl, hg, ?_, ?_, ?_⟩
  · have := tks_get l k hk 0 (by omega)
    rw [hc _ (by omega)]; exact this
  all_goals
    rw [Nat.add_assoc, hc _ (by omega), tks_get l k hk _ (by omega)]
    rfl
theorem own_tks {w : World} {B n c : Nat} {a : Option Addr} {l : List Tok} (hl : l.length = n) (h : w.ownsRow B 51 3 (.slice a n c) n (tks l)) : TkAt w a l := by
  intro h0
  obtain ⟨g, e, _, hg, hc⟩ := ownsRow_read h (by omega)
  exact ⟨g, 0, e, hg, fun j hj => by rw [Nat.zero_add, (hc j (by omega)).1]⟩
theorem Try.info_tok : (Try.prog.info? 51).map (fun i => (i.zero, i.size, i.bytes)) = some (some (.agg #[.int .i64 0, .string ⟨#[]⟩, .int .i64 0]), 3, 32) := by kernel_rfl
end Go.Proofs.Ytldpmcgkbdejjaa
