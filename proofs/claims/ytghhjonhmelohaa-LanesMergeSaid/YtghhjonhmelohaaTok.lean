import Derived.Test.YtghhjonhmelohaaMem
namespace Go.Proofs.Ytghhjonhmelohaa
open Go.RowKit
set_option linter.unusedVariables false
set_option linter.unusedSimpArgs false

/-- A token. -/
structure Tok where
  r : Int
  s : ByteArray
  p : Int
def tkCells (t : Tok) : List Value := [.int .i64 t.r, .string t.s, .int .i64 t.p]
def tks (l : List Tok) : List Value := l.flatMap tkCells
theorem tks_length (l : List Tok) : (tks l).length = l.length * 3 := by
  induction l with
  | nil => rfl
  | cons x l ih => simp [tks, tkCells] at ih ⊢; omega
theorem tks_append (a b : List Tok) : tks (a ++ b) = tks a ++ tks b := by simp [tks]
theorem tks_get (l : List Tok) (i : Nat) (h : i < l.length) (j : Nat) (hj : j < 3) : (tks l)[i * 3 + j]? = (tkCells l[i])[j]? := by
  induction l generalizing i with
  | nil => simp at h
  | cons x l ih =>
    have hc : (tkCells x).length = 3 := by simp [tkCells]
    show (tkCells x ++ tks l)[i * 3 + j]? = _
    match i, h with
    | 0, _ =>
      rw [Nat.zero_mul, Nat.zero_add, List.getElem?_append_left (by omega)]
      rfl
    | i + 1, h =>
      rw [List.getElem?_append_right (by omega), hc, show (i + 1) * 3 + j - 3 = i * 3 + j by omega, ih i (by simpa using h)]
      rfl
/-- Tokens in memory. -/
def TkAt (w : World) (a : Option Addr) (l : List Tok) : Prop := 0 < l.length → ∃ g off, a = some ⟨g, off, none⟩ ∧ g < w.heap.size ∧ ∀ j, j < l.length * 3 → w.cell? ⟨g, off + j, none⟩ = (tks l)[j]?
theorem TkAt.below {w w' : World} {a : Option Addr} {l : List Tok} (h : TkAt w a l) (k : Below w.heap.size w w') : TkAt w' a l := by
  intro h0
  obtain ⟨g, off, rfl, hg, hc⟩ := h h0
  have := k.size
  exact ⟨g, off, rfl, by omega, fun j hj => (k.cell (p := ⟨g, off + j, none⟩) hg).trans (hc j hj)⟩
theorem TkAt.drew {w : World} {a : Option Addr} {l : List Tok} (h : TkAt w a l) : TkAt w.drew a l := h
/-- The cells of one token. -/
theorem TkAt.get {w : World} {a : Option Addr} {l : List Tok} (h : TkAt w a l) (k : Nat) (hk : k < l.length) :
    ∃ g off, a = some ⟨g, off, none⟩ ∧ g < w.heap.size ∧ w.cell? ⟨g, off + k * 3, none⟩ = some (.int .i64 l[k].r) ∧ w.cell? ⟨g, off + k * 3 + 1, none⟩ = some (.string l[k].s) ∧ w.cell? ⟨g, off + k * 3 + 2, none⟩ = some (.int .i64 l[k].p) := by
  obtain ⟨g, off, rfl, hg, hc⟩ := h (by omega)
  refine ⟨g, off, rfl, hg, ?_, ?_, ?_⟩
  · have := tks_get l k hk 0 (by omega)
    rw [hc _ (by omega)]; exact this
  all_goals
    rw [Nat.add_assoc, hc _ (by omega), tks_get l k hk _ (by omega)]
    rfl
theorem own_tks {w : World} {B n c : Nat} {a : Option Addr} {l : List Tok} (hl : l.length = n) (h : w.ownsRow B 32 3 (.slice a n c) n (tks l)) : TkAt w a l := by
  intro h0
  obtain ⟨g, e, _, hg, hc⟩ := ownsRow_read h (by omega)
  exact ⟨g, 0, e, hg, fun j hj => by rw [Nat.zero_add, (hc j (by omega)).1]⟩
theorem Try.info_tok : (Try.prog.info? 32).map (fun i => (i.zero, i.size, i.bytes)) = some (some (.agg #[.int .i64 0, .string ⟨#[]⟩, .int .i64 0]), 3, 32) := by kernel_rfl
end Go.Proofs.Ytghhjonhmelohaa
