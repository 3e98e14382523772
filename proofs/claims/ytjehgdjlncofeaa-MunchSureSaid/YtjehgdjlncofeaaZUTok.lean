import Derived.Test.YtjehgdjlncofeaaZSClose
import Derived.Test.YtjehgdjlncofeaaZUMun
import Derived.Test.YtjehgdjlncofeaaZURef
namespace Go.Proofs.Ytjehgdjlncofeaa
open Go.RowKit Go.Maps Go.WideElems Go.ChangeMaps Go.MapKept
set_option linter.unusedVariables false
set_option linter.unusedSimpArgs false

/-- A token. -/
structure Tok where
  r : Int
  s : ByteArray
  p : Int
def tkCells (t : Tok) : List Value := [.int .i64 t.r, .string t.s, .int .i64 t.p]
def tks (l : List Tok) : List Value := l.flatMap tkCells
theorem tks_append (a b : List Tok) : tks (a ++ b) = tks a ++ tks b := by simp [tks]
theorem tks_get (l : List Tok) (i : Nat) (h : i < l.length) (j : Nat) (hj : j < 3) : (tks l)[i * 3 + j]? = (tkCells l[i])[j]? := by
  induction l generalizing i with
  | nil => simp at h
  | cons x l ih =>
    have hc : (tkCells x).length = 3 := by simp [tkCells]
    show (tkCells x ++ tks l)[i * 3 + j]? = _
    match i, h with
    | 0, _ =>
      rw [Nat.zero_mul, Nat.zero_add, List.getElem?_append_left (by omega)]
      rfl
    | i + 1, h =>
      rw [List.getElem?_append_right (by omega), hc, show (i + 1) * 3 + j - 3 = i * 3 + j by omega, ih i (by simpa using h)]
      rfl
/-- Tokens in memory. -/
def TkAt (w : World) (a : Option Addr) (l : List Tok) : Prop := 0 < l.length → ∃ g off, a = some ⟨g, off, none⟩ ∧ g < w.heap.size ∧ ∀ j, j < l.length * 3 → w.cell? ⟨g, off + j, none⟩ = (tks l)[j]?
theorem TkAt.below {w w' : World} {a : Option Addr} {l : List Tok} (h : TkAt w a l) (k : Below w.heap.size w w') : TkAt w' a l := by
  intro h0
  obtain ⟨g, off, rfl, hg, hc⟩ := h h0
  have := k.size
  exact ⟨g, off, rfl, by omega, fun j hj => (k.cell (p := ⟨g, off + j, none⟩) hg).trans (hc j hj)⟩
/-- The cells of one token. -/
theorem TkAt.get {w : World} {a : Option Addr} {l : List Tok} (h : TkAt w a l) (k : Nat) (hk : k < l.length) :
    ∃ g off, a = some ⟨g, off, none⟩ ∧ g < w.heap.size ∧ w.cell? ⟨g, off + k * 3, none⟩ = some (.int .i64 l[k].r) ∧ w.cell? ⟨g, off + k * 3 + 1, none⟩ = some (.string l[k].s) ∧ w.cell? ⟨g, off + k * 3 + 2, none⟩ = some (.int .i64 l[k].p) := by
  obtain ⟨g, off, rfl, hg, hc⟩ := h (by omega)
  refine ⟨g, off, rfl, hg, ?_, ?_, ?_⟩
  · have := tks_get l k hk 0 (by omega)
    rw [hc _ (by omega)]; exact this
  all_goals
    rw [Nat.add_assoc, hc _ (by omega), tks_get l k hk _ (by omega)]
    rfl
theorem own_tks {w : World} {B n c : Nat} {a : Option Addr} {l : List Tok} (hl : l.length = n) (h : w.ownsRow B 36 3 (.slice a n c) n (tks l)) : TkAt w a l := by
  intro h0
  obtain ⟨g, e, _, hg, hc⟩ := ownsRow_read h (by omega)
  exact ⟨g, 0, e, hg, fun j hj => by rw [Nat.zero_add, (hc j (by omega)).1]⟩
theorem Try.info_tok : (Try.prog.info? 36).map (fun i => (i.zero, i.size, i.bytes)) = some (some (.agg #[.int .i64 0, .string ⟨#[]⟩, .int .i64 0]), 3, 32) := by kernel_rfl

/-- The tokens of a text. -/
def tokOf (s : ByteArray) (x : Int × Nat × Nat) : Tok := ⟨x.1, s.extract x.2.1 (x.2.1 + x.2.2), (x.2.1 : Nat)⟩
def tkL (D : Dd) (s : ByteArray) (k : Nat) : List Tok := (tkN D (zof s) s.size k).1.map (tokOf s)
def tkE (D : Dd) (s : ByteArray) (k : Nat) : Nat := (tkN D (zof s) s.size k).2
def StopS (D : Dd) (s : ByteArray) (k : Nat) : Prop := StopN D (zof s) s.size k
theorem tkL_len (D : Dd) (s : ByteArray) (k : Nat) : (tkL D s k).length = k := by simp [tkL, tkN_len]
theorem tkE_le (D : Dd) (s : ByteArray) (k : Nat) : tkE D s k ≤ s.size := tkN_end D _ _ k
/-- One more. -/
theorem tk_succ {D : Dd} {s : ByteArray} {k p ln : Nat} {mk : Int} (hp : tkE D s k = p) (h : longF D (zof s) p (s.size - p) = (mk, ln)) : tkL D s (k + 1) = tkL D s k ++ [⟨mk, s.extract p (p + ln), (p : Nat)⟩] ∧ tkE D s (k + 1) = p + ln := by
  unfold tkE at hp
  constructor
  · unfold tkL
    simp only [tkN, hp, h, List.map_append, List.map_cons, List.map_nil, tokOf]
  · unfold tkE
    simp only [tkN, hp, h]
theorem stop_end {D : Dd} {s : ByteArray} {k : Nat} (h : s.size ≤ tkE D s k) : StopS D s k := Or.inl h
theorem stop_none {D : Dd} {s : ByteArray} {k p ln : Nat} {mk : Int} (hp : tkE D s k = p) (h : longF D (zof s) p (s.size - p) = (mk, ln)) (h0 : ln = 0) : StopS D s k := by
  unfold tkE at hp
  refine Or.inr ?_
  rw [hp, h]
  exact h0
theorem stop_not {D : Dd} {s : ByteArray} {k p ln : Nat} {mk : Int} (hp : tkE D s k = p) (h : longF D (zof s) p (s.size - p) = (mk, ln)) (h0 : 0 < ln) (h1 : p < s.size) : ¬ StopS D s k := by
  unfold tkE at hp
  unfold StopS StopN
  rw [hp, h]
  simp only
  omega
/-- All tokens: what is told, and how it ended (o: what is told of the end). -/
def AllP (D : Dd) (s : ByteArray) (o : Bool → Value) (w : World) (e : Ending) (w' : World) : Prop :=
  ∃ (k : Nat) (a : Option Addr) (c : Nat), StopS D s k ∧ (∀ j, j < k → ¬ StopS D s j) ∧ e = .returned (.tuple #[.slice a k c, .int .i64 ((tkE D s k : Nat) : Int), o (decide (s.size ≤ tkE D s k))]) ∧ TkAt w' a (tkL D s k) ∧ k ≤ s.size ∧ Below w.heap.size w w'
theorem tk_count {D : Dd} {s : ByteArray} {k : Nat} (h : ∀ j, j < k → ¬ StopS D s j) : k ≤ s.size := Nat.le_trans (tkN_grows h) (tkE_le D s k)
end Go.Proofs.Ytjehgdjlncofeaa
