import Derived.Test.YtlnndkilaklifaaZDBase
import Derived.Test.YtlnndkilaklifaaZNMath
import Derived.Test.YtlnndkilaklifaaZPutBase
import Derived.Deep.OwnRows
import Derived.IntWalk
namespace Go.Proofs.Ytlnndkilaklifaa
open Go.RowKit
set_option linter.unusedVariables false

/-- An edge as it lies there: its ends may be no states. -/
structure Eg where
  f : Int
  t : Int
  p : Nat → Bool
  b : Bool
def En.z (e : En) : Eg := ⟨(e.f : Int), (e.t : Int), e.p, e.b⟩
def egCells (x : Eg) : List Value := (#[.int .i64 x.f, .int .i64 x.t, .int .u64 ((wd x.p 0 : Nat) : Int), .int .u64 ((wd x.p 1 : Nat) : Int), .int .u64 ((wd x.p 2 : Nat) : Int), .int .u64 ((wd x.p 3 : Nat) : Int), .bool x.b]).toList
def egs (l : List Eg) : List Value := l.flatMap egCells
theorem egs_length (l : List Eg) : (egs l).length = l.length * 7 := by
  induction l with
  | nil => rfl
  | cons x l ih => simp [egs, egCells] at ih ⊢; omega
theorem egs_append (a b : List Eg) : egs (a ++ b) = egs a ++ egs b := by simp [egs]
theorem egs_get (l : List Eg) (i : Nat) (h : i < l.length) (j : Nat) (hj : j < 7) : (egs l)[i * 7 + j]? = (egCells l[i])[j]? := by
  induction l generalizing i with
  | nil => simp at h
  | cons x l ih =>
    have hc : (egCells x).length = 7 := by simp [egCells]
    show (egCells x ++ egs l)[i * 7 + j]? = _
    match i, h with
    | 0, _ =>
      rw [Nat.zero_mul, Nat.zero_add, List.getElem?_append_left (by omega)]
      rfl
    | i + 1, h =>
      rw [List.getElem?_append_right (by omega), hc, show (i + 1) * 7 + j - 7 = i * 7 + j by omega, ih i (by simpa using h)]
      rfl
/-- Edges in memory. -/
def EdAt (w : World) (a : Option Addr) (l : List Eg) : Prop := 0 < l.length → ∃ g off, a = some ⟨g, off, none⟩ ∧ g < w.heap.size ∧ ∀ j, j < l.length * 7 → w.cell? ⟨g, off + j, none⟩ = (egs l)[j]?
theorem EdAt.below {w w' : World} {a : Option Addr} {l : List Eg} (h : EdAt w a l) (k : Below w.heap.size w w') : EdAt w' a l := by
  intro h0
  obtain ⟨g, off, rfl, hg, hc⟩ := h h0
  have := k.size
  exact ⟨g, off, rfl, by omega, fun j hj => (k.cell (p := ⟨g, off + j, none⟩) hg).trans (hc j hj)⟩
def At7 (w : World) (g o : Nat) (x : Eg) : Prop :=
  w.cell? ⟨g, o, none⟩ = some (.int .i64 x.f) ∧ w.cell? ⟨g, o + 1, none⟩ = some (.int .i64 x.t) ∧ w.cell? ⟨g, o + 2, none⟩ = some (.int .u64 ((wd x.p 0 : Nat) : Int)) ∧ w.cell? ⟨g, o + 3, none⟩ = some (.int .u64 ((wd x.p 1 : Nat) : Int)) ∧
    w.cell? ⟨g, o + 4, none⟩ = some (.int .u64 ((wd x.p 2 : Nat) : Int)) ∧ w.cell? ⟨g, o + 5, none⟩ = some (.int .u64 ((wd x.p 3 : Nat) : Int)) ∧ w.cell? ⟨g, o + 6, none⟩ = some (.bool x.b)
/-- The cells of one edge. -/
theorem EdAt.get {w : World} {a : Option Addr} {l : List Eg} (h : EdAt w a l) (k : Nat) (hk : k < l.length) :
    ∃ g off, a = some ⟨g, off, none⟩ ∧ g < w.heap.size ∧ At7 w g (off + k * 7) l[k] := by
  obtain ⟨g, off, rfl, hg, hc⟩ := h (by omega)
  refine ⟨g, off, rfl, hg, ?_, ?_, ?_, ?_, ?_, ?_, ?_⟩
  · have := egs_get l k hk 0 (by omega)
    rw [hc _ (by omega)]; exact this
  all_goals
    rw [Nat.add_assoc, hc _ (by omega), egs_get l k hk _ (by omega)]
    rfl
/-- An edge in a block of its own. -/
theorem edge_new (w : World) (x : Eg) : At7 (w.alloc (.cells #[.int .i64 x.f, .int .i64 x.t, .int .u64 ((wd x.p 0 : Nat) : Int), .int .u64 ((wd x.p 1 : Nat) : Int), .int .u64 ((wd x.p 2 : Nat) : Int), .int .u64 ((wd x.p 3 : Nat) : Int), .bool x.b] 43)) w.heap.size 0 x := by
  have h := St.new w 43 #[.int .i64 x.f, .int .i64 x.t, .int .u64 ((wd x.p 0 : Nat) : Int), .int .u64 ((wd x.p 1 : Nat) : Int), .int .u64 ((wd x.p 2 : Nat) : Int), .int .u64 ((wd x.p 3 : Nat) : Int), .bool x.b]
  refine ⟨?_, ?_, ?_, ?_, ?_, ?_, ?_⟩ <;> (rw [cell_of_row _ _ _ _ _ _ h]; rfl)
theorem At7.below {w w' : World} {g o : Nat} {x : Eg} (h : At7 w g o x) (hg : g < w.heap.size) (k : Below w.heap.size w w') : At7 w' g o x :=
  ⟨(k.cell (p := ⟨g, o, none⟩) hg).trans h.1, (k.cell (p := ⟨g, o + 1, none⟩) hg).trans h.2.1, (k.cell (p := ⟨g, o + 2, none⟩) hg).trans h.2.2.1, (k.cell (p := ⟨g, o + 3, none⟩) hg).trans h.2.2.2.1,
    (k.cell (p := ⟨g, o + 4, none⟩) hg).trans h.2.2.2.2.1, (k.cell (p := ⟨g, o + 5, none⟩) hg).trans h.2.2.2.2.2.1, (k.cell (p := ⟨g, o + 6, none⟩) hg).trans h.2.2.2.2.2.2⟩
theorem St.cells4 {w : World} {g : Nat} {c0 c1 c2 c3 : Value} {t : TypeId} (h : St w t g #[c0, c1, c2, c3]) : w.cell? ⟨g, 0, none⟩ = some c0 ∧ w.cell? ⟨g, 1, none⟩ = some c1 ∧ w.cell? ⟨g, 2, none⟩ = some c2 ∧ w.cell? ⟨g, 3, none⟩ = some c3 := by
  obtain ⟨h0, h1, h2, h3, _⟩ := row4 h
  exact ⟨h0, h1, h2, h3⟩
theorem St.at_ {w : World} {t g : Nat} {cs : Array Value} (h : St w t g cs) (i : Nat) : w.cell? ⟨g, i, none⟩ = cs[i]? := cell_of_row _ _ _ _ _ _ h
theorem St.thaw_ {w : World} {t g : Nat} {cs : Array Value} (h : St w t g cs) (i : Nat) : w.frozen? ⟨g, i, none⟩ = false := frozen_of_row w g i _ _ h
/-! ### Truths -/
/-- Truths in memory. -/
def BAt (w : World) (a : Option Addr) (n : Nat) (f : Nat → Bool) : Prop := 0 < n → ∃ g off, a = some ⟨g, off, none⟩ ∧ g < w.heap.size ∧ ∀ j, j < n → w.cell? ⟨g, off + j, none⟩ = some (.bool (f j))
theorem BAt.below {w w' : World} {a : Option Addr} {n : Nat} {f : Nat → Bool} (h : BAt w a n f) (k : Below w.heap.size w w') : BAt w' a n f := by
  intro h0
  obtain ⟨g, off, e, hg, hc⟩ := h h0
  have := k.size
  exact ⟨g, off, e, by omega, fun j hj => (k.cell (p := ⟨g, off + j, none⟩) hg).trans (hc j hj)⟩
def bls (f : Nat → Bool) (n : Nat) : List Value := (List.range n).map fun j => .bool (f j)
theorem bls_succ (f : Nat → Bool) (n : Nat) : bls f (n + 1) = bls f n ++ [.bool (f n)] := by simp [bls, List.range_succ]
theorem bls_len (f : Nat → Bool) (n : Nat) : (bls f n).length = n := by simp [bls]
theorem bls_at {w : World} {B n c : Nat} {a : Option Addr} {f : Nat → Bool} (h : w.ownsRow B 4 1 (.slice a n c) n (bls f n)) : BAt w a n f := by
  intro h0
  obtain ⟨g, e, _, hg, hc⟩ := ownsRow_read h h0
  exact ⟨g, 0, e, hg, fun j hj => by rw [Nat.zero_add, (hc j (by omega)).1]; simp [bls, hj]⟩
theorem own_put {w : World} {base e g n c : Nat} {xs : List Value} (h : w.ownsRow base e 1 (.slice (some ⟨g, 0, none⟩) n c) n xs) (j : Nat) (hj : j < n) (u : Value) : (w.setCell ⟨g, j, none⟩ u).ownsRow base e 1 (.slice (some ⟨g, 0, none⟩) n c) n (xs.set j u) := by
  refine ⟨by rw [List.length_set]; exact h.1, ?_⟩
  rcases h.2 with ⟨h1, _⟩ | ⟨g', cap, cur, h1, h2, h3, h4, h5, h6, h7⟩
  · cases h1
  · injection h1 with e1 _ e3
    injection e1 with e1
    injection e1 with e1
    subst e1 e3
    refine Or.inr ⟨g, c, cur.setIfInBounds j u, rfl, h2, heap_setCell_same w g j cur e u h3, h4, h5, by simpa using h6, ?_⟩
    rw [Array.toList_setIfInBounds, ← h7]
    rw [List.take_set]
theorem bls_setv (f : Nat → Bool) (m n : Nat) (v : Bool) : (bls f m).set n (.bool v) = bls (fun j => if j = n then v else f j) m := by
  apply List.ext_getElem?
  intro i
  rw [List.getElem?_set]
  by_cases hi : i < m
  · by_cases e : n = i
    · subst e
      simp [bls, hi]
    · have e' : ¬ i = n := fun h => e h.symm
      simp only [bls, if_neg e, List.getElem?_map, List.getElem?_range hi, Option.map_some, if_neg e']
  · by_cases e : n = i
    · subst e
      simp [bls, hi]
    · simp [bls, e, List.getElem?_eq_none (by simp; omega : (List.range m).length ≤ i)]
theorem bls_congr {f g : Nat → Bool} {m : Nat} (h : ∀ j, j < m → f j = g j) : bls f m = bls g m := by
  unfold bls
  exact List.map_congr_left (fun j hj => by rw [h j (by simpa using hj)])
theorem ins_if (f : Nat → Bool) (n : Nat) : (fun j => if j = n then true else f j) = ins f n := by
  funext j
  by_cases h : j = n <;> simp [ins, h]
theorem nodup_below {l : List Nat} (h : l.Nodup) {m : Nat} (hm : ∀ n ∈ l, n < m) : l.length ≤ m := by
  have := h.length_le_of_subset (l₂ := List.range m) (fun x hx => by simpa using hm x hx)
  simpa using this
theorem make_bl (N : Nat) (hN : N ≤ 2147483647) (W : World) : (Instr.makeSlice 49 (.int .i64 ((N : Nat) : Int)) (.int .i64 ((N : Nat) : Int))).run Try.prog W = .ok (.slice (some ⟨W.heap.size, 0, none⟩) N N) (W.alloc (.cells (madeCells #[.bool false] N) 4)) := by
  have := run_make_row' (P := Try.prog) 49 4 (.bool false) 1 Try.underlying49 Try.info_bool rfl .i64 .i64 N (by omega) (by omega) W
  simpa using this
/-- A row that was just made. -/
theorem made_own (w : World) (base N : Nat) (e : TypeId) (z : Value) (hb : base ≤ w.heap.size) (hN : N ≤ maxLen) : (w.alloc (.cells (madeCells #[z] N) e)).ownsRow base e 1 (.slice (some ⟨w.heap.size, 0, none⟩) N N) N (List.replicate N z) := by
  have e1 : (madeCells #[z] N).toList = List.replicate N z := by
    apply List.ext_getElem?
    intro i
    by_cases hi : i < N
    · simp [madeCells, hi, Nat.mod_one]
    · simp [madeCells, hi]
  rw [← e1]
  exact own_lit w base e 1 _ N (by simp [size_madeCells]) hb hN
theorem rep_bls (N : Nat) : List.replicate N (.bool false) = bls (fun _ => false) N := by
  induction N with
  | zero => rfl
  | succ N ih => rw [List.replicate_succ', ih, bls_succ]
end Go.Proofs.Ytlnndkilaklifaa
