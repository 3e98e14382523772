import Derived.Test.YtlnndkilaklifaaZBase
import Derived.Test.YtlnndkilaklifaaZOwn
import Derived.Lib.Walk
import Derived.Deep.RegionWith
namespace Go.Proofs.Ytlnndkilaklifaa
open Go.RowKit

/-- A piece of an expression: its kind, its set. -/
structure Pc where
  k : Int
  p : Nat → Bool
/-- Nothing in it. -/
def noneB (p : Nat → Bool) : Bool := decide ((lst p 256).length = 0)
/-- The cells of a piece. -/
def pcCells (x : Pc) : List Value := .int .i64 x.k :: (#[.int .u64 ((wd x.p 0 : Nat) : Int), .int .u64 ((wd x.p 1 : Nat) : Int), .int .u64 ((wd x.p 2 : Nat) : Int), .int .u64 ((wd x.p 3 : Nat) : Int)]).toList
/-- Pieces in memory. -/
def pcs (l : List Pc) : List Value := l.flatMap pcCells
theorem pcs_length (l : List Pc) : (pcs l).length = l.length * 5 := by
  induction l with
  | nil => rfl
  | cons x l ih => simp [pcs, pcCells] at ih ⊢; omega
theorem pcs_append (a b : List Pc) : pcs (a ++ b) = pcs a ++ pcs b := by simp [pcs]
theorem pcs_get (l : List Pc) (i : Nat) (h : i < l.length) (j : Nat) (hj : j < 5) : (pcs l)[i * 5 + j]? = (pcCells l[i])[j]? := by
  induction l generalizing i with
  | nil => simp at h
  | cons x l ih =>
    have hc : (pcCells x).length = 5 := by simp [pcCells]
    show (pcCells x ++ pcs l)[i * 5 + j]? = _
    match i, h with
    | 0, _ =>
      rw [Nat.zero_mul, Nat.zero_add, List.getElem?_append_left (by omega)]
      rfl
    | i + 1, h =>
      rw [List.getElem?_append_right (by omega), hc, show (i + 1) * 5 + j - 5 = i * 5 + j by omega, ih i (by simpa using h)]
      rfl
theorem pcs_cells (l : List Pc) (i : Nat) (h : i < l.length) :
    (pcs l)[i * 5]? = some (.int .i64 l[i].k) ∧ (pcs l)[i * 5 + 1]? = some (.int .u64 ((wd l[i].p 0 : Nat) : Int)) ∧ (pcs l)[i * 5 + 2]? = some (.int .u64 ((wd l[i].p 1 : Nat) : Int)) ∧
    (pcs l)[i * 5 + 3]? = some (.int .u64 ((wd l[i].p 2 : Nat) : Int)) ∧ (pcs l)[i * 5 + 4]? = some (.int .u64 ((wd l[i].p 3 : Nat) : Int)) :=
  ⟨pcs_get l i h 0 (by omega), pcs_get l i h 1 (by omega), pcs_get l i h 2 (by omega), pcs_get l i h 3 (by omega), pcs_get l i h 4 (by omega)⟩

/-- How many operands a piece of a kind takes; -1: there is no such kind. -/
def takesZ (k : Int) : Int := if k = 0 ∨ k = 1 then 0 else if k = 2 ∨ k = 3 then 2 else if k = 4 ∨ k = 5 ∨ k = 6 then 1 else -1
theorem takesZ_cases (k : Int) : (takesZ k = 0 ∧ (k = 0 ∨ k = 1)) ∨ (takesZ k = 2 ∧ (k = 2 ∨ k = 3)) ∨ (takesZ k = 1 ∧ (k = 4 ∨ k = 5 ∨ k = 6)) ∨ (takesZ k = -1 ∧ (k < 0 ∨ 6 < k)) := by
  unfold takesZ
  repeat' split
  all_goals omega
/-- Has a piece a set where it should, and none where not? -/
def okSet (x : Pc) : Bool := noneB x.p != (x.k == 1)
/-- May a piece stand behind n expressions? -/
def okPc (x : Pc) (n : Int) : Bool := decide (0 ≤ takesZ x.k) && decide (takesZ x.k ≤ n) && okSet x
/-- How many expressions are there behind the pieces? -/
def chkGo : List Pc → Int → Option Int
  | [], n => some n
  | x :: r, n => if okPc x n = true then chkGo r (n + 1 - takesZ x.k) else none
/-- The number of the error, or 0. -/
def chkT (l : List Pc) : Nat := if 400 < l.length then 6 else if chkGo l 0 = some 1 then 0 else 5

/-- An expression as a tree. -/
inductive Rx where
  | leaf (x : Pc)
  | un (x : Pc) (a : Rx)
  | bin (x : Pc) (a b : Rx)
def Rx.flat : Rx → List Pc
  | .leaf x => [x]
  | .un x a => a.flat ++ [x]
  | .bin x a b => a.flat ++ (b.flat ++ [x])
def Rx.wf : Rx → Prop
  | .leaf x => takesZ x.k = 0 ∧ okSet x = true
  | .un x a => takesZ x.k = 1 ∧ okSet x = true ∧ a.wf
  | .bin x a b => takesZ x.k = 2 ∧ okSet x = true ∧ a.wf ∧ b.wf
/-- The last piece. -/
def Rx.top : Rx → Pc
  | .leaf x => x
  | .un x _ => x
  | .bin x _ _ => x
theorem Rx.flat_pos (t : Rx) : 0 < t.flat.length := by cases t <;> simp [Rx.flat] <;> omega
theorem Rx.flat_top (t : Rx) : t.flat[t.flat.length - 1]? = some t.top := by
  cases t <;> simp [Rx.flat, Rx.top]

theorem chk_trees (l : List Pc) (ts : List Rx) (m : Int) (h : chkGo l ts.length = some m) (hw : ∀ t ∈ ts, t.wf) :
    ∃ us : List Rx, (us.length : Int) = m ∧ (∀ t ∈ us, t.wf) ∧ ts.flatMap Rx.flat ++ l = us.flatMap Rx.flat := by
  induction l generalizing ts with
  | nil => exact ⟨ts, by simpa [chkGo] using h, hw, by simp⟩
  | cons x r ih =>
    unfold chkGo at h
    split at h
    · rename_i ho
      simp only [okPc, Bool.and_eq_true, decide_eq_true_eq] at ho
      obtain ⟨⟨h0, h1⟩, h2⟩ := ho
      have hsplit : ∀ n, n ≤ ts.length → ts = ts.take (ts.length - n) ++ ts.drop (ts.length - n) ∧ (ts.drop (ts.length - n)).length = n := fun n hn => ⟨(List.take_append_drop _ _).symm, by simp; omega⟩
      rcases takesZ_cases x.k with ⟨e, _⟩ | ⟨e, _⟩ | ⟨e, _⟩ | ⟨e, _⟩
      · obtain ⟨us, hu1, hu2, hu3⟩ := ih (ts ++ [.leaf x]) (by rw [e] at h; rw [← h]; congr 1; simp) (by
          intro t ht
          rcases List.mem_append.1 ht with ht | ht
          · exact hw t ht
          · simp at ht; subst ht; exact ⟨e, h2⟩)
        exact ⟨us, hu1, hu2, by rw [← hu3]; simp [Rx.flat]⟩
      · obtain ⟨e1, e2⟩ := hsplit 2 (by omega)
        generalize ts.take (ts.length - 2) = s at e1
        generalize ts.drop (ts.length - 2) = d at e1 e2
        match d, e2 with
        | [a, b], _ =>
          subst e1
          obtain ⟨us, hu1, hu2, hu3⟩ := ih (s ++ [.bin x a b]) (by rw [e] at h; rw [← h]; congr 1; simp; omega) (by
            intro t ht
            rcases List.mem_append.1 ht with ht | ht
            · exact hw t (by simp [ht])
            · simp at ht; subst ht; exact ⟨e, h2, hw a (by simp), hw b (by simp)⟩)
          exact ⟨us, hu1, hu2, by rw [← hu3]; simp [Rx.flat]⟩
      · obtain ⟨e1, e2⟩ := hsplit 1 (by omega)
        generalize ts.take (ts.length - 1) = s at e1
        generalize ts.drop (ts.length - 1) = d at e1 e2
        match d, e2 with
        | [a], _ =>
          subst e1
          obtain ⟨us, hu1, hu2, hu3⟩ := ih (s ++ [.un x a]) (by rw [e] at h; rw [← h]; congr 1; simp) (by
            intro t ht
            rcases List.mem_append.1 ht with ht | ht
            · exact hw t (by simp [ht])
            · simp at ht; subst ht; exact ⟨e, h2, hw a (by simp)⟩)
          exact ⟨us, hu1, hu2, by rw [← hu3]; simp [Rx.flat]⟩
      · omega
    · simp at h
/-- What Check lets through is a tree. -/
theorem chk_tree (l : List Pc) (h : chkT l = 0) : l.length ≤ 400 ∧ ∃ t : Rx, t.wf ∧ t.flat = l := by
  unfold chkT at h
  split at h
  · omega
  · split at h
    · rename_i h1 h2
      obtain ⟨us, hu1, hu2, hu3⟩ := chk_trees l [] 1 h2 (by simp)
      match us, hu1 with
      | [t], _ => exact ⟨by omega, t, hu2 t (by simp), by simpa using hu3.symm⟩
    · omega

/-- Where an expression begins: the pieces from right to left, how many are missing. -/
def stGo : List Pc → Int → Nat
  | [], _ => 0
  | x :: r, m => if m + (takesZ x.k - 1) ≤ 0 then r.length else stGo r (m + (takesZ x.k - 1))
def startT (l : List Pc) (at_ : Nat) : Nat := stGo (l.take (at_ + 1)).reverse 1
theorem stGo_tree (t : Rx) (hw : t.wf) (s : List Pc) (m : Int) (hm : 1 ≤ m) : stGo (t.flat.reverse ++ s) m = if m = 1 then s.length else stGo s (m - 1) := by
  induction t generalizing s m with
  | leaf x =>
    have e := hw.1
    simp only [Rx.flat, List.reverse_singleton, List.singleton_append, stGo, e]
    by_cases h : m = 1
    · subst h; simp
    · rw [if_neg (by omega), if_neg h]; congr 1
  | un x a ih =>
    have e := hw.1
    simp only [Rx.flat, List.reverse_append, List.reverse_singleton, List.cons_append, List.nil_append, stGo, e]
    rw [if_neg (by omega), show m + (1 - 1) = m by omega, ih hw.2.2 s m hm]
  | bin x a b iha ihb =>
    have e := hw.1
    simp only [Rx.flat, List.reverse_append, List.reverse_singleton, List.cons_append, List.nil_append, List.append_assoc, stGo, e]
    rw [if_neg (by omega), ihb hw.2.2.2 _ _ (by omega), if_neg (by omega), show m + (2 - 1) - 1 = m by omega, iha hw.2.2.1 s m hm]
/-- The expression that ends at a place begins where its tree does. -/
theorem startT_tree (u v : List Pc) (t : Rx) (hw : t.wf) (n : Nat) (hn : n + 1 = u.length + t.flat.length) : startT (u ++ (t.flat ++ v)) n = u.length := by
  unfold startT
  rw [hn, ← List.append_assoc, List.take_append_of_le_length (by simp), List.take_of_length_le (by simp), List.reverse_append, stGo_tree t hw _ 1 (by omega)]
  simp
theorem stGo_le (l : List Pc) (m : Int) : stGo l m ≤ l.length := by
  induction l generalizing m with
  | nil => simp [stGo]
  | cons x r ih =>
    unfold stGo
    split
    · simp
    · have := ih (m + (takesZ x.k - 1)); simp; omega
/-- The operands of the last piece. -/
def partsT (l : List Pc) : List (List Pc) :=
  match l.getLast? with
  | none => []
  | some x => if takesZ x.k = 1 then [l.take (l.length - 1)] else if takesZ x.k = 2 then [l.take (startT l (l.length - 2)), (l.take (l.length - 1)).drop (startT l (l.length - 2))] else []
end Go.Proofs.Ytlnndkilaklifaa

namespace Go.Proofs.Ytlnndkilaklifaa
open Go.RowKit

/-- Where a list of pieces lies. -/
def RxAt (w : World) (a : Option Addr) (l : List Pc) : Prop := 0 < l.length → ∃ g off, a = some ⟨g, off, none⟩ ∧ g < w.heap.size ∧ ∀ j, j < l.length * 5 → w.cell? ⟨g, off + j, none⟩ = (pcs l)[j]?
theorem RxAt.below {w w' : World} {a : Option Addr} {l : List Pc} (h : RxAt w a l) (k : Below w.heap.size w w') : RxAt w' a l := by
  intro h0
  obtain ⟨g, off, rfl, hg, hc⟩ := h h0
  have := k.size
  exact ⟨g, off, rfl, by omega, fun j hj => (k.cell (p := ⟨g, off + j, none⟩) hg).trans (hc j hj)⟩
/-- The cells of one piece. -/
theorem RxAt.get {w : World} {a : Option Addr} {l : List Pc} (h : RxAt w a l) (k : Nat) (hk : k < l.length) :
    ∃ g off, a = some ⟨g, off, none⟩ ∧ g < w.heap.size ∧ w.cell? ⟨g, off + k * 5, none⟩ = some (.int .i64 l[k].k) ∧ w.cell? ⟨g, off + k * 5 + 1, none⟩ = some (.int .u64 ((wd l[k].p 0 : Nat) : Int)) ∧ w.cell? ⟨g, off + k * 5 + 2, none⟩ = some (.int .u64 ((wd l[k].p 1 : Nat) : Int)) ∧
    w.cell? ⟨g, off + k * 5 + 3, none⟩ = some (.int .u64 ((wd l[k].p 2 : Nat) : Int)) ∧ w.cell? ⟨g, off + k * 5 + 4, none⟩ = some (.int .u64 ((wd l[k].p 3 : Nat) : Int)) := by
  obtain ⟨g, off, rfl, hg, hc⟩ := h (by omega)
  obtain ⟨c0, c1, c2, c3, c4⟩ := pcs_cells l k hk
  refine ⟨g, off, rfl, hg, ?_, ?_, ?_, ?_, ?_⟩
  · rw [hc _ (by omega), c0]
  · rw [Nat.add_assoc, hc _ (by omega), c1]
  · rw [Nat.add_assoc, hc _ (by omega), c2]
  · rw [Nat.add_assoc, hc _ (by omega), c3]
  · rw [Nat.add_assoc, hc _ (by omega), c4]


end Go.Proofs.Ytlnndkilaklifaa

namespace Go.Proofs.Ytlnndkilaklifaa
open Go.RowKit

/-- Where the expression begins, step by step. -/
theorem stGo_step (l : List Pc) (k : Nat) (hk : k < l.length) (m : Int) : stGo (l.take (k + 1)).reverse m = if m + (takesZ l[k].k - 1) ≤ 0 then k else stGo (l.take k).reverse (m + (takesZ l[k].k - 1)) := by
  rw [List.take_succ_eq_append_getElem hk, List.reverse_append]
  simp only [List.reverse_singleton, List.singleton_append, stGo]
  congr 1
  simp; omega

end Go.Proofs.Ytlnndkilaklifaa
