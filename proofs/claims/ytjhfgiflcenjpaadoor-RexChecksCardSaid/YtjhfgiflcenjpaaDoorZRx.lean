import Derived.Test.YtjhfgiflcenjpaaDoorZMem
import Derived.Test.YtjhfgiflcenjpaaDoorZSt
import Derived.LoopTactic
namespace Go.Proofs.YtjhfgiflcenjpaaDoor
open Go.RowKit

/-- The numbers of a set below k, in order. -/
def lst (p : Nat → Bool) (k : Nat) : List Nat := (List.range k).filter p
theorem lst_zero (p : Nat → Bool) : lst p 0 = [] := rfl
theorem lst_yes (p : Nat → Bool) (k : Nat) (h : p k = true) : lst p (k + 1) = lst p k ++ [k] := by simp [lst, List.range_succ, List.filter_append, h]
theorem lst_no (p : Nat → Bool) (k : Nat) (h : p k = false) : lst p (k + 1) = lst p k := by simp [lst, List.range_succ, List.filter_append, h]
theorem lst_le (p : Nat → Bool) (k : Nat) : (lst p k).length ≤ k := by
  have := List.length_filter_le p (List.range k)
  simpa [lst] using this
theorem lst_mem (p : Nat → Bool) (k x : Nat) : x ∈ lst p k ↔ x < k ∧ p x = true := by simp [lst]

/-- A list of bytes of the call's own. -/
def ListPost (l : List Nat) (w : World) (e : Ending) (w' : World) : Prop := ∃ a cap, e = .returned (.slice a l.length cap) ∧ w'.ownsRow w.heap.size 5 1 (.slice a l.length cap) l.length (u8s l) ∧ Below w.heap.size w w'

/-- After some rounds of a loop that collects: the box is p, the list is l. -/
structure Collects (w : World) (p : Nat → Bool) (l : List Nat) (v : Value) (wr : World) : Prop where
  s0 : St wr 33 w.heap.size #[.int .u64 ((wd p 0 : Nat) : Int), .int .u64 ((wd p 1 : Nat) : Int), .int .u64 ((wd p 2 : Nat) : Int), .int .u64 ((wd p 3 : Nat) : Int)]
  own : wr.ownsRow (w.heap.size + 1) 5 1 v l.length (u8s l)
  below : Below w.heap.size w wr
end Go.Proofs.YtjhfgiflcenjpaaDoor

namespace Go.Proofs.YtjhfgiflcenjpaaDoor
open Go.RowKit

/-- A piece of an expression: its kind, its set. -/
structure Pc where
  k : Int
  p : Nat → Bool
/-- Nothing in it. -/
def noneB (p : Nat → Bool) : Bool := decide ((lst p 256).length = 0)
/-- The cells of a piece. -/
def pcCells (x : Pc) : List Value := .int .i64 x.k :: (#[.int .u64 ((wd x.p 0 : Nat) : Int), .int .u64 ((wd x.p 1 : Nat) : Int), .int .u64 ((wd x.p 2 : Nat) : Int), .int .u64 ((wd x.p 3 : Nat) : Int)]).toList
/-- Pieces in memory. -/
def pcs (l : List Pc) : List Value := l.flatMap pcCells
theorem pcs_length (l : List Pc) : (pcs l).length = l.length * 5 := by
  induction l with
  | nil => rfl
  | cons x l ih => simp [pcs, pcCells] at ih ⊢; omega
theorem pcs_append (a b : List Pc) : pcs (a ++ b) = pcs a ++ pcs b := by simp [pcs]
theorem pcs_get (l : List Pc) (i : Nat) (h : i < l.length) (j : Nat) (hj : j < 5) : (pcs l)[i * 5 + j]? = (pcCells l[i])[j]? := by
  induction l generalizing i with
  | nil => simp at h
  | cons x l ih =>
    have hc : (pcCells x).length = 5 := by simp [pcCells]
    show (pcCells x ++ pcs l)[i * 5 + j]? = _
    match i, h with
    | 0, _ =>
      rw [Nat.zero_mul, Nat.zero_add, List.getElem?_append_left (by omega)]
      rfl
    | i + 1, h =>
      rw [List.getElem?_append_right (by omega), hc, show (i + 1) * 5 + j - 5 = i * 5 + j by omega, ih i (by simpa using h)]
      rfl
theorem pcs_cells (l : List Pc) (i : Nat) (h : i < l.length) :
    (pcs l)[i * 5]? = some (.int .i64 l[i].k) ∧ (pcs l)[i * 5 + 1]? = some (.int .u64 ((wd l[i].p 0 : Nat) : Int)) ∧ (pcs l)[i * 5 + 2]? = some (.int .u64 ((wd l[i].p 1 : Nat) : Int)) ∧
    (pcs l)[i * 5 + 3]? = some (.int .u64 ((wd l[i].p 2 : Nat) : Int)) ∧ (pcs l)[i * 5 + 4]? = some (.int .u64 ((wd l[i].p 3 : Nat) : Int)) :=
  ⟨pcs_get l i h 0 (by omega), pcs_get l i h 1 (by omega), pcs_get l i h 2 (by omega), pcs_get l i h 3 (by omega), pcs_get l i h 4 (by omega)⟩

/-- How many operands a piece of a kind takes; -1: there is no such kind. -/
def takesZ (k : Int) : Int := if k = 0 ∨ k = 1 then 0 else if k = 2 ∨ k = 3 then 2 else if k = 4 ∨ k = 5 ∨ k = 6 then 1 else -1
theorem takesZ_cases (k : Int) : (takesZ k = 0 ∧ (k = 0 ∨ k = 1)) ∨ (takesZ k = 2 ∧ (k = 2 ∨ k = 3)) ∨ (takesZ k = 1 ∧ (k = 4 ∨ k = 5 ∨ k = 6)) ∨ (takesZ k = -1 ∧ (k < 0 ∨ 6 < k)) := by
  unfold takesZ
  repeat' split
  all_goals omega
/-- Has a piece a set where it should, and none where not? -/
def okSet (x : Pc) : Bool := noneB x.p != (x.k == 1)
/-- May a piece stand behind n expressions? -/
def okPc (x : Pc) (n : Int) : Bool := decide (0 ≤ takesZ x.k) && decide (takesZ x.k ≤ n) && okSet x
/-- How many expressions are there behind the pieces? -/
def chkGo : List Pc → Int → Option Int
  | [], n => some n
  | x :: r, n => if okPc x n = true then chkGo r (n + 1 - takesZ x.k) else none
/-- The number of the error, or 0. -/
def chkT (l : List Pc) : Nat := if 400 < l.length then 6 else if chkGo l 0 = some 1 then 0 else 5

/-- An expression as a tree. -/
inductive Rx where
  | leaf (x : Pc)
  | un (x : Pc) (a : Rx)
  | bin (x : Pc) (a b : Rx)
def Rx.flat : Rx → List Pc
  | .leaf x => [x]
  | .un x a => a.flat ++ [x]
  | .bin x a b => a.flat ++ (b.flat ++ [x])
def Rx.wf : Rx → Prop
  | .leaf x => takesZ x.k = 0 ∧ okSet x = true
  | .un x a => takesZ x.k = 1 ∧ okSet x = true ∧ a.wf
  | .bin x a b => takesZ x.k = 2 ∧ okSet x = true ∧ a.wf ∧ b.wf
/-- The last piece. -/
def Rx.top : Rx → Pc
  | .leaf x => x
  | .un x _ => x
  | .bin x _ _ => x
theorem Rx.flat_pos (t : Rx) : 0 < t.flat.length := by cases t <;> simp [Rx.flat] <;> omega
theorem Rx.flat_top (t : Rx) : t.flat[t.flat.length - 1]? = some t.top := by
  cases t <;> simp [Rx.flat, Rx.top]

theorem chk_trees (l : List Pc) (ts : List Rx) (m : Int) (h : chkGo l ts.length = some m) (hw : ∀ t ∈ ts, t.wf) :
    ∃ us : List Rx, (us.length : Int) = m ∧ (∀ t ∈ us, t.wf) ∧ ts.flatMap Rx.flat ++ l = us.flatMap Rx.flat := by
  induction l generalizing ts with
  | nil => exact ⟨ts, by simpa [chkGo] using h, hw, by simp⟩
  | cons x r ih =>
    unfold chkGo at h
    split at h
    · rename_i ho
      simp only [okPc, Bool.and_eq_true, decide_eq_true_eq] at ho
      obtain ⟨⟨h0, h1⟩, h2⟩ := ho
      have hsplit : ∀ n, n ≤ ts.length → ts = ts.take (ts.length - n) ++ ts.drop (ts.length - n) ∧ (ts.drop (ts.length - n)).length = n := fun n hn => ⟨(List.take_append_drop _ _).symm, by simp; omega⟩
      rcases takesZ_cases x.k with ⟨e, _⟩ | ⟨e, _⟩ | ⟨e, _⟩ | ⟨e, _⟩
      · obtain ⟨us, hu1, hu2, hu3⟩ := ih (ts ++ [.leaf x]) (by rw [e] at h; rw [← h]; congr 1; simp) (by
          intro t ht
          rcases List.mem_append.1 ht with ht | ht
          · exact hw t ht
          · simp at ht; subst ht; exact ⟨e, h2⟩)
        exact ⟨us, hu1, hu2, by rw [← hu3]; simp [Rx.flat]⟩
      · obtain ⟨e1, e2⟩ := hsplit 2 (by omega)
        generalize ts.take (ts.length - 2) = s at e1
        generalize ts.drop (ts.length - 2) = d at e1 e2
        match d, e2 with
        | [a, b], _ =>
          subst e1
          obtain ⟨us, hu1, hu2, hu3⟩ := ih (s ++ [.bin x a b]) (by rw [e] at h; rw [← h]; congr 1; simp; omega) (by
            intro t ht
            rcases List.mem_append.1 ht with ht | ht
            · exact hw t (by simp [ht])
            · simp at ht; subst ht; exact ⟨e, h2, hw a (by simp), hw b (by simp)⟩)
          exact ⟨us, hu1, hu2, by rw [← hu3]; simp [Rx.flat]⟩
      · obtain ⟨e1, e2⟩ := hsplit 1 (by omega)
        generalize ts.take (ts.length - 1) = s at e1
        generalize ts.drop (ts.length - 1) = d at e1 e2
        match d, e2 with
        | [a], _ =>
          subst e1
          obtain ⟨us, hu1, hu2, hu3⟩ := ih (s ++ [.un x a]) (by rw [e] at h; rw [← h]; congr 1; simp) (by
            intro t ht
            rcases List.mem_append.1 ht with ht | ht
            · exact hw t (by simp [ht])
            · simp at ht; subst ht; exact ⟨e, h2, hw a (by simp)⟩)
          exact ⟨us, hu1, hu2, by rw [← hu3]; simp [Rx.flat]⟩
      · omega
    · simp at h
/-- What Check lets through is a tree. -/
theorem chk_tree (l : List Pc) (h : chkT l = 0) : l.length ≤ 400 ∧ ∃ t : Rx, t.wf ∧ t.flat = l := by
  unfold chkT at h
  split at h
  · omega
  · split at h
    · rename_i h1 h2
      obtain ⟨us, hu1, hu2, hu3⟩ := chk_trees l [] 1 h2 (by simp)
      match us, hu1 with
      | [t], _ => exact ⟨by omega, t, hu2 t (by simp), by simpa using hu3.symm⟩
    · omega

/-- Where an expression begins: the pieces from right to left, how many are missing. -/
def stGo : List Pc → Int → Nat
  | [], _ => 0
  | x :: r, m => if m + (takesZ x.k - 1) ≤ 0 then r.length else stGo r (m + (takesZ x.k - 1))
def startT (l : List Pc) (at_ : Nat) : Nat := stGo (l.take (at_ + 1)).reverse 1
theorem stGo_tree (t : Rx) (hw : t.wf) (s : List Pc) (m : Int) (hm : 1 ≤ m) : stGo (t.flat.reverse ++ s) m = if m = 1 then s.length else stGo s (m - 1) := by
  induction t generalizing s m with
  | leaf x =>
    have e := hw.1
    simp only [Rx.flat, List.reverse_singleton, List.singleton_append, stGo, e]
    by_cases h : m = 1
    · subst h; simp
    · rw [if_neg (by omega), if_neg h]; congr 1
  | un x a ih =>
    have e := hw.1
    simp only [Rx.flat, List.reverse_append, List.reverse_singleton, List.cons_append, List.nil_append, stGo, e]
    rw [if_neg (by omega), show m + (1 - 1) = m by omega, ih hw.2.2 s m hm]
  | bin x a b iha ihb =>
    have e := hw.1
    simp only [Rx.flat, List.reverse_append, List.reverse_singleton, List.cons_append, List.nil_append, List.append_assoc, stGo, e]
    rw [if_neg (by omega), ihb hw.2.2.2 _ _ (by omega), if_neg (by omega), show m + (2 - 1) - 1 = m by omega, iha hw.2.2.1 s m hm]
/-- The expression that ends at a place begins where its tree does. -/
theorem startT_tree (u v : List Pc) (t : Rx) (hw : t.wf) (n : Nat) (hn : n + 1 = u.length + t.flat.length) : startT (u ++ (t.flat ++ v)) n = u.length := by
  unfold startT
  rw [hn, ← List.append_assoc, List.take_append_of_le_length (by simp), List.take_of_length_le (by simp), List.reverse_append, stGo_tree t hw _ 1 (by omega)]
  simp
theorem stGo_le (l : List Pc) (m : Int) : stGo l m ≤ l.length := by
  induction l generalizing m with
  | nil => simp [stGo]
  | cons x r ih =>
    unfold stGo
    split
    · simp
    · have := ih (m + (takesZ x.k - 1)); simp; omega
/-- The operands of the last piece. -/
def partsT (l : List Pc) : List (List Pc) :=
  match l.getLast? with
  | none => []
  | some x => if takesZ x.k = 1 then [l.take (l.length - 1)] else if takesZ x.k = 2 then [l.take (startT l (l.length - 2)), (l.take (l.length - 1)).drop (startT l (l.length - 2))] else []
end Go.Proofs.YtjhfgiflcenjpaaDoor

namespace Go.Proofs.YtjhfgiflcenjpaaDoor
open Go.RowKit

/-- One more byte behind the spans so far, the last span first. -/
def spStep : List (Nat × Nat) → Nat → List (Nat × Nat)
  | [], b => [(b, b)]
  | (f, t) :: r, b => if t + 1 = b then (f, b) :: r else (b, b) :: (f, t) :: r
/-- The spans of an increasing list, the last one first. -/
def spAcc (xs : List Nat) : List (Nat × Nat) := xs.foldl spStep []
/-- Spans in memory. -/
def spCells (l : List (Nat × Nat)) : List Value := l.flatMap fun e => [.int .u8 ((e.1 : Nat) : Int), .int .u8 ((e.2 : Nat) : Int)]

theorem spCells_snoc (l : List (Nat × Nat)) (e : Nat × Nat) : spCells (l ++ [e]) = spCells l ++ [.int .u8 ((e.1 : Nat) : Int), .int .u8 ((e.2 : Nat) : Int)] := by simp [spCells]
theorem spCells_length (l : List (Nat × Nat)) : (spCells l).length = l.length * 2 := by
  induction l with
  | nil => rfl
  | cons e l ih => simp [spCells] at ih ⊢; omega
theorem spCells_get (l : List (Nat × Nat)) (i : Nat) (h : i < l.length) :
    (spCells l)[i * 2]? = some (.int .u8 ((l[i].1 : Nat) : Int)) ∧ (spCells l)[i * 2 + 1]? = some (.int .u8 ((l[i].2 : Nat) : Int)) := by
  induction l generalizing i with
  | nil => simp at h
  | cons e l ih =>
    match i, h with
    | 0, _ => simp [spCells]
    | i + 1, h =>
      have := ih i (by simpa using h)
      rw [show (i + 1) * 2 = i * 2 + 1 + 1 by omega]
      simpa [spCells] using this

theorem spAcc_snoc (xs : List Nat) (b : Nat) : spAcc (xs ++ [b]) = spStep (spAcc xs) b := by simp [spAcc]
theorem spAcc_take (xs : List Nat) (k : Nat) (h : k < xs.length) : spAcc (xs.take (k + 1)) = spStep (spAcc (xs.take k)) xs[k] := by
  rw [List.take_succ_eq_append_getElem h, spAcc_snoc]

/-- What the spans of an increasing list are. -/
structure SpOk (ys : List Nat) (acc : List (Nat × Nat)) : Prop where
  apart : acc.Pairwise fun x y => y.2 + 1 < x.1
  right : ∀ e, e ∈ acc → e.1 ≤ e.2 ∧ e.1 ∈ ys ∧ e.2 ∈ ys
  all : ∀ b, b ∈ ys ↔ ∃ e, e ∈ acc ∧ e.1 ≤ b ∧ b ≤ e.2
  some : acc = [] → ys = []

theorem SpOk.step {ys : List Nat} {acc : List (Nat × Nat)} (h : SpOk ys acc) (b : Nat) (hb : ∀ y, y ∈ ys → y < b) : SpOk (ys ++ [b]) (spStep acc b) := by
  match acc, h with
  | [], h =>
    have := h.some rfl
    subst this
    refine ⟨by simp [spStep], ?_, ?_, by simp [spStep]⟩
    · intro e he; simp [spStep] at he; subst he; simp
    · intro c; simp [spStep]; omega
  | (f, t) :: r, h =>
    obtain ⟨h1, h2, h3, _⟩ := h
    have ht := h2 (f, t) (by simp)
    have htb := hb t ht.2.2
    rw [List.pairwise_cons] at h1
    by_cases e : t + 1 = b
    · have es : spStep ((f, t) :: r) b = (f, b) :: r := by simp [spStep, e]
      rw [es]
      refine ⟨?_, ?_, ?_, by simp⟩
      · rw [List.pairwise_cons]; exact h1
      · intro x hx
        rcases List.mem_cons.1 hx with rfl | hx
        · exact ⟨by simp; omega, by simp [ht.2.1], by simp⟩
        · have := h2 x (List.mem_cons_of_mem _ hx); exact ⟨this.1, by simp [this.2.1], by simp [this.2.2]⟩
      · intro c
        rw [List.mem_append, h3]
        constructor
        · rintro (⟨x, hx, hx1, hx2⟩ | hc)
          · rcases List.mem_cons.1 hx with rfl | hx
            · exact ⟨(f, b), by simp, hx1, by simp at hx2 ⊢; omega⟩
            · exact ⟨x, List.mem_cons_of_mem _ hx, hx1, hx2⟩
          · simp at hc; subst hc; exact ⟨(f, c), by simp, by simp; omega, by simp⟩
        · rintro ⟨x, hx, hx1, hx2⟩
          rcases List.mem_cons.1 hx with rfl | hx
          · simp at hx1 hx2
            by_cases hcb : c = b
            · exact Or.inr (by simp [hcb])
            · exact Or.inl ⟨(f, t), by simp, hx1, by simp; omega⟩
          · exact Or.inl ⟨x, List.mem_cons_of_mem _ hx, hx1, hx2⟩
    · have es : spStep ((f, t) :: r) b = (b, b) :: (f, t) :: r := by simp [spStep, e]
      rw [es]
      refine ⟨?_, ?_, ?_, by simp⟩
      · rw [List.pairwise_cons, List.pairwise_cons]
        refine ⟨?_, h1⟩
        intro x hx
        rcases List.mem_cons.1 hx with rfl | hx
        · simp; omega
        · have := h1.1 x hx; simp at this ⊢; omega
      · intro x hx
        rcases List.mem_cons.1 hx with rfl | hx
        · simp
        · have := h2 x hx; exact ⟨this.1, by simp [this.2.1], by simp [this.2.2]⟩
      · intro c
        rw [List.mem_append, h3]
        constructor
        · rintro (⟨x, hx, hx1, hx2⟩ | hc)
          · exact ⟨x, List.mem_cons_of_mem _ hx, hx1, hx2⟩
          · simp at hc; subst hc; exact ⟨(c, c), by simp, by simp, by simp⟩
        · rintro ⟨x, hx, hx1, hx2⟩
          rcases List.mem_cons.1 hx with rfl | hx
          · simp at hx1 hx2; exact Or.inr (by simp; omega)
          · exact Or.inl ⟨x, hx, hx1, hx2⟩

theorem spAcc_ok (xs : List Nat) (hs : xs.Pairwise (· < ·)) (k : Nat) (hk : k ≤ xs.length) : SpOk (xs.take k) (spAcc (xs.take k)) := by
  induction k with
  | zero => refine ⟨by simp [spAcc], by simp [spAcc], by simp [spAcc], by simp⟩
  | succ k ih =>
    rw [spAcc_take xs k (by omega), List.take_succ_eq_append_getElem (by omega)]
    refine (ih (by omega)).step _ fun y hy => ?_
    obtain ⟨i, hi, rfl⟩ := List.getElem_of_mem hy
    have hi' : i < k := by simp at hi; omega
    rw [List.getElem_take]
    exact List.pairwise_iff_getElem.1 hs i k _ _ hi'

theorem lst_pairwise (p : Nat → Bool) (k : Nat) : (lst p k).Pairwise (· < ·) := List.Pairwise.filter _ List.pairwise_lt_range
/-- The spans of a set. -/
def spansOf (p : Nat → Bool) : List (Nat × Nat) := (spAcc (lst p 256)).reverse
theorem spansOf_ok (p : Nat → Bool) : SpOk (lst p 256) (spAcc (lst p 256)) := by
  have := spAcc_ok (lst p 256) (lst_pairwise p 256) (lst p 256).length (Nat.le_refl _)
  rwa [List.take_length] at this
theorem spAcc_length (xs : List Nat) (k : Nat) : (spAcc (xs.take k)).length ≤ k := by
  induction k with
  | zero => simp [spAcc]
  | succ k ih =>
    by_cases h : k < xs.length
    · rw [spAcc_take xs k h]
      generalize spAcc (xs.take k) = acc at ih
      match acc, ih with
      | [], _ => simp [spStep]
      | (f, t) :: r, ih => simp only [spStep]; split <;> simp at ih ⊢ <;> omega
    · rw [List.take_of_length_le (by omega)]
      rw [List.take_of_length_le (by omega)] at ih
      omega
end Go.Proofs.YtjhfgiflcenjpaaDoor
