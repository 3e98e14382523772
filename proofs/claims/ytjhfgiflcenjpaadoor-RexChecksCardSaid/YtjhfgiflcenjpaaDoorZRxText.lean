import Derived.Test.YtjhfgiflcenjpaaDoorZEscByte
import Derived.Test.YtjhfgiflcenjpaaDoorZFirst
import Derived.Test.YtjhfgiflcenjpaaDoorZRx
import Derived.Test.YtjhfgiflcenjpaaDoorZSpans
import Derived.Deep.RegionWith
namespace Go.Proofs.YtjhfgiflcenjpaaDoor
open Go.RowKit

/-- The texts of the first k bytes between two q. -/
def quoteUp (s : ByteArray) (q k : Nat) : List Nat := (List.range k).flatMap fun i => let c := (s.data.toList.getD i 0).toNat; byteT c (c == q)
theorem quoteUp_succ (s : ByteArray) (q k : Nat) (h : k < s.size) : quoteUp s q (k + 1) = quoteUp s q k ++ byteT s[k].toNat (s[k].toNat == q) := by
  have e : s.data[k]? = some s[k] := Array.getElem?_eq_getElem h
  simp [quoteUp, List.range_succ, e]
theorem byteT_lt (c : Nat) (o : Bool) (hc : c < 256) : ∀ n ∈ byteT c o, n < 256 := by
  unfold byteT hexd
  intro n hn
  repeat' split at hn
  all_goals
    simp at hn
    omega
theorem byteT_len (c : Nat) (o : Bool) : (byteT c o).length ≤ 4 := by
  unfold byteT
  repeat' split
  all_goals simp
theorem quoteUp_len (s : ByteArray) (q k : Nat) : (quoteUp s q k).length ≤ 4 * k := by
  induction k with
  | zero => simp [quoteUp]
  | succ k ih =>
    have h : quoteUp s q (k + 1) = quoteUp s q k ++ byteT (s.data.toList.getD k 0).toNat ((s.data.toList.getD k 0).toNat == q) := by simp [quoteUp, List.range_succ]
    rw [h, List.length_append]
    have := byteT_len (s.data.toList.getD k 0).toNat ((s.data.toList.getD k 0).toNat == q)
    omega
theorem inB_one (q c : Nat) (hq : q < 256) : inB (strOf [q]) c = (c == q) := by
  unfold inB
  rw [strOf_list, Bool.eq_iff_iff]
  simp [Nat.mod_eq_of_lt hq]
  exact eq_comm
/-- A text between two q. -/
def quoteT (s : ByteArray) (q : Nat) : List Nat := q :: quoteUp s q s.size ++ [q]

end Go.Proofs.YtjhfgiflcenjpaaDoor

namespace Go.Proofs.YtjhfgiflcenjpaaDoor
open Go.RowKit

/-- What stands for something else within a set. -/
def insS : ByteArray := ⟨#[47, 93, 94, 45, 34]⟩
/-- .. and outside of one. -/
def outS : ByteArray := ⟨#[47, 40, 41, 91, 93, 124, 42, 43, 63, 46, 34, 126]⟩
/-- The text of a span. -/
def spanT (e : Nat × Nat) : List Nat := byteT e.1 (inB insS e.1) ++ if e.2 = e.1 then [] else 45 :: byteT e.2 (inB insS e.2)
def spT (l : List (Nat × Nat)) : List Nat := l.flatMap spanT
/-- The text of a set. -/
def setT (p : Nat → Bool) : List Nat :=
  if (lst p 256).length = 256 then [46]
  else if (lst p 256).length = 1 then byteT (least p).toNat (inB outS (least p).toNat)
  else if 128 < (lst p 256).length then 91 :: 94 :: (spT (spansOf fun x => !p x) ++ [93])
  else 91 :: (spT (spansOf p) ++ [93])
theorem spT_take (l : List (Nat × Nat)) (k : Nat) (h : k < l.length) : spT (l.take (k + 1)) = spT (l.take k) ++ spanT l[k] := by
  unfold spT
  rw [List.take_succ_eq_append_getElem h, List.flatMap_append, List.flatMap_singleton]
theorem spanT_len (e : Nat × Nat) : (spanT e).length ≤ 9 := by
  unfold spanT
  have h1 := byteT_len e.1 (inB insS e.1)
  have h2 := byteT_len e.2 (inB insS e.2)
  split <;> simp <;> omega
theorem spT_len (l : List (Nat × Nat)) : (spT l).length ≤ 9 * l.length := by
  induction l with
  | nil => simp [spT]
  | cons e l ih =>
    have := spanT_len e
    simp [spT] at ih ⊢
    omega
theorem spanT_lt (e : Nat × Nat) (h1 : e.1 < 256) (h2 : e.2 < 256) : ∀ n ∈ spanT e, n < 256 := by
  intro n hn
  unfold spanT at hn
  rcases List.mem_append.1 hn with hn | hn
  · exact byteT_lt _ _ h1 n hn
  · split at hn
    · simp at hn
    · rcases List.mem_cons.1 hn with rfl | hn
      · omega
      · exact byteT_lt _ _ h2 n hn
theorem spT_lt (l : List (Nat × Nat)) (h : ∀ e ∈ l, e.1 < 256 ∧ e.2 < 256) : ∀ n ∈ spT l, n < 256 := by
  intro n hn
  simp only [spT, List.mem_flatMap] at hn
  obtain ⟨e, he, hn⟩ := hn
  exact spanT_lt e (h e he).1 (h e he).2 n hn
theorem spansOf_lt (p : Nat → Bool) : ∀ e ∈ spansOf p, e.1 < 256 ∧ e.2 < 256 := by
  intro e he
  have h := (spansOf_ok p).right e (by simpa [spansOf] using he)
  exact ⟨((lst_mem p 256 e.1).1 h.2.1).1, ((lst_mem p 256 e.2).1 h.2.2).1⟩
theorem spansOf_len (p : Nat → Bool) : (spansOf p).length ≤ 256 := by
  have h := spAcc_length (lst p 256) (lst p 256).length
  rw [List.take_length] at h
  have := lst_le p 256
  simp [spansOf]; omega
theorem least_one (p : Nat → Bool) (h : (lst p 256).length = 1) : ∃ c, c < 256 ∧ lst p 256 = [c] ∧ least p = (c : Int) := by
  match hl : lst p 256, h with
  | [c], _ =>
    have := (lst_mem p 256 c).1 (by rw [hl]; simp)
    exact ⟨c, this.1, rfl, by unfold least; rw [hl]⟩
theorem setT_lt (p : Nat → Bool) : ∀ n ∈ setT p, n < 256 := by
  intro n hn
  unfold setT at hn
  repeat' split at hn
  · simp at hn; omega
  · rename_i h
    obtain ⟨c, hc, _, e⟩ := least_one p h
    rw [e] at hn
    exact byteT_lt _ _ (by simpa using hc) n hn
  · simp only [List.mem_cons, List.mem_append, List.not_mem_nil, or_false] at hn
    rcases hn with rfl | rfl | hn | rfl
    · omega
    · omega
    · exact spT_lt _ (spansOf_lt _) n hn
    · omega
  · simp only [List.mem_cons, List.mem_append, List.not_mem_nil, or_false] at hn
    rcases hn with rfl | hn | rfl
    · omega
    · exact spT_lt _ (spansOf_lt _) n hn
    · omega
theorem setT_len (p : Nat → Bool) : (setT p).length ≤ 3000 := by
  have h1 := spT_len (spansOf p)
  have h2 := spT_len (spansOf fun x => !p x)
  have h3 := spansOf_len p
  have h4 := spansOf_len fun x => !p x
  unfold setT
  repeat' split
  · simp
  · have := byteT_len (least p).toNat (inB outS (least p).toNat); omega
  · simp; omega
  · simp; omega
theorem setT_pos (p : Nat → Bool) : setT p ≠ [] := by
  unfold setT byteT
  repeat' split
  all_goals simp

/-- The sign of a kind. -/
def signT (k : Int) : Nat := if k = 4 then 42 else if k = 5 then 43 else 63
/-- In parentheses, if so wanted. -/
def parT (b : Bool) (l : List Nat) : List Nat := if b then 40 :: (l ++ [41]) else l
/-- How strongly an expression holds together. -/
def strT (k : Int) : Nat := if k = 3 then 0 else if k = 2 then 1 else 2
/-- The text of an expression. -/
def showT : Rx → List Nat
  | .leaf x => if x.k = 1 then setT x.p else [126]
  | .un x a => parT (decide (strT a.top.k < 2)) (showT a) ++ [signT x.k]
  | .bin x a b => if x.k = 2 then parT (decide (strT a.top.k < 1)) (showT a) ++ parT (decide (strT b.top.k < 2)) (showT b) else showT a ++ 124 :: parT (decide (strT b.top.k < 1)) (showT b)
theorem parT_len (b : Bool) (l : List Nat) : (parT b l).length ≤ l.length + 2 := by
  unfold parT; split <;> simp
theorem showT_len (t : Rx) : (showT t).length ≤ 3000 * t.flat.length := by
  induction t with
  | leaf x =>
    have := setT_len x.p
    simp only [showT, Rx.flat]
    split <;> simp <;> omega
  | un x a ih =>
    have := parT_len (decide (strT a.top.k < 2)) (showT a)
    simp [showT, Rx.flat]; omega
  | bin x a b iha ihb =>
    have h1 := parT_len (decide (strT a.top.k < 1)) (showT a)
    have h2 := parT_len (decide (strT b.top.k < 2)) (showT b)
    have h3 := parT_len (decide (strT b.top.k < 1)) (showT b)
    simp only [showT, Rx.flat]
    split <;> simp only [List.length_append, List.length_cons, List.length_nil] <;> omega
theorem parT_lt (b : Bool) (l : List Nat) (h : ∀ n ∈ l, n < 256) : ∀ n ∈ parT b l, n < 256 := by
  intro n hn
  unfold parT at hn
  split at hn
  · simp at hn
    rcases hn with h' | h' | h'
    · omega
    · exact h n h'
    · omega
  · exact h n hn
theorem showT_lt (t : Rx) : ∀ n ∈ showT t, n < 256 := by
  induction t with
  | leaf x =>
    intro n hn
    simp only [showT] at hn
    split at hn
    · exact setT_lt _ n hn
    · simp at hn; omega
  | un x a ih =>
    intro n hn
    simp only [showT, List.mem_append, List.mem_singleton] at hn
    rcases hn with hn | hn
    · exact parT_lt _ _ ih n hn
    · unfold signT at hn; repeat' split at hn
      all_goals omega
  | bin x a b iha ihb =>
    intro n hn
    simp only [showT] at hn
    split at hn
    · rcases List.mem_append.1 hn with hn | hn
      · exact parT_lt _ _ iha n hn
      · exact parT_lt _ _ ihb n hn
    · rcases List.mem_append.1 hn with hn | hn
      · exact iha n hn
      · rcases List.mem_cons.1 hn with rfl | hn
        · omega
        · exact parT_lt _ _ ihb n hn
theorem parT_pos (b : Bool) (l : List Nat) (h : l ≠ []) : parT b l ≠ [] := by
  unfold parT; split <;> simp [h]
theorem showT_pos (t : Rx) : showT t ≠ [] := by
  induction t with
  | leaf x =>
    simp only [showT]
    split
    · exact setT_pos _
    · simp
  | un x a ih => simp [showT]
  | bin x a b iha ihb =>
    simp only [showT]
    split
    · have := parT_pos (decide (strT a.top.k < 1)) _ iha
      intro h
      exact this (List.append_eq_nil_iff.1 h).1
    · simp
end Go.Proofs.YtjhfgiflcenjpaaDoor
