import Derived.Test.YtldpmcgkbdejjaaZJFew
import Derived.Test.YtldpmcgkbdejjaaZSVar
import Derived.Laws.CopyRow
namespace Go.Proofs.Ytldpmcgkbdejjaa
open Go.RowKit Go.Maps Go.WideElems Go.ChangeMaps Go.MapKept
set_option linter.unusedVariables false
set_option linter.unusedSimpArgs false

/-- Cells with others laid over a part of them. -/
def blit9 (cur cs : Array Value) (o : Nat) : Array Value := (cur.toList.take o ++ cs.toList ++ cur.toList.drop (o + cs.size)).toArray
theorem blit9_get (cur cs : Array Value) (o : Nat) (h : o + cs.size ≤ cur.size) (i : Nat) : (blit9 cur cs o)[i]? = if o ≤ i ∧ i < o + cs.size then cs[i - o]? else cur[i]? := by
  unfold blit9
  have hl : (cur.toList.take o).length = o := by rw [List.length_take, Array.length_toList]; omega
  rw [List.getElem?_toArray]
  by_cases h1 : i < o
  · rw [List.append_assoc, List.getElem?_append_left (by omega), if_neg (by omega), List.getElem?_take, if_pos h1, Array.getElem?_toList]
  · rw [List.append_assoc, List.getElem?_append_right (by omega), hl]
    by_cases h2 : i < o + cs.size
    · rw [List.getElem?_append_left (by rw [Array.length_toList]; omega), if_pos ⟨by omega, h2⟩, Array.getElem?_toList]
    · rw [List.getElem?_append_right (by rw [Array.length_toList]; omega), if_neg (by omega), List.getElem?_drop, Array.length_toList, show o + cs.size + (i - o - cs.size) = i by omega, Array.getElem?_toList]
/-- A store of an array within a variable. -/
theorem wpList_store_part9 {P : Program} {ops : Array Oper} {rest : List Oper} {o : Oper} {a : Act} {w : World} {Q : Exit → Act → World → Prop} (hgd : o.guard = none) (ty : TypeId) (x v : Operand) (ho : o.op = .store ty x v) (g off t : Nat) (old cs : Array Value) (hx : a.eval x = .pointer (some ⟨g, off, none⟩)) (hv : a.eval v = .agg cs)
    (hst : w.heap[g]? = some (.cells old t (0, 0))) (hsz : off + cs.size ≤ old.size) (hi : (P.info? ty).map (·.size) = some cs.size) (h1 : ∀ u ∈ cs.toList, u.oneCell' = true) (h : wpList P ops Q rest (a.put o.dst undef) (w.setRow g (blit9 old cs off))) : wpList P ops Q (o :: rest) a w := by
  have hrun : (storeVar ty ⟨g, off, none⟩ (.agg cs)).run P w = .ok () (w.setRow g (blit9 old cs off)) := by
    have hs : (sizeOf ty).run P w = .ok cs.size w := by
      cases hq : P.info? ty with
      | none => simp [hq] at hi
      | some inf =>
        have : inf.size = cs.size := by simpa [hq] using hi
        simp [sizeOf, typeInfo, hq, this]
    have := run_storeCells_at (P := P) g off t cs.toList 0 old w hst (by simpa using hsz) h1
    unfold storeVar
    simp only [Sem.run_bind, hs, Result.andThen_ok]
    rw [if_neg (show ¬ ((Value.agg cs).cells.size ≠ cs.size) from fun h => h rfl)]
    show (storeCells ⟨g, off, none⟩ cs.toList).run P w = _
    rw [this]
    simp only [Nat.add_zero, Array.length_toList]
    rfl
  exact wpList_plain hgd fun _ hK => by
    unfold Oper.wp execOp
    simp only [ho, hx, hv, Instr.storeAt, Instr.sureAddr, Sem.run_bind, Sem.run_pure, Result.andThen_ok, hrun]
    exact hK _ _ h
end Go.Proofs.Ytldpmcgkbdejjaa

namespace Go.Proofs.Ytldpmcgkbdejjaa
open Go.RowKit Go.Maps Go.WideElems Go.ChangeMaps Go.MapKept
set_option linter.unusedVariables false
set_option linter.unusedSimpArgs false

theorem set_split {α : Type} (x : α) : ∀ (R : List α) (i : Nat), i < R.length → R.set i x = R.take i ++ x :: R.drop (i + 1)
  | [], _, h => absurd h (by simp)
  | _ :: _, 0, _ => rfl
  | a :: R, i + 1, h => by
    show a :: R.set i x = a :: (R.take i ++ x :: R.drop (i + 1))
    rw [set_split x R i (by simpa using h)]
theorem tks_split {R : List Tok} {i : Nat} (h : i < R.length) : tks R = tks (R.take i) ++ (tkCells R[i] ++ tks (R.drop (i + 1))) := by
  have e : R = R.take i ++ (R[i] :: R.drop (i + 1)) := by rw [← List.drop_eq_getElem_cons h, List.take_append_drop]
  have e2 : tks (R[i] :: R.drop (i + 1)) = tkCells R[i] ++ tks (R.drop (i + 1)) := rfl
  rw [← e2, ← tks_append, ← e]
/-- A token laid over another. -/
theorem tks_blit (R : List Tok) (rest : List Value) (i : Nat) (h : i < R.length) (x : Tok) : blit9 (tks R ++ rest).toArray (tkCells x).toArray (i * 3) = (tks (R.set i x) ++ rest).toArray := by
  have e : R.set i x = R.take i ++ x :: R.drop (i + 1) := set_split x R i h
  have e2 : tks (R.set i x) = tks (R.take i) ++ (tkCells x ++ tks (R.drop (i + 1))) := by rw [e, tks_append]; rfl
  have hl : (tks (R.take i)).length = i * 3 := by rw [tks_length, List.length_take]; congr 1; omega
  have h3 : (tkCells R[i]).length = 3 := rfl
  unfold blit9
  rw [e2, tks_split h]
  congr 1
  have t1 : (tks (R.take i) ++ (tkCells R[i] ++ tks (R.drop (i + 1))) ++ rest).toArray.toList.take (i * 3) = tks (R.take i) := by
    rw [List.append_assoc, List.take_append_of_le_length (by omega), List.take_of_length_le (by omega)]
  have t2 : (tks (R.take i) ++ (tkCells R[i] ++ tks (R.drop (i + 1))) ++ rest).toArray.toList.drop (i * 3 + (tkCells x).toArray.size) = tks (R.drop (i + 1)) ++ rest := by
    show List.drop (i * 3 + 3) (tks (R.take i) ++ (tkCells R[i] ++ tks (R.drop (i + 1))) ++ rest) = _
    rw [← List.append_assoc, List.append_assoc _ _ rest, List.drop_append_of_le_length (by rw [List.length_append]; omega), List.drop_eq_nil_of_le (by rw [List.length_append]; omega), List.nil_append]
  rw [t1, t2]
  simp
/-- clear of a part of a row. -/
theorem run_clear15 (P : Program) (w : World) (T ty elem : TypeId) (z : Value) (g off n c : Nat) (cur : Array Value) (t : TypeId) (hu : P.underlying T = some (.slice elem)) (hz : ∀ w, (zeroValue elem).run P w = .ok z w) (hn : 0 < n)
    (ho : ∀ v ∈ (Builtin.zeroCells z.cells n).toList, v.oneCell' = true) (hg : w.heap[g]? = some (.cells cur t (0, 0))) (hm : off + (Builtin.zeroCells z.cells n).size ≤ cur.size) :
    (Builtin.clear_ #[T] ty #[.slice (some ⟨g, off, none⟩) n c]).run P w = .ok (.tuple #[]) (w.setRow g (blit9 cur (Builtin.zeroCells z.cells n) off)) := by
  have hst := run_storeCells_at P g off t (Builtin.zeroCells z.cells n).toList 0 cur w hg (by simpa using hm) ho
  obtain ⟨m, rfl⟩ : ∃ m, n = m + 1 := ⟨n - 1, by omega⟩
  simp only [Nat.add_zero] at hst
  simp only [Builtin.clear_] at *
  simp [run_underlying hu, hz, hst, blit9]
theorem wpList_clear15 {P : Program} {w : World} {ops : Array Oper} {rest : List Oper} {o : Oper} {a : Act} {Q : Exit → Act → World → Prop} (hgd : o.guard = none) (d : Operand) (T : TypeId)
    (ho : o.op = .call { callee := .builtin .clear, args := #[d], argTypes := #[T] }) (elem : TypeId) (z : Value) (hu : P.underlying T = some (.slice elem)) (hz : ∀ w, (zeroValue elem).run P w = .ok z w)
    (g off n c : Nat) (hd : a.eval d = .slice (some ⟨g, off, none⟩) n c) (hn : 0 < n) (zc : Array Value) (hzc : Builtin.zeroCells z.cells n = zc) (ho1 : ∀ v ∈ zc.toList, v.oneCell' = true) (cur : Array Value) (t : TypeId) (hg : w.heap[g]? = some (.cells cur t (0, 0))) (hm : off + zc.size ≤ cur.size)
    (h : wpList P ops Q rest (a.put o.dst (.tuple #[])) (w.setRow g (blit9 cur zc off))) : wpList P ops Q (o :: rest) a w := by
  subst hzc
  refine wpList_plain hgd fun K hK => ?_
  have hrun := run_clear15 P w T o.type elem z g off n c cur t hu hz hn ho1 hg hm
  unfold Oper.wp
  simp [execOp, ho, resolve, invoke, builtin, hd, hrun, Result.andThen]
  exact hK _ _ h
def zTok : Value := .agg #[.int .i64 0, .string ⟨#[]⟩, .int .i64 0]
theorem zTok_size (n : Nat) : (Builtin.zeroCells zTok.cells n).size = n * 3 := by simp [Builtin.zeroCells, zTok, Value.cells]
theorem zTok_one (n : Nat) : ∀ v ∈ (Builtin.zeroCells zTok.cells n).toList, v.oneCell' = true := by
  intro v hv
  simp only [Builtin.zeroCells, zTok, Value.cells, Array.toList_map, List.mem_map] at hv
  obtain ⟨i, _, rfl⟩ := hv
  have h3 : i % 3 = 0 ∨ i % 3 = 1 ∨ i % 3 = 2 := by omega
  show (#[Value.int .i64 0, .string ⟨#[]⟩, .int .i64 0][i % 3]!).oneCell' = true
  rcases h3 with h | h | h <;> rw [h] <;> rfl

/-- A row of tokens in a block of the call's own. -/
structure RwT (w : World) (B g c : Nat) (R : List Tok) (rest : List Value) (wr : World) : Prop where
  st : St wr 51 g (tks R ++ rest).toArray
  bel : Below B w wr
  lo : B ≤ g
theorem RwT.of {w w' : World} {B n c : Nat} {a : Option Addr} {l : List Tok} (hl : l.length = n) (hn : 0 < n) (hb : Below B w w') (h : w'.ownsRow B 51 3 (.slice a n c) n (tks l)) : ∃ g rest, a = some ⟨g, 0, none⟩ ∧ RwT w B g c l rest w' ∧ n ≤ c ∧ c ≤ maxLen := by
  rcases h.2 with ⟨_, h0⟩ | ⟨g, cap, cur, hv, hg, hh, h1, h2, h3, h4⟩
  · omega
  · injection hv with e1 e2 e3
    subst e3
    refine ⟨g, cur.toList.drop (n * 3), e1, ⟨?_, hb, hg⟩, h1, h2⟩
    show w'.heap[g]? = _
    rw [← h4, List.take_append_drop]
    simpa using hh
theorem RwT.keep {w wr w1 : World} {B g c : Nat} {R : List Tok} {rest : List Value} (h : RwT w B g c R rest wr) (k : Below wr.heap.size wr w1) (hB : B ≤ wr.heap.size) : RwT w B g c R rest w1 := ⟨h.st.keep k, h.bel.trans (k.mono hB), h.lo⟩
theorem RwT.cell {w wr : World} {B g c : Nat} {R : List Tok} {rest : List Value} (h : RwT w B g c R rest wr) (k : Nat) (hk : k < R.length) : wr.cell? ⟨g, k * 3, none⟩ = some (.int .i64 R[k].r) ∧ wr.cell? ⟨g, k * 3 + 1, none⟩ = some (.string R[k].s) ∧ wr.cell? ⟨g, k * 3 + 2, none⟩ = some (.int .i64 R[k].p) := by
  have hx : ∀ j, j < 3 → wr.cell? ⟨g, k * 3 + j, none⟩ = (tkCells R[k])[j]? := fun j hj => by
    rw [h.st.at_, List.getElem?_toArray, List.getElem?_append_left (by rw [tks_length]; omega)]
    exact tks_get R k hk j hj
  exact ⟨hx 0 (by omega), hx 1 (by omega), hx 2 (by omega)⟩
theorem RwT.put {w wr : World} {B g c : Nat} {R : List Tok} {rest : List Value} (h : RwT w B g c R rest wr) (i : Nat) (hi : i < R.length) (x : Tok) : RwT w B g c (R.set i x) rest (wr.setRow g (blit9 (tks R ++ rest).toArray (tkCells x).toArray (i * 3))) := by
  refine ⟨?_, below_setRow9 h.bel h.lo _, h.lo⟩
  rw [← tks_blit R rest i hi x]
  exact h.st.setRow
theorem RwT.cut {w wr : World} {B g c n : Nat} {R : List Tok} {rest : List Value} (h : RwT w B g c R rest wr) (hn : R.length = n) (i : Nat) (hi : i < n) :
    TkAt (wr.setRow g (blit9 (tks R ++ rest).toArray (Builtin.zeroCells zTok.cells (n - i)) (i * 3))) (some ⟨g, 0, none⟩) (R.take i) ∧ Below B w (wr.setRow g (blit9 (tks R ++ rest).toArray (Builtin.zeroCells zTok.cells (n - i)) (i * 3))) := by
  refine ⟨fun h0 => ⟨g, 0, rfl, ?_, fun j hj => ?_⟩, below_setRow9 h.bel h.lo _⟩
  · rw [setRow_size]
    exact h.st.lt
  · have hs := h.st.setRow (cs := blit9 (tks R ++ rest).toArray (Builtin.zeroCells zTok.cells (n - i)) (i * 3))
    rw [List.length_take] at hj
    have hsz : (tks R ++ rest).toArray.size = n * 3 + rest.length := by simp [tks_length, hn]
    rw [hs.at_, Nat.zero_add, blit9_get _ _ _ (by rw [zTok_size, hsz]; omega), if_neg (by omega), List.getElem?_toArray, List.getElem?_append_left (by rw [tks_length]; omega)]
    rw [tks_split (show i < R.length by omega), List.getElem?_append_left (by rw [tks_length, List.length_take]; omega)]

/-! ### The places that are told apart -/
structure DlI (bl : Int) (l R : List Tok) (i j : Nat) : Prop where
  n : R.length = l.length
  t : R.take i = (l.take j).filter (keepT bl)
  d : R.drop j = l.drop j
  lt : i < j
theorem DlI.at_ {bl : Int} {l R : List Tok} {i j : Nat} (h : DlI bl l R i j) (hj : j < l.length) : R[j]'(by rw [h.n]; exact hj) = l[j] := by
  have hj2 : j < R.length := by rw [h.n]; exact hj
  have h1 : (R.drop j)[0]? = (l.drop j)[0]? := by rw [h.d]
  rw [List.getElem?_drop, List.getElem?_drop, Nat.add_zero, List.getElem?_eq_getElem hj, List.getElem?_eq_getElem hj2] at h1
  exact Option.some.inj h1
theorem drop_next {α : Type} {l R : List α} {j : Nat} (h : R.drop j = l.drop j) : R.drop (j + 1) = l.drop (j + 1) := by
  rw [← List.drop_drop, ← List.drop_drop, h]
theorem DlI.skip {bl : Int} {l R : List Tok} {i j : Nat} (h : DlI bl l R i j) (hj : j < l.length) (hb : l[j].r = bl) : DlI bl l R i (j + 1) := by
  refine ⟨h.n, ?_, drop_next h.d, by have := h.lt; omega⟩
  have : keepT bl l[j] = false := by simp [keepT, hb]
  rw [List.take_succ_eq_append_getElem hj, List.filter_append, h.t]
  simp [List.filter_cons, this]
theorem DlI.take {bl : Int} {l R : List Tok} {i j : Nat} (h : DlI bl l R i j) (hj : j < l.length) (hb : l[j].r ≠ bl) : DlI bl l (R.set i l[j]) (i + 1) (j + 1) := by
  have hk : keepT bl l[j] = true := by simp [keepT, hb]
  have hi : i < R.length := by have := h.lt; rw [h.n]; omega
  have e : R.set i l[j] = R.take i ++ l[j] :: R.drop (i + 1) := set_split l[j] R i hi
  have ht : (R.take i).length = i := by rw [List.length_take]; omega
  refine ⟨by rw [List.length_set]; exact h.n, ?_, ?_, by have := h.lt; omega⟩
  · rw [List.take_succ_eq_append_getElem hj, List.filter_append, ← h.t, e, List.take_append, ht, show i + 1 - i = 1 by omega, List.take_of_length_le (by omega)]
    simp [List.filter_cons, hk]
  · rw [List.drop_set_of_lt (by have := h.lt; omega)]
    exact drop_next h.d
end Go.Proofs.Ytldpmcgkbdejjaa
