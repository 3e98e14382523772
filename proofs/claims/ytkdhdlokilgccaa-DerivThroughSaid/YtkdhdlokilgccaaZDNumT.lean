import Derived.Test.YtkdhdlokilgccaaZDNumE
namespace Go.Proofs.Ytkdhdlokilgccaa
open Go.RowKit Go.Maps Go.WideElems Go.ChangeMaps Go.MapKept
set_option linter.unusedVariables false

/-- A tail: its head, the tail behind it. -/
structure Tl where
  h : Int
  r : Int
def tlCells (x : Tl) : List Value := (#[.int .i64 x.h, .int .i64 x.r] : Array Value).toList
def tls (l : List Tl) : List Value := l.flatMap tlCells
theorem tls_length (l : List Tl) : (tls l).length = l.length * 2 := by
  induction l with
  | nil => rfl
  | cons x l ih => simp [tls, tlCells] at ih ⊢; omega
theorem tls_snoc (l : List Tl) (x : Tl) : tls (l ++ [x]) = tls l ++ tlCells x := by simp [tls]
theorem tls_get (l : List Tl) (i : Nat) (h : i < l.length) (j : Nat) (hj : j < 2) : (tls l)[i * 2 + j]? = (tlCells l[i])[j]? := by
  induction l generalizing i with
  | nil => simp at h
  | cons x l ih =>
    have hc : (tlCells x).length = 2 := by simp [tlCells]
    show (tlCells x ++ tls l)[i * 2 + j]? = _
    match i, h with
    | 0, _ =>
      rw [Nat.zero_mul, Nat.zero_add, List.getElem?_append_left (by omega)]
      rfl
    | i + 1, h =>
      rw [List.getElem?_append_right (by omega), hc, show (i + 1) * 2 + j - 2 = i * 2 + j by omega, ih i (by simpa using h)]
      rfl
def Tl.ok (x : Tl) : Prop := -9223372036854775808 ≤ x.h ∧ x.h ≤ 9223372036854775807 ∧ -9223372036854775808 ≤ x.r ∧ x.r ≤ 9223372036854775807
theorem Tl.key {x : Tl} (h : x.ok) : ∃ kl, keyOf Try.prog 126 (.agg #[.int .i64 x.h, .int .i64 x.r]) = some kl :=
  key_tail _ _ (wf64 ⟨h.1, h.2.1⟩) (wf64 h.2.2)
theorem row2 {w : World} {g : Nat} {c0 c1 : Value} {t : TypeId} (h : St w t g #[c0, c1]) : w.cell? ⟨g, 0, none⟩ = some c0 ∧ w.cell? ⟨g, 1, none⟩ = some c1 := ⟨h.cell 0, h.cell 1⟩
/-- What the map of a book knows. -/
def KnT (E : List Tl) (key val : Value) : Prop := ∃ x i, key = .agg #[.int .i64 x.h, .int .i64 x.r] ∧ val = .int .i64 ((i : Nat) : Int) ∧ E[i]? = some x
theorem KnT.grow {E : List Tl} {y : Tl} {key val : Value} (h : KnT E key val) : KnT (E ++ [y]) key val := by
  obtain ⟨x, i, h1, h2, h3⟩ := h
  exact ⟨x, i, h1, h2, by rw [List.getElem?_append_left (List.getElem?_eq_some_iff.1 h3).1]; exact h3⟩
theorem KnT.back {E : List Tl} {x : Tl} (k v : Value) (h : KnT (E ++ [x]) k v) (hne : k ≠ .agg #[.int .i64 x.h, .int .i64 x.r]) : ∃ v', KnT E k v' := by
  obtain ⟨y, i, h1, h2, h3⟩ := h
  by_cases hi : i < E.length
  · exact ⟨v, y, i, h1, h2, by rw [List.getElem?_append_left hi] at h3; exact h3⟩
  · rw [List.getElem?_append_right (by omega)] at h3
    have e : y = x := by
      cases hj : i - E.length with
      | zero => rw [hj] at h3; simpa using h3.symm
      | succ j => rw [hj] at h3; simp at h3
    subst e
    exact absurd h1 hne
/-- The numbers of tails, in the cells o and o + 1 of block kb. -/
structure NumT (w : World) (B Tk kb : Nat) (cur : Array Value) (o : Nat) (E : List Tl) (bM : Option Nat) : Prop where
  st : St w Tk kb cur
  row : ∃ vE, cur[o]? = some vE ∧ w.ownsRow B 126 2 vE E.length (tls E)
  map : cur[o + 1]? = some (.map bM)
  none_ : bM = none → E = []
  some_ : ∀ b, bM = some b → B ≤ b ∧ MapEx w 126 b E.length (KnT E)
theorem NumT.below {w w' : World} {B Tk kb : Nat} {cur : Array Value} {o : Nat} {E : List Tl} {bM : Option Nat} (h : NumT w B Tk kb cur o E bM) (k : Below w.heap.size w w') : NumT w' B Tk kb cur o E bM := by
  obtain ⟨vE, hv, hO⟩ := h.row
  exact ⟨h.st.keep k, ⟨vE, hv, ownsRow_keep hO k⟩, h.map, h.none_, fun b e => ⟨(h.some_ b e).1, (h.some_ b e).2.same (k.block b (h.some_ b e).2.lt)⟩⟩
theorem NumT.kept {w w' : World} {B Tk kb : Nat} {cur : Array Value} {o : Nat} {E : List Tl} {bM : Option Nat} {bs : List Nat} (h : NumT w B Tk kb cur o E bM) (k : Kept [] bs w w') (h1 : kb ∉ bs) (h2 : ∀ b, bM = some b → b ∉ bs) (h3 : ∀ g, g ∈ rowBlk cur o → g ∉ bs) : NumT w' B Tk kb cur o E bM := by
  obtain ⟨vE, hv, hO⟩ := h.row
  exact ⟨h.st.kept k (by simp) h1, ⟨vE, hv, own_kept hO k (by simp) (fun g e => h3 g (by unfold rowBlk; rw [hv]; simp [e]))⟩, h.map, h.none_, fun b e => ⟨(h.some_ b e).1, (h.some_ b e).2.kept k (h2 b e)⟩⟩
theorem Try.info_tl : (Try.prog.info? 126).map (fun i => (i.zero, i.size, i.bytes)) = some (some (.agg #[.int .i64 0, .int .i64 0]), 2, 16) := by kernel_rfl
set_option maxHeartbeats 1000000 in
set_option maxRecDepth 100000 in
/-- .. where it is known. -/
theorem ofT_known (w : World) (kb o : Nat) (x : Tl) (b i : Nat) (cur : Array Value) (Tk : Nat) (hst : St w Tk kb cur) (hm : cur[o + 1]? = some (.map (some b))) (hb : b < w.heap.size)
    (hrun : ∀ W : World, W.heap[b]? = w.heap[b]? → (Instr.lookup 119 (.map (some b)) (.agg #[.int .i64 x.h, .int .i64 x.r]) true).run Try.prog W = .ok (.tuple #[.int .i64 ((i : Nat) : Int), .bool true]) W) :
    Calls Try.prog 57 #[.pointer (some ⟨kb, o, none⟩), .agg #[.int .i64 x.h, .int .i64 x.r]] w fun e w' => e = .returned (.int .i64 ((i : Nat) : Int)) ∧ Below w.heap.size w w' := by
  have hw := St.new w 126 #[.int .i64 x.h, .int .i64 x.r]
  have hst2 := hst.alloc (.cells #[.int .i64 x.h, .int .i64 x.r] 126)
  obtain ⟨x0, x1⟩ := row2 hw
  have c1 : (w.alloc (.cells #[.int .i64 x.h, .int .i64 x.r] 126)).cell? ⟨kb, o + 1, none⟩ = some (.map (some b)) := by rw [hst2.cell, hm]
  go_enter Try.func57, Try.ntmps57
  go_wp2_with fail
  have kb0 : Below w.heap.size w (w.alloc (.cells #[.int .i64 x.h, .int .i64 x.r] 126)) := (Below.refl _ _).alloc (Nat.le_refl _) _
  have hrunD := hrun (w.alloc (.cells #[.int .i64 x.h, .int .i64 x.r] 126)).drew (kb0.block b hb)
  clear hw hst hst2 hrun hm
  generalize w.alloc (.cells #[.int .i64 x.h, .int .i64 x.r] 126) = W at x0 x1 c1 kb0 hrunD ⊢
  go_still (by kernel_rfl)
  go_wp2_with fail
  go_ret
  exact ⟨rfl, kb0.drew⟩

set_option maxHeartbeats 2000000 in
set_option maxRecDepth 100000 in
/-- .. where it is not: it is put behind the others. -/
theorem ofT_new (w : World) (B Tk kb : Nat) (cur : Array Value) (o : Nat) (E : List Tl) (bM : Option Nat) (x : Tl) (hx : x.ok) (hN : NumT w B Tk kb cur o E bM) (hB : B ≤ w.heap.size) (hBk : B ≤ kb) (hTk : Tk ≠ 126) (n : Nat) (hn : E.length = n) (hmax : n ≤ 1000000) (hnew : ∀ y ∈ E, tlCells y ≠ tlCells x)
    (hrun : ∀ W : World, (∀ b, bM = some b → W.heap[b]? = w.heap[b]?) → (Instr.lookup 119 (.map bM) (.agg #[.int .i64 x.h, .int .i64 x.r]) true).run Try.prog W = .ok (.tuple #[.int .i64 0, .bool false]) W) :
    Calls Try.prog 57 #[.pointer (some ⟨kb, o, none⟩), .agg #[.int .i64 x.h, .int .i64 x.r]] w fun e w' => ∃ cur' b', e = .returned (.int .i64 ((n : Nat) : Int)) ∧ NumT w' B Tk kb cur' o (E ++ [x]) (some b') ∧ (∀ j, j ≠ o → j ≠ o + 1 → cur'[j]? = cur[j]?) ∧ cur'.size = cur.size ∧ (bM = some b' ∨ w.heap.size ≤ b') ∧ Below B w w' ∧ Kept [] (kb :: (bM.toList ++ rowBlk cur o)) w w' ∧ (∀ g, g ∈ rowBlk cur' o → g ∈ rowBlk cur o ∨ w.heap.size ≤ g) := by
  obtain ⟨i0, hi, hz0, hz1, hz2⟩ := info_parts Try.info_tl
  obtain ⟨kl, hkl⟩ := Tl.key hx
  have hmm := @run_makeMap Try.prog
  obtain ⟨vE, hvE, hO⟩ := hN.row
  rw [hn] at hO
  obtain ⟨aE, cE, rfl⟩ := ownsRow_slice hO
  have hst := hN.st
  have hm := hN.map
  have hne : ∀ b, bM = some b → b < w.heap.size := fun b e => (hN.some_ b e).2.lt
  have kb0 : Below w.heap.size w (w.alloc (.cells #[.int .i64 x.h, .int .i64 x.r] 126)) := (Below.refl _ _).alloc (Nat.le_refl _) _
  have hb0 : Below B w (w.alloc (.cells #[.int .i64 x.h, .int .i64 x.r] 126)) := kb0.mono hB
  have hk0 : Kept [] (kb :: (bM.toList ++ rowBlk cur o)) w (w.alloc (.cells #[.int .i64 x.h, .int .i64 x.r] 126)) := (Kept.refl _ _ _).alloc _
  have hX0 := St.new w 126 #[.int .i64 x.h, .int .i64 x.r]
  have hS0 := hst.alloc (.cells #[.int .i64 x.h, .int .i64 x.r] 126)
  have hO0 := hO.alloc (.cells #[.int .i64 x.h, .int .i64 x.r] 126)
  have hM0 : ∀ b, bM = some b → MapEx (w.alloc (.cells #[.int .i64 x.h, .int .i64 x.r] 126)) 126 b n (KnT E) := fun b e => hn ▸ ((hN.some_ b e).2.same (kb0.block b (hne b e)))
  have hrun0 := hrun (w.alloc (.cells #[.int .i64 x.h, .int .i64 x.r] 126)).drew (fun b e => kb0.block b (hne b e))
  have hsz0 : w.heap.size < (w.alloc (.cells #[.int .i64 x.h, .int .i64 x.r] 126)).heap.size := by simp
  have hBm := fun b e => (hN.some_ b e).1
  have hOlt : ∀ g, (Value.slice aE n cE).ownBlock = some g → g < w.heap.size := fun g hg => by
    obtain ⟨c, fz, hc⟩ := own_kind hO g hg
    exact (Array.getElem?_eq_some_iff.1 hc).1
  have hE0 := hN.none_
  have hrb : ∀ g, (Value.slice aE n cE).ownBlock = some g → g ∈ rowBlk cur o := fun g e => by unfold rowBlk; rw [hvE]; simp [e]
  clear hN hst hO hrun
  go_enter Try.func57, Try.ntmps57
  go_wp2_with fail
  generalize w.alloc (.cells #[.int .i64 x.h, .int .i64 x.r] 126) = W at hb0 hk0 hX0 hS0 hO0 hM0 hrun0 hsz0 ⊢
  clear kb0
  obtain ⟨x0, x1⟩ := row2 hX0
  have c1 : W.cell? ⟨kb, o + 1, none⟩ = some (.map bM) := by rw [hS0.cell, hm]
  go_still (by kernel_rfl)
  change Exit.then _ _ _ _ W.drew
  have hb1 : Below B w W.drew := hb0.drew
  have hk1 := hk0.drew
  have hX1 : St W.drew 126 w.heap.size #[.int .i64 x.h, .int .i64 x.r] := hX0
  have hS1 : St W.drew Tk kb cur := hS0
  have hO1 := hO0.drew
  have hM1 : ∀ b, bM = some b → MapEx W.drew 126 b n (KnT E) := hM0
  have hsz1 : w.heap.size < W.drew.heap.size := hsz0
  clear hb0 hk0 hX0 hS0 hO0 hM0 hrun0 hsz0 x0 x1 c1
  generalize W.drew = W1 at hb1 hk1 hX1 hS1 hO1 hM1 hsz1 ⊢
  have c0 : W1.cell? ⟨kb, o, none⟩ = some (.slice aE n cE) := by rw [hS1.cell, hvE]
  have c1 : W1.cell? ⟨kb, o + 1, none⟩ = some (.map bM) := by rw [hS1.cell, hm]
  have f0 := hS1.thaw o
  have f1 := hS1.thaw (o + 1)
  have heqm : (binOp .eql 119 (.map bM) (.map none)).run Try.prog W1 = .ok (.bool bM.isNone) W1 := by
    simp only [binOp]
    simp [run_equal_map_nil W1 119 126 3 bM Try.underlying119]
  have hnk : ∀ v, ¬ KnT E (.agg #[.int .i64 x.h, .int .i64 x.r]) v := fun v ⟨y, i, h1, _, h3⟩ => hnew y (List.mem_of_getElem? h3) (by injection h1 with h1; exact (congrArg Array.toList h1).symm)
  have HNK := Lib.hid hnk
  clear hnk hnew
  rcases bM with _ | b
  · have hkb : kb < W1.heap.size := hS1.lt
    have hw1s : w.heap.size ≤ W1.heap.size := by omega
    have hS2 := (hS1.set (o + 1) (.map (some W1.heap.size))).alloc (.map #[] 0)
    have hv2 : (cur.setIfInBounds (o + 1) (.map (some W1.heap.size)))[o]? = some (.slice aE n cE) := by rw [Array.getElem?_setIfInBounds_ne (by omega), hvE]
    have hm2 : (cur.setIfInBounds (o + 1) (.map (some W1.heap.size)))[o + 1]? = some (.map (some W1.heap.size)) := by
      rw [Array.getElem?_setIfInBounds_self, if_pos (Array.getElem?_eq_some_iff.1 hm).1]
    have ho2 : ∀ j, j ≠ o → j ≠ o + 1 → (cur.setIfInBounds (o + 1) (.map (some W1.heap.size)))[j]? = cur[j]? := fun j _ h => by rw [Array.getElem?_setIfInBounds_ne (by omega)]
    have hz2c : (cur.setIfInBounds (o + 1) (.map (some W1.heap.size))).size = cur.size := by simp
    have hss : (W1.setCell ⟨kb, o + 1, none⟩ (.map (some W1.heap.size))).heap.size = W1.heap.size := by simp [World.setCell]
    have hM2 : MapEx ((W1.setCell ⟨kb, o + 1, none⟩ (.map (some W1.heap.size))).alloc (.map #[] 0)) 126 W1.heap.size n (KnT E) := by
      have := MapEx.made (W1.setCell ⟨kb, o + 1, none⟩ (.map (some W1.heap.size))) 126 (KnT E) (by rw [hE0 rfl]; rintro _ _ ⟨x, i, _, _, h⟩; simp at h)
      rw [hss] at this
      exact this.more (by omega)
    clear hE0
    have hb2 : Below B w ((W1.setCell ⟨kb, o + 1, none⟩ (.map (some W1.heap.size))).alloc (.map #[] 0)) := (hb1.setCell (p := ⟨kb, o + 1, none⟩) hBk _).alloc (by rw [hss]; omega) _
    have hk2 : Kept [] (kb :: ((none : Option Nat).toList ++ rowBlk cur o)) w ((W1.setCell ⟨kb, o + 1, none⟩ (.map (some W1.heap.size))).alloc (.map #[] 0)) := (hk1.setCell _ _ (Or.inl (by simp))).alloc _
    have hO2 := (own_set hO1 hS1 (Ne.symm hTk) (o + 1) (.map (some W1.heap.size))).alloc (.map #[] 0)
    have hX2 := (hX1.set_far hS1 (Ne.symm hTk) (o + 1) (.map (some W1.heap.size))).alloc (.map #[] 0)
    have hbM : (none : Option Nat) = some W1.heap.size ∨ w.heap.size ≤ W1.heap.size := Or.inr hw1s
    have hBb : B ≤ W1.heap.size := by omega
    have hsz2 : w.heap.size < ((W1.setCell ⟨kb, o + 1, none⟩ (.map (some W1.heap.size))).alloc (.map #[] 0)).heap.size := by simp [World.setCell]; omega
    have fa1 : (W1.alloc (.map #[] 0)).frozen? ⟨kb, o + 1, none⟩ = false := (hS1.alloc (.map #[] 0)).thaw (o + 1)
    have ca1 : (W1.alloc (.map #[] 0)).cell? ⟨kb, o + 1, none⟩ = some (.map none) := by rw [(hS1.alloc (.map #[] 0)).cell, hm]
    have cb0 : ((W1.setCell ⟨kb, o + 1, none⟩ (.map (some W1.heap.size))).alloc (.map #[] 0)).cell? ⟨kb, o, none⟩ = some (.slice aE n cE) := by rw [hS2.cell, hv2]
    clear hS1 hO1 hM1 hb1 hk1 hX1 hsz1
    go_wp2_with fail
    clear c0 c1 f0 f1 heqm fa1 ca1 cb0 hss
    generalize (W1.setCell ⟨kb, o + 1, none⟩ (.map (some W1.heap.size))).alloc (.map #[] 0) = W2 at hS2 hM2 hb2 hk2 hO2 hX2 hsz2 ⊢
    generalize cur.setIfInBounds (o + 1) (.map (some W1.heap.size)) = cur2 at hS2 hv2 hm2 ho2 hz2c
    generalize W1.heap.size = b2 at hm2 hM2 hbM hBb
    clear hkb hw1s
    have hbs : b2 ∈ (kb :: ((none : Option Nat).toList ++ rowBlk cur o)) ∨ w.heap.size ≤ b2 := Or.inr (by rcases hbM with h | h; cases h; exact h)
    have c0 : W2.cell? ⟨kb, o, none⟩ = some (.slice aE n cE) := by rw [hS2.cell, hv2]
    have c1 : W2.cell? ⟨kb, o + 1, none⟩ = some (.map (some b2)) := by rw [hS2.cell, hm2]
    obtain ⟨x0, x1⟩ := row2 hX2
    have f0 := hS2.thaw o
    have cA : (W2.alloc (.cells #[.int .i64 x.h, .int .i64 x.r] 126)).cell? ⟨kb, o, none⟩ = some (.slice aE n cE) := by rw [(hS2.alloc _).cell, hv2]
    have hMa : MapEx (W2.alloc (.cells #[.int .i64 x.h, .int .i64 x.r] 126)).drew 126 b2 n (KnT E) := hM2.same (Below.heap_alloc W2 (.cells #[.int .i64 x.h, .int .i64 x.r] 126) _ hM2.lt)
    have hOa := (hO2.alloc (.cells #[.int .i64 x.h, .int .i64 x.r] 126)).drew
    have hSa : St (W2.alloc (.cells #[.int .i64 x.h, .int .i64 x.r] 126)).drew Tk kb cur2 := hS2.alloc (.cells #[.int .i64 x.h, .int .i64 x.r] 126)
    have hXa : St (W2.alloc (.cells #[.int .i64 x.h, .int .i64 x.r] 126)).drew 126 w.heap.size #[.int .i64 x.h, .int .i64 x.r] := hX2.alloc (.cells #[.int .i64 x.h, .int .i64 x.r] 126)
    have hka := (hk2.alloc (.cells #[.int .i64 x.h, .int .i64 x.r] 126)).drew
    have hba := (hb2.alloc (by omega) (.cells #[.int .i64 x.h, .int .i64 x.r] 126)).drew
    have hsza : w.heap.size < (W2.alloc (.cells #[.int .i64 x.h, .int .i64 x.r] 126)).drew.heap.size := by show w.heap.size < (W2.alloc _).heap.size; simp; omega
    have hBW : B ≤ W2.heap.size := by omega
    clear hM2 hX2 hk2 hb2 hsz2
    go_region_law (
      refine step_append_lies _ (by rfl) _ _ _ (by rfl) B 126 i0 (.agg #[.int .i64 0, .int .i64 0]) 2 16 Try.underlying118 hi hz0 hz1 hz2 (by rfl) (by decide) _ n (tls E) (by rfl) (by first | exact hO2.drew.alloc _ | exact (hO2.alloc _).drew) ⟨W2.heap.size, 0, none⟩ 1 1 (tlCells x) (by rfl) (by rfl) (World.news_of_block (cs := #[.int .i64 x.h, .int .i64 x.r]) (by first | exact heap_alloc_new _ _ | exact St.new _ _ _)) (by intro u hu; simp [tlCells] at hu; rcases hu with rfl | rfl <;> rfl) (by omega) (by unfold maxLen; omega) (by omega) (by simp; omega) _ (by rfl) ?_
      intro gg cap6 w6 hown6 hgrow6 hat6 hlt6
      have hS6 : St w6 Tk kb cur2 := hSa.grown_own hOa (Ne.symm hTk) hgrow6
      have f6 := hS6.thaw o
      have c6 : w6.cell? ⟨kb, o, none⟩ = some (.slice aE n cE) := (by rw [hS6.cell, hv2]))
    all_goals
      have hgg : gg ∈ rowBlk cur o ∨ w.heap.size ≤ gg := by
        rcases hat6 with h | h
        · exact Or.inl (hrb gg h)
        · exact Or.inr (by rw [h]; exact Nat.le_of_lt hsza)
      have HGG := Lib.hid hgg
      clear hgg
      have hM6 := hMa.grown_own hOa hgrow6
      have hX6 : St w6 126 w.heap.size #[.int .i64 x.h, .int .i64 x.r] := hXa.grown hgrow6 (fun e => absurd (hOlt _ e.symm) (by omega))
      have hk6 := hka.grown hgrow6 (fun g e => Or.inl (List.mem_cons_of_mem _ (List.mem_append_right _ (hrb g e))))
      have hb6 := below_grown_own hba hOa (by omega) hgrow6
      have hsz6 : w.heap.size < w6.heap.size := Nat.lt_of_lt_of_le hsza hgrow6.size
      have hS7 := hS6.set o (.slice (some ⟨gg, 0, none⟩) (n + 1) cap6)
      have hO7 := own_set hown6 hS6 (Ne.symm hTk) o (.slice (some ⟨gg, 0, none⟩) (n + 1) cap6)
      have hX7 := hX6.set_far hS6 (Ne.symm hTk) o (.slice (some ⟨gg, 0, none⟩) (n + 1) cap6)
      have hM7 := hM6.set (i := o) (u := .slice (some ⟨gg, 0, none⟩) (n + 1) cap6) hS6
      have hk7 := hk6.setCell ⟨kb, o, none⟩ (.slice (some ⟨gg, 0, none⟩) (n + 1) cap6) (Or.inl (by simp))
      have hb7 := hb6.setCell (p := ⟨kb, o, none⟩) hBk (.slice (some ⟨gg, 0, none⟩) (n + 1) cap6)
      have hsz7 : w.heap.size < (w6.setCell ⟨kb, o, none⟩ (.slice (some ⟨gg, 0, none⟩) (n + 1) cap6)).heap.size := by simpa [World.setCell] using hsz6
      have hv3 : (cur2.setIfInBounds o (.slice (some ⟨gg, 0, none⟩) (n + 1) cap6))[o]? = some (.slice (some ⟨gg, 0, none⟩) (n + 1) cap6) := by
        rw [Array.getElem?_setIfInBounds_self, if_pos (Array.getElem?_eq_some_iff.1 hv2).1]
      have hm3 : (cur2.setIfInBounds o (.slice (some ⟨gg, 0, none⟩) (n + 1) cap6))[o + 1]? = some (.map (some b2)) := by rw [Array.getElem?_setIfInBounds_ne (by omega), hm2]
      have ho3 : ∀ j, j ≠ o → j ≠ o + 1 → (cur2.setIfInBounds o (.slice (some ⟨gg, 0, none⟩) (n + 1) cap6))[j]? = cur[j]? := fun j h1 h2 => by rw [Array.getElem?_setIfInBounds_ne (by omega), ho2 j h1 h2]
      have hz3 : (cur2.setIfInBounds o (.slice (some ⟨gg, 0, none⟩) (n + 1) cap6)).size = cur.size := by simpa using hz2c
      clear hS6 f6 c6 hM6 hX6 hk6 hb6 hsz6 hMa hOa hSa hXa hka hba hsza hgrow6 hat6 hlt6 hown6 hO2 hS2
      generalize w6.setCell ⟨kb, o, none⟩ (.slice (some ⟨gg, 0, none⟩) (n + 1) cap6) = w7 at hS7 hO7 hX7 hM7 hk7 hb7 hsz7 ⊢
      generalize cur2.setIfInBounds o (.slice (some ⟨gg, 0, none⟩) (n + 1) cap6) = cur3 at hS7 hv3 hm3 ho3 hz3
      have c1 : w7.cell? ⟨kb, o + 1, none⟩ = some (.map (some b2)) := by rw [hS7.cell, hm3]
      obtain ⟨x0, x1⟩ := row2 hX7
      go_wp2_with fail
      go_still_tail 6, (by kernel_rfl)
      change wpList _ _ _ _ _ w7.drew
      have hM8 : MapEx w7.drew 126 b2 n (KnT E) := hM7
      go_wp2_with (at_mapUpdate; refine wpList_store_new _ rfl _ _ _ 119 rfl 126 3 law_tail Try.underlying119 b2 n (KnT E) (KnT (E ++ [x])) rfl hM8 (by unfold maxLen; omega) _ _ kl rfl rfl hkl HNK.out (fun _ _ h => h.grow) ⟨x, n, rfl, rfl, by simp [hn]⟩ KnT.back ?_)
      intro w9 hM9 hg9
      have hS9 := St.grown_map (w := w7.drew) hS7 hM8.of hg9
      have hO9 := own_grown_map hO7.drew hM8.of hg9
      have hk9 := hk7.drew.grown hg9 (fun g e => by
        injection e with e
        subst e
        rcases hbs with h | h
        · exact Or.inl h
        · exact Or.inr (Or.inl h))
      have hb9 := hb7.drew.grown hg9 (by show B ≤ w7.heap.size; omega) (fun g e => by injection e with e; omega)
      go_wp2_with fail
      go_ret
      have hl : (E ++ [x]).length = n + 1 := by simp [hn]
      exact ⟨cur3, b2, rfl, ⟨hS9, ⟨_, hv3, by rw [hl, tls_snoc]; exact hO9⟩, hm3, (fun e => by cases e), (fun b' e => by injection e with e; subst e; rw [hl]; exact ⟨hBb, hM9⟩)⟩, ho3, hz3, (by first | exact hbM | exact Or.inl rfl), hb9, hk9, fun g hg => by
        unfold rowBlk at hg
        rw [hv3] at hg
        simp [Value.ownBlock] at hg
        rw [hg]
        exact HGG.out⟩
  · clear hE0
    have hbM : some b = some b ∨ w.heap.size ≤ b := Or.inl rfl
    have hBb := hBm b rfl
    have hbs : b ∈ (kb :: ((some b : Option Nat).toList ++ rowBlk cur o)) ∨ w.heap.size ≤ b := Or.inl (by simp)
    have hM2 := hM1 b rfl
    obtain ⟨cur2, hcc⟩ : ∃ c, c = cur := ⟨_, rfl⟩
    have ho2 : ∀ j, j ≠ o → j ≠ o + 1 → cur2[j]? = cur[j]? := fun j _ _ => by rw [hcc]
    have hz2c : cur2.size = cur.size := by rw [hcc]
    have hv2 : cur2[o]? = some (.slice aE n cE) := by rw [hcc]; exact hvE
    have hm2 : cur2[o + 1]? = some (.map (some b)) := by rw [hcc]; exact hm
    have hS2 : St W1 Tk kb cur2 := by rw [hcc]; exact hS1
    have hO2 := hO1
    have hX2 := hX1
    have hk2 := hk1
    have hb2 := hb1
    have hsz2 := hsz1
    clear hcc hS1 hO1 hM1 hb1 hk1 hX1 hsz1
    go_wp2_with fail
    clear c0 c1 f0 f1 heqm
    have c0 : W1.cell? ⟨kb, o, none⟩ = some (.slice aE n cE) := by rw [hS2.cell, hv2]
    have c1 : W1.cell? ⟨kb, o + 1, none⟩ = some (.map (some b)) := by rw [hS2.cell, hm2]
    obtain ⟨x0, x1⟩ := row2 hX2
    have f0 := hS2.thaw o
    have cA : (W1.alloc (.cells #[.int .i64 x.h, .int .i64 x.r] 126)).cell? ⟨kb, o, none⟩ = some (.slice aE n cE) := by rw [(hS2.alloc _).cell, hv2]
    have hMa : MapEx (W1.alloc (.cells #[.int .i64 x.h, .int .i64 x.r] 126)).drew 126 b n (KnT E) := hM2.same (Below.heap_alloc W1 (.cells #[.int .i64 x.h, .int .i64 x.r] 126) _ hM2.lt)
    have hOa := (hO2.alloc (.cells #[.int .i64 x.h, .int .i64 x.r] 126)).drew
    have hSa : St (W1.alloc (.cells #[.int .i64 x.h, .int .i64 x.r] 126)).drew Tk kb cur2 := hS2.alloc (.cells #[.int .i64 x.h, .int .i64 x.r] 126)
    have hXa : St (W1.alloc (.cells #[.int .i64 x.h, .int .i64 x.r] 126)).drew 126 w.heap.size #[.int .i64 x.h, .int .i64 x.r] := hX2.alloc (.cells #[.int .i64 x.h, .int .i64 x.r] 126)
    have hka := (hk2.alloc (.cells #[.int .i64 x.h, .int .i64 x.r] 126)).drew
    have hba := (hb2.alloc (by omega) (.cells #[.int .i64 x.h, .int .i64 x.r] 126)).drew
    have hsza : w.heap.size < (W1.alloc (.cells #[.int .i64 x.h, .int .i64 x.r] 126)).drew.heap.size := by show w.heap.size < (W1.alloc _).heap.size; simp; omega
    have hBW : B ≤ W1.heap.size := by omega
    clear hM2 hX2 hk2 hb2 hsz2
    go_region_law (
      refine step_append_lies _ (by rfl) _ _ _ (by rfl) B 126 i0 (.agg #[.int .i64 0, .int .i64 0]) 2 16 Try.underlying118 hi hz0 hz1 hz2 (by rfl) (by decide) _ n (tls E) (by rfl) (by first | exact hO2.drew.alloc _ | exact (hO2.alloc _).drew) ⟨W1.heap.size, 0, none⟩ 1 1 (tlCells x) (by rfl) (by rfl) (World.news_of_block (cs := #[.int .i64 x.h, .int .i64 x.r]) (by first | exact heap_alloc_new _ _ | exact St.new _ _ _)) (by intro u hu; simp [tlCells] at hu; rcases hu with rfl | rfl <;> rfl) (by omega) (by unfold maxLen; omega) (by omega) (by simp; omega) _ (by rfl) ?_
      intro gg cap6 w6 hown6 hgrow6 hat6 hlt6
      have hS6 : St w6 Tk kb cur2 := hSa.grown_own hOa (Ne.symm hTk) hgrow6
      have f6 := hS6.thaw o
      have c6 : w6.cell? ⟨kb, o, none⟩ = some (.slice aE n cE) := (by rw [hS6.cell, hv2]))
    all_goals
      have hgg : gg ∈ rowBlk cur o ∨ w.heap.size ≤ gg := by
        rcases hat6 with h | h
        · exact Or.inl (hrb gg h)
        · exact Or.inr (by rw [h]; exact Nat.le_of_lt hsza)
      have HGG := Lib.hid hgg
      clear hgg
      have hM6 := hMa.grown_own hOa hgrow6
      have hX6 : St w6 126 w.heap.size #[.int .i64 x.h, .int .i64 x.r] := hXa.grown hgrow6 (fun e => absurd (hOlt _ e.symm) (by omega))
      have hk6 := hka.grown hgrow6 (fun g e => Or.inl (List.mem_cons_of_mem _ (List.mem_append_right _ (hrb g e))))
      have hb6 := below_grown_own hba hOa (by omega) hgrow6
      have hsz6 : w.heap.size < w6.heap.size := Nat.lt_of_lt_of_le hsza hgrow6.size
      have hS7 := hS6.set o (.slice (some ⟨gg, 0, none⟩) (n + 1) cap6)
      have hO7 := own_set hown6 hS6 (Ne.symm hTk) o (.slice (some ⟨gg, 0, none⟩) (n + 1) cap6)
      have hX7 := hX6.set_far hS6 (Ne.symm hTk) o (.slice (some ⟨gg, 0, none⟩) (n + 1) cap6)
      have hM7 := hM6.set (i := o) (u := .slice (some ⟨gg, 0, none⟩) (n + 1) cap6) hS6
      have hk7 := hk6.setCell ⟨kb, o, none⟩ (.slice (some ⟨gg, 0, none⟩) (n + 1) cap6) (Or.inl (by simp))
      have hb7 := hb6.setCell (p := ⟨kb, o, none⟩) hBk (.slice (some ⟨gg, 0, none⟩) (n + 1) cap6)
      have hsz7 : w.heap.size < (w6.setCell ⟨kb, o, none⟩ (.slice (some ⟨gg, 0, none⟩) (n + 1) cap6)).heap.size := by simpa [World.setCell] using hsz6
      have hv3 : (cur2.setIfInBounds o (.slice (some ⟨gg, 0, none⟩) (n + 1) cap6))[o]? = some (.slice (some ⟨gg, 0, none⟩) (n + 1) cap6) := by
        rw [Array.getElem?_setIfInBounds_self, if_pos (Array.getElem?_eq_some_iff.1 hv2).1]
      have hm3 : (cur2.setIfInBounds o (.slice (some ⟨gg, 0, none⟩) (n + 1) cap6))[o + 1]? = some (.map (some b)) := by rw [Array.getElem?_setIfInBounds_ne (by omega), hm2]
      have ho3 : ∀ j, j ≠ o → j ≠ o + 1 → (cur2.setIfInBounds o (.slice (some ⟨gg, 0, none⟩) (n + 1) cap6))[j]? = cur[j]? := fun j h1 h2 => by rw [Array.getElem?_setIfInBounds_ne (by omega), ho2 j h1 h2]
      have hz3 : (cur2.setIfInBounds o (.slice (some ⟨gg, 0, none⟩) (n + 1) cap6)).size = cur.size := by simpa using hz2c
      clear hS6 f6 c6 hM6 hX6 hk6 hb6 hsz6 hMa hOa hSa hXa hka hba hsza hgrow6 hat6 hlt6 hown6 hO2 hS2
      generalize w6.setCell ⟨kb, o, none⟩ (.slice (some ⟨gg, 0, none⟩) (n + 1) cap6) = w7 at hS7 hO7 hX7 hM7 hk7 hb7 hsz7 ⊢
      generalize cur2.setIfInBounds o (.slice (some ⟨gg, 0, none⟩) (n + 1) cap6) = cur3 at hS7 hv3 hm3 ho3 hz3
      have c1 : w7.cell? ⟨kb, o + 1, none⟩ = some (.map (some b)) := by rw [hS7.cell, hm3]
      obtain ⟨x0, x1⟩ := row2 hX7
      go_wp2_with fail
      go_still_tail 6, (by kernel_rfl)
      change wpList _ _ _ _ _ w7.drew
      have hM8 : MapEx w7.drew 126 b n (KnT E) := hM7
      go_wp2_with (at_mapUpdate; refine wpList_store_new _ rfl _ _ _ 119 rfl 126 3 law_tail Try.underlying119 b n (KnT E) (KnT (E ++ [x])) rfl hM8 (by unfold maxLen; omega) _ _ kl rfl rfl hkl HNK.out (fun _ _ h => h.grow) ⟨x, n, rfl, rfl, by simp [hn]⟩ KnT.back ?_)
      intro w9 hM9 hg9
      have hS9 := St.grown_map (w := w7.drew) hS7 hM8.of hg9
      have hO9 := own_grown_map hO7.drew hM8.of hg9
      have hk9 := hk7.drew.grown hg9 (fun g e => by
        injection e with e
        subst e
        rcases hbs with h | h
        · exact Or.inl h
        · exact Or.inr (Or.inl h))
      have hb9 := hb7.drew.grown hg9 (by show B ≤ w7.heap.size; omega) (fun g e => by injection e with e; omega)
      go_wp2_with fail
      go_ret
      have hl : (E ++ [x]).length = n + 1 := by simp [hn]
      exact ⟨cur3, b, rfl, ⟨hS9, ⟨_, hv3, by rw [hl, tls_snoc]; exact hO9⟩, hm3, (fun e => by cases e), (fun b' e => by injection e with e; subst e; rw [hl]; exact ⟨hBb, hM9⟩)⟩, ho3, hz3, (by first | exact hbM | exact Or.inl rfl), hb9, hk9, fun g hg => by
        unfold rowBlk at hg
        rw [hv3] at hg
        simp [Value.ownBlock] at hg
        rw [hg]
        exact HGG.out⟩

set_option maxRecDepth 100000 in
/-- The number of a tail: one that is there, or it is put behind the others. -/
theorem ofT_any (w : World) (B Tk kb : Nat) (cur : Array Value) (o : Nat) (E : List Tl) (bM : Option Nat) (x : Tl) (hx : x.ok) (hN : NumT w B Tk kb cur o E bM) (hB : B ≤ w.heap.size) (hBk : B ≤ kb) (hTk : Tk ≠ 126) (hmax : E.length ≤ 1000000) :
    Calls Try.prog 57 #[.pointer (some ⟨kb, o, none⟩), .agg #[.int .i64 x.h, .int .i64 x.r]] w fun e w' => ∃ (i : Nat) (E' : List Tl) (cur' : Array Value) (bM' : Option Nat), e = .returned (.int .i64 ((i : Nat) : Int)) ∧ NumT w' B Tk kb cur' o E' bM' ∧ (∀ j, j ≠ o → j ≠ o + 1 → cur'[j]? = cur[j]?) ∧ cur'.size = cur.size ∧ (bM' = bM ∨ ∃ b, bM' = some b ∧ w.heap.size ≤ b) ∧ Below B w w' ∧ Kept [] (kb :: (bM.toList ++ rowBlk cur o)) w w' ∧ ((E' = E ∧ cur' = cur ∧ ∃ y, E[i]? = some y ∧ tlCells y = tlCells x) ∨ (E' = E ++ [x] ∧ i = E.length ∧ ∀ y ∈ E, tlCells y ≠ tlCells x)) ∧ (∀ g, g ∈ rowBlk cur' o → g ∈ rowBlk cur o ∨ w.heap.size ≤ g) := by
  obtain ⟨kl, hkl⟩ := Tl.key hx
  have hz := zero_int
  rcases bM with _ | b
  · refine (ofT_new w B Tk kb cur o E none x hx hN hB hBk hTk E.length rfl hmax (by rw [hN.none_ rfl]; simp) (fun W _ => ?_)).mono ?_
    · simpa using Maps.look_nil true law_tail Try.underlying119 (hz W) hkl
    · rintro e w' ⟨cur', b', rfl, h1, h2, h3, h4, h5, h6, h7⟩
      exact ⟨E.length, E ++ [x], cur', some b', rfl, h1, h2, h3, Or.inr ⟨b', rfl, by rcases h4 with h | h; cases h; exact h⟩, h5, h6, Or.inr ⟨rfl, rfl, by rw [hN.none_ rfl]; simp⟩, h7⟩
  · obtain ⟨hBb, hM⟩ := hN.some_ b rfl
    have hr := fun (W : World) (hW : W.heap[b]? = w.heap[b]?) => (hM.same hW).of.look law_tail Try.underlying119 (hz W) hkl
    by_cases hk : ∃ v, KnT E (.agg #[.int .i64 x.h, .int .i64 x.r]) v ∧ ∀ W : World, W.heap[b]? = w.heap[b]? → (Instr.lookup 119 (.map (some b)) (.agg #[.int .i64 x.h, .int .i64 x.r]) true).run Try.prog W = .ok (.tuple #[v, .bool true]) W
    · obtain ⟨v, ⟨y, i, hy, rfl, hi⟩, hrun⟩ := hk
      refine (ofT_known w kb o x b i cur Tk hN.st hN.map hM.lt hrun).mono ?_
      rintro e w' ⟨rfl, hb⟩
      have hk0 : Kept [] (kb :: ((some b).toList ++ rowBlk cur o)) w w' := (Kept.refl _ _ _).below hb
      obtain ⟨vE, hv, hO⟩ := hN.row
      refine ⟨i, E, cur, some b, rfl, ⟨hN.st.keep hb, ⟨vE, hv, ownsRow_keep hO hb⟩, hN.map, hN.none_, fun b' e => ?_⟩, fun _ _ _ => rfl, rfl, Or.inl rfl, hb.mono hB, hk0, Or.inl ⟨rfl, rfl, y, hi, ?_⟩, fun _ h => Or.inl h⟩
      · obtain ⟨h1, h2⟩ := hN.some_ b' e
        exact ⟨h1, h2.same (hb.block b' h2.lt)⟩
      · injection hy with hy
        exact (congrArg Array.toList hy).symm
    · have hnew : ∀ y ∈ E, tlCells y ≠ tlCells x := by
        intro y hy e0
        obtain ⟨i, hi, hiy⟩ := List.getElem_of_mem hy
        have e1 : (Value.agg #[.int .i64 y.h, .int .i64 y.r]) = .agg #[.int .i64 x.h, .int .i64 x.r] := by
          have e2 : (#[.int .i64 y.h, .int .i64 y.r] : Array Value) = #[.int .i64 x.h, .int .i64 x.r] := Array.toList_inj.1 e0
          rw [e2]
        have hkn : KnT E (.agg #[.int .i64 x.h, .int .i64 x.r]) (.int .i64 ((i : Nat) : Int)) := ⟨y, i, e1.symm, rfl, by rw [List.getElem?_eq_getElem hi, hiy]⟩
        obtain ⟨es, clock, hb, F, _, hq, hall⟩ := hM
        obtain ⟨e3, h3, h4⟩ := hall _ _ hkn
        refine hk ⟨e3.val, by rw [← h4]; exact hq e3 h3, fun W hW => ?_⟩
        rcases Maps.fit_look true law_tail Try.underlying119 (hz W) (hW.trans hb) F hkl with ⟨_, hn, _⟩ | ⟨e5, _, hm5, hk5, hrun5, _⟩
        · exact absurd h4 (hn e3 h3)
        · rw [show e3 = e5 from one_key F.stamped.2.2 h3 hm5 (h4.trans hk5.symm)]
          simpa using hrun5
      have hno : ∀ W : World, W.heap[b]? = w.heap[b]? → (Instr.lookup 119 (.map (some b)) (.agg #[.int .i64 x.h, .int .i64 x.r]) true).run Try.prog W = .ok (.tuple #[.int .i64 0, .bool false]) W := by
        obtain ⟨es, clock, hb, F, _, hq, _⟩ := hM
        have h0 := fun (W : World) (hW : W.heap[b]? = w.heap[b]?) => Maps.fit_look true law_tail Try.underlying119 (hz W) (hW.trans hb) F hkl
        intro W hW
        rcases h0 W hW with ⟨hrun, _, _⟩ | ⟨e0, _, hm, hk0, _⟩
        · simpa using hrun
        · refine absurd ⟨e0.val, by rw [← hk0]; exact hq e0 hm, fun W' hW' => ?_⟩ hk
          rcases h0 W' hW' with ⟨_, hn, _⟩ | ⟨e1, _, hm1, hk1, hrun1, _⟩
          · exact absurd hk0 (hn e0 hm)
          · rw [show e0 = e1 from one_key F.stamped.2.2 hm hm1 (hk0.trans hk1.symm)]
            simpa using hrun1
      refine (ofT_new w B Tk kb cur o E (some b) x hx hN hB hBk hTk E.length rfl hmax hnew (fun W hW => hno W (hW b rfl))).mono ?_
      rintro e w' ⟨cur', b', rfl, h1, h2, h3, h4, h5, h6, h7⟩
      exact ⟨E.length, E ++ [x], cur', some b', rfl, h1, h2, h3, by rcases h4 with h | h; exact Or.inl h.symm; exact Or.inr ⟨b', rfl, h⟩, h5, h6, Or.inr ⟨rfl, rfl, hnew⟩, h7⟩
end Go.Proofs.Ytkdhdlokilgccaa
