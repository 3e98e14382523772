import Derived.Test.YtlnndkilaklifaaZNNarrow
import Derived.Test.YtlnndkilaklifaaZNRef
import Derived.Laws.CopyOwn
namespace Go.Proofs.Ytlnndkilaklifaa
set_option linter.unusedVariables false

/-- A machine: its states, its first, its last, its edges. -/
structure NF where
  N : Nat
  F : Nat
  T : Nat
  L : List En
def NF.ok (m : NF) : Prop := Ok m.L m.N m.F m.T
/-- An edge moved. -/
def En.by (o : Nat) (e : En) : En := ⟨e.f + o, e.t + o, e.p, e.b⟩
/-- A free edge. -/
def fre (f t : Nat) : En := ⟨f, t, fun _ => false, true⟩
/-- Where the k-th machine begins. -/
def uo (M : Nat → NF) : Nat → Nat
  | 0 => 1
  | k + 1 => uo M k + (M k).N
/-- All edges of the first k. -/
def uE (M : Nat → NF) : Nat → List En
  | 0 => []
  | k + 1 => uE M k ++ (fre 0 (uo M k + (M k).F) :: (M k).L.map (En.by (uo M k)))
theorem uo_pos (M : Nat → NF) (k : Nat) : 1 ≤ uo M k := by
  induction k with
  | zero => exact Nat.le_refl _
  | succ k ih => show 1 ≤ uo M k + _; omega
theorem uo_le (M : Nat → NF) {i k : Nat} (h : i ≤ k) : uo M i ≤ uo M k := by
  induction k with
  | zero => rw [show i = 0 by omega]; exact Nat.le_refl _
  | succ k ih =>
    by_cases e : i = k + 1
    · rw [e]; exact Nat.le_refl _
    · have := ih (by omega)
      show uo M i ≤ uo M k + _
      omega
theorem uE_lt (M : Nat → NF) (n : Nat) (h : ∀ k, k < n → (M k).ok) : ∀ e ∈ uE M n, e.f < uo M n ∧ 1 ≤ e.t ∧ e.t < uo M n := by
  induction n with
  | zero => intro e he; simp [uE] at he
  | succ n ih =>
    intro e he
    have hp := uo_pos M n
    have hk := h n (by omega)
    simp only [uE, List.mem_append, List.mem_cons, List.mem_map] at he
    rcases he with he | rfl | ⟨e', he', rfl⟩
    · obtain ⟨h1, h2, h3⟩ := ih (fun k hk => h k (by omega)) e he
      show _ < uo M n + _ ∧ _ ∧ _ < uo M n + _
      omega
    · have := hk.f
      show 0 < uo M n + _ ∧ 1 ≤ uo M n + _ ∧ uo M n + _ < uo M n + _
      omega
    · obtain ⟨h1, h2⟩ := hk.e e' he'
      show e'.f + uo M n < uo M n + _ ∧ 1 ≤ e'.t + uo M n ∧ e'.t + uo M n < uo M n + _
      omega
theorem uE_len (M : Nat → NF) (n B : Nat) (h : ∀ k, k < n → (M k).L.length ≤ B) : (uE M n).length ≤ n * (B + 1) := by
  induction n with
  | zero => simp [uE]
  | succ n ih =>
    have h1 := ih (fun k hk => h k (by omega))
    have h2 := h n (by omega)
    simp only [uE, List.length_append, List.length_cons, List.length_map]
    rw [Nat.succ_mul]
    omega
theorem uo_bnd (M : Nat → NF) (n B : Nat) (h : ∀ k, k < n → (M k).N ≤ B) : uo M n ≤ 1 + n * B := by
  induction n with
  | zero => simp [uo]
  | succ n ih =>
    have h1 := ih (fun k hk => h k (by omega))
    have h2 := h n (by omega)
    show uo M n + _ ≤ _
    rw [Nat.succ_mul]
    omega
/-- A machine lies in a list of edges at p. -/
structure Seg (E : List En) (p : Nat) (m : NF) : Prop where
  pos : 1 ≤ p
  zero : ∀ e ∈ E, 1 ≤ e.t
  frm : ∀ e ∈ E, p ≤ e.t → e.t < p + m.N → e = fre 0 (p + m.F) ∨ ∃ e' ∈ m.L, e = e'.by p
  free : fre 0 (p + m.F) ∈ E
  all : ∀ e' ∈ m.L, e'.by p ∈ E
theorem uE_seg (M : Nat → NF) (n : Nat) (h : ∀ k, k < n → (M k).ok) (i : Nat) (hi : i < n) : Seg (uE M n) (uo M i) (M i) := by
  induction n with
  | zero => omega
  | succ n ih =>
    have hz : ∀ e ∈ uE M (n + 1), 1 ≤ e.t := fun e he => (uE_lt M (n + 1) h e he).2.1
    by_cases e : i = n
    · subst e
      refine ⟨uo_pos M i, hz, fun e he h1 h2 => ?_, by simp [uE], fun e' he' => by simp only [uE, List.mem_append, List.mem_cons, List.mem_map]; exact Or.inr (Or.inr ⟨e', he', rfl⟩)⟩
      simp only [uE, List.mem_append, List.mem_cons, List.mem_map] at he
      rcases he with he | rfl | ⟨e', he', rfl⟩
      · have := (uE_lt M i (fun k hk => h k (by omega)) e he).2.2
        omega
      · exact Or.inl rfl
      · exact Or.inr ⟨e', he', rfl⟩
    · have S := ih (fun k hk => h k (by omega)) (by omega)
      have hle : uo M i + (M i).N ≤ uo M n := uo_le M (show i + 1 ≤ n by omega)
      refine ⟨S.pos, hz, fun e he h1 h2 => ?_, by simp only [uE, List.mem_append]; exact Or.inl S.free, fun e' he' => by simp only [uE, List.mem_append]; exact Or.inl (S.all e' he')⟩
      simp only [uE, List.mem_append, List.mem_cons, List.mem_map] at he
      rcases he with he | rfl | ⟨e', he', rfl⟩
      · exact S.frm e he h1 h2
      · have : uo M n + (M n).F < uo M i + (M i).N := h2
        omega
      · have : e'.t + uo M n < uo M i + (M i).N := h2
        omega
theorem Seg.fr0 {E : List En} {p : Nat} {m : NF} (h : Seg E p m) {A : Nat → Prop} (k : FR E A 0) : A 0 := by
  have : ∀ y, FR E A y → y = 0 → A 0 := by
    intro y k
    induction k with
    | base ha => intro e; subst e; exact ha
    | step e _ h1 h2 h3 h4 ih =>
      intro e0
      have := h.zero e h1
      omega
  exact this 0 k rfl
theorem Seg.fr {E : List En} {p : Nat} {m : NF} (h : Seg E p m) (hm : m.ok) {A : Nat → Prop} {q : Nat} (hq : q < m.N) : FR E A (p + q) ↔ FR m.L (fun q => q < m.N ∧ (A (p + q) ∨ (A 0 ∧ q = m.F))) q := by
  constructor
  · have : ∀ y, FR E A y → ∀ q, q < m.N → y = p + q → FR m.L (fun q => q < m.N ∧ (A (p + q) ∨ (A 0 ∧ q = m.F))) q := by
      intro y k
      induction k with
      | base ha => intro q hq e; subst e; exact .base ⟨hq, Or.inl ha⟩
      | step e k0 h1 h2 h3 h4 ih =>
        intro q hq e0
        rcases h.frm e h1 (by omega) (by omega) with rfl | ⟨e', he', rfl⟩
        · have e1 : 0 = _ := h3
          have e2 : p + m.F = _ := h4
          subst e1
          exact .base ⟨hq, Or.inr ⟨h.fr0 k0, by omega⟩⟩
        · have e1 : e'.f + p = _ := h3
          have e2 : e'.t + p = _ := h4
          exact .step e' (ih e'.f (hm.e e' he').1 (by omega)) he' h2 rfl (by omega)
    exact fun k => this _ k q hq rfl
  · intro k
    clear hq
    induction k with
    | base ha =>
      rcases ha.2 with h1 | ⟨h1, rfl⟩
      · exact .base h1
      · exact .step (fre 0 (p + m.F)) (.base h1) h.free rfl rfl rfl
    | step e _ h1 h2 h3 h4 ih =>
      subst h3 h4
      exact .step (e.by p) ih (h.all e h1) h2 (Nat.add_comm _ _) (Nat.add_comm _ _)
theorem Seg.mv {E : List En} {p : Nat} {m : NF} (h : Seg E p m) (hm : m.ok) {A B : Nat → Prop} (hAB : ∀ q, q < m.N → (A (p + q) ↔ B q)) {c q : Nat} (hq : q < m.N) : Mv E A c (p + q) ↔ Mv m.L B c q := by
  constructor
  · rintro ⟨e, h1, h2, h3, h4, h5⟩
    rcases h.frm e h1 (by omega) (by omega) with rfl | ⟨e', he', rfl⟩
    · cases h2
    · have e2 : e'.t + p = _ := h5
      refine ⟨e', he', h2, h3, (hAB _ (hm.e e' he').1).1 ?_, by omega⟩
      rw [Nat.add_comm]; exact h4
  · rintro ⟨e, h1, h2, h3, h4, h5⟩
    subst h5
    refine ⟨e.by p, h.all e h1, h2, h3, ?_, Nat.add_comm _ _⟩
    have := (hAB _ (hm.e e h1).1).2 h4
    rwa [Nat.add_comm] at this
/-- What is reached of a machine in a union is what is reached of it alone. -/
theorem Seg.run {E : List En} {p : Nat} {m : NF} (h : Seg E p m) (hm : m.ok) (z : Nat → Nat) (k : Nat) : ∀ q, q < m.N → (RunP E 0 z k (p + q) ↔ RunP m.L m.F z k q) := by
  induction k with
  | zero =>
    intro q hq
    have hp := h.pos
    have hf := hm.f
    rw [RunP, h.fr hm hq]
    exact FR.congr (fun x => ⟨fun ⟨h1, h2⟩ => by omega, fun h1 => ⟨by omega, Or.inr ⟨rfl, h1⟩⟩⟩) q
  | succ k ih =>
    intro q hq
    rw [RunP, h.fr hm hq]
    refine FR.congr (fun x => ?_) q
    constructor
    · rintro ⟨h1, h2 | ⟨⟨e, h3, h4, h5, h6, h7⟩, _⟩⟩
      · exact (h.mv hm ih h1).1 h2
      · have := h.zero e h3
        omega
    · intro h1
      have hx := Mv.lt (fun e he => (hm.e e he).2) h1
      exact ⟨hx, Or.inl ((h.mv hm ih hx).2 h1)⟩
end Go.Proofs.Ytlnndkilaklifaa

namespace Go.Proofs.Ytlnndkilaklifaa
open Go.RowKit
set_option linter.unusedVariables false
set_option linter.unusedSimpArgs false

/-- copy of elements of several cells that fills a row. -/
theorem run_copy_full (P : Program) (w : World) (dT sT ty elem : TypeId) (size : Nat) (g n dCap sCap : Nat) (sp : Option Addr) (cur : Array Value) (t : TypeId) (cs : List Value)
    (hu : P.underlying dT = some (.slice elem)) (hs : (P.info? elem).map (·.size) = some size)
    (hg : w.heap[g]? = some (.cells cur t (0, 0))) (hn : cs.length = n * size) (hcur : cur.size = cs.length)
    (hsrc : 0 < n → ∃ ad, sp = some ad ∧ ∀ j v, cs[j]? = some v → w.cell? (ad.add j) = some v) (h1 : ∀ v ∈ cs, v.oneCell' = true) :
    (Builtin.copy_ #[dT, sT] ty #[.slice (some ⟨g, 0, none⟩) n dCap, .slice sp n sCap]).run P w = .ok (goInt n) (w.setRow g cs.toArray) := by
  have hst := run_storeCells_at P g 0 t cs 0 cur w hg (by omega) h1
  have hst2 : (cur.toList.take (0 + 0) ++ cs ++ cur.toList.drop (0 + 0 + cs.length)).toArray = cs.toArray := by
    rw [List.drop_eq_nil_of_le (by simp [hcur])]
    simp
  rw [hst2] at hst
  cases hq : P.info? elem with
  | none => simp [hq] at hs
  | some i =>
    have hi : i.size = size := by simpa [hq] using hs
    have hmin : Nat.min n n = n := Nat.min_self n
    match sp, hsrc with
    | some a, hsrc =>
      have hl : (loadCells a (n * size)).run P w = .ok cs.toArray w := by
        by_cases h0 : 0 < n
        · obtain ⟨ad, e, hsrc⟩ := hsrc h0
          injection e with e
          subst e
          rw [← hn]
          exact run_loadCells_list (P := P) w a cs hsrc
        · obtain rfl : n = 0 := by omega
          have : cs = [] := List.eq_nil_of_length_eq_zero (by omega)
          subst this
          have := run_loadCells_list (P := P) w a [] (by simp)
          simpa using this
      simp [Builtin.copy_, run_underlying hu, Builtin.lenOf, Builtin.firstCells, sizeOf, typeInfo, hq, hi, hmin, hl, hst]
    | none, hsrc =>
      obtain rfl : n = 0 := by
        by_cases h0 : 0 < n
        · obtain ⟨ad, e, _⟩ := hsrc h0
          cases e
        · omega
      have : cs = [] := List.eq_nil_of_length_eq_zero (by omega)
      subst this
      simp [Builtin.copy_, run_underlying hu, Builtin.lenOf, Builtin.firstCells, sizeOf, typeInfo, hq, hi, hst]
theorem wpList_copy_full {P : Program} {w : World} {ops : Array Oper} {rest : List Oper} {o : Oper} {a : Act} {Q : Exit → Act → World → Prop} (hgd : o.guard = none) (d s : Operand) (dT sT : TypeId)
    (ho : o.op = .call { callee := .builtin .copy, args := #[d, s], argTypes := #[dT, sT] }) (elem : TypeId) (size : Nat) (hu : P.underlying dT = some (.slice elem)) (hsz : (P.info? elem).map (·.size) = some size)
    (g n dCap sCap : Nat) (sp : Option Addr) (hd : a.eval d = .slice (some ⟨g, 0, none⟩) n dCap) (hs : a.eval s = .slice sp n sCap)
    (cur : Array Value) (t : TypeId) (hg : w.heap[g]? = some (.cells cur t (0, 0))) (cs : List Value) (hn : cs.length = n * size) (hcur : cur.size = cs.length)
    (hsrc : 0 < n → ∃ ad, sp = some ad ∧ ∀ j v, cs[j]? = some v → w.cell? (ad.add j) = some v) (h1 : ∀ v ∈ cs, v.oneCell' = true)
    (h : wpList P ops Q rest (a.put o.dst (goInt n)) (w.setRow g cs.toArray)) : wpList P ops Q (o :: rest) a w := by
  refine wpList_plain hgd fun K hK => ?_
  have hrun := run_copy_full P w dT sT o.type elem size g n dCap sCap sp cur t cs hu hsz hg hn hcur hsrc h1
  unfold Oper.wp
  simp [execOp, ho, resolve, invoke, builtin, hd, hs, hrun, Result.andThen]
  exact hK _ _ h

/-- A row that fills its block. -/
theorem own_full {w : World} {base e g n size : Nat} {xs : List Value} (h : w.ownsRow base e size (.slice (some ⟨g, 0, none⟩) n n) n xs) : w.heap[g]? = some (.cells xs.toArray e (0, 0)) ∧ base ≤ g ∧ n ≤ maxLen ∧ xs.length = n * size := by
  rcases h.2 with ⟨h1, _⟩ | ⟨g', cap, cur, h1, h2, h3, h4, h5, h6, h7⟩
  · cases h1
  · injection h1 with e1 _ e3
    injection e1 with e1
    injection e1 with e1
    subst e1 e3
    have e : cur = xs.toArray := by
      apply Array.toList_inj.1
      rw [← h7, List.take_of_length_le (by simp [h6])]
    subst e
    exact ⟨h3, h2, h5, by simpa using h6⟩
/-- .. with other cells. -/
theorem own_refill {w : World} {base e g n size : Nat} {xs ys : List Value} (h : w.ownsRow base e size (.slice (some ⟨g, 0, none⟩) n n) n xs) (hy : ys.length = n * size) : (w.setRow g ys.toArray).ownsRow base e size (.slice (some ⟨g, 0, none⟩) n n) n ys := by
  obtain ⟨h1, h2, h3, h4⟩ := own_full h
  exact ⟨hy, Or.inr ⟨g, n, ys.toArray, rfl, h2, setRow_heap w g _ _ e _ h1, Nat.le_refl _, h3, by simpa using hy, by rw [List.take_of_length_le (by simp [hy])]⟩⟩
/-- A cell of a row turns. -/
theorem own_putn {w : World} {base e g n c size : Nat} {xs : List Value} (h : w.ownsRow base e size (.slice (some ⟨g, 0, none⟩) n c) n xs) (j : Nat) (hj : j < n * size) (u : Value) : (w.setCell ⟨g, j, none⟩ u).ownsRow base e size (.slice (some ⟨g, 0, none⟩) n c) n (xs.set j u) := by
  refine ⟨by rw [List.length_set]; exact h.1, ?_⟩
  rcases h.2 with ⟨h1, _⟩ | ⟨g', cap, cur, h1, h2, h3, h4, h5, h6, h7⟩
  · cases h1
  · injection h1 with e1 _ e3
    injection e1 with e1
    injection e1 with e1
    subst e1 e3
    refine Or.inr ⟨g, c, cur.setIfInBounds j u, rfl, h2, heap_setCell_same w g j cur e u h3, h4, h5, by simpa using h6, ?_⟩
    rw [Array.toList_setIfInBounds, ← h7]
    rw [List.take_set]
theorem egs_one (l : List Eg) : ∀ v ∈ egs l, v.oneCell' = true := by
  intro v hv
  simp only [egs, List.mem_flatMap] at hv
  obtain ⟨x, _, hx⟩ := hv
  simp only [egCells, List.mem_cons, List.not_mem_nil, or_false] at hx
  rcases hx with rfl | rfl | rfl | rfl | rfl | rfl | rfl <;> rfl
theorem egs_set (l : List Eg) (i : Nat) (x : Eg) (h : i < l.length) (hp : x.p = l[i].p) (hb : x.b = l[i].b) : egs (l.set i x) = ((egs l).set (i * 7) (.int .i64 x.f)).set (i * 7 + 1) (.int .i64 x.t) := by
  induction l generalizing i with
  | nil => simp at h
  | cons y l ih =>
    match i, h, hp, hb with
    | 0, _, hp, hb =>
      simp only [List.getElem_cons_zero] at hp hb
      simp [egs, egCells, hp, hb]
    | i + 1, h, hp, hb =>
      have := ih i (by simpa using h) (by simpa using hp) (by simpa using hb)
      show egCells y ++ egs (l.set i x) = _
      rw [this]
      show _ = List.set (List.set (egCells y ++ egs l) ((i + 1) * 7) _) ((i + 1) * 7 + 1) _
      rw [show (i + 1) * 7 = i * 7 + 7 by omega]
      simp [egCells]
/-- The first k edges are moved. -/
def mx (o : Nat) (L : List En) (k : Nat) : List En := (L.take k).map (En.by o) ++ L.drop k
theorem mx_len (o : Nat) (L : List En) (k : Nat) : (mx o L k).length = L.length := by simp [mx]; omega
theorem mx_at (o : Nat) (L : List En) (k : Nat) (h : k < L.length) : (mx o L k)[k]'(by rw [mx_len]; exact h) = L[k] := by
  unfold mx
  rw [List.getElem_append_right (by simp; omega)]
  simp [Nat.min_eq_left (Nat.le_of_lt h)]
theorem mx_set (o : Nat) (L : List En) (k : Nat) (h : k < L.length) : (mx o L k).set k (L[k].by o) = mx o L (k + 1) := by
  have hl : ((L.take k).map (En.by o)).length = k := by simp; omega
  have h1 : (mx o L k).set k (L[k].by o) = (L.take k).map (En.by o) ++ (L.drop k).set 0 (L[k].by o) := by
    unfold mx
    rw [List.set_append_right _ _ (by omega), hl, Nat.sub_self]
  rw [h1, List.drop_eq_getElem_cons h, List.set_cons_zero]
  unfold mx
  rw [List.take_succ_eq_append_getElem h, List.map_append, List.append_assoc]
  rfl
end Go.Proofs.Ytlnndkilaklifaa
