import Derived.Test.YtgmcfgkjhobiaaaZClasses
import Derived.Test.YtgmcfgkjhobiaaaZNNew
import Derived.Deep.RegionWith
import Derived.Deep.AppendLies
import Derived.Laws.CopyOwn
namespace Go.Proofs.Ytgmcfgkjhobiaaa
set_option linter.unusedVariables false

/-- A machine: its states, its first, its last, its edges. -/
structure NF where
  N : Nat
  F : Nat
  T : Nat
  L : List En
def NF.ok (m : NF) : Prop := Ok m.L m.N m.F m.T
/-- An edge moved. -/
def En.by (o : Nat) (e : En) : En := ⟨e.f + o, e.t + o, e.p, e.b⟩
/-- A free edge. -/
def fre (f t : Nat) : En := ⟨f, t, fun _ => false, true⟩
/-- Where the k-th machine begins. -/
def uo (M : Nat → NF) : Nat → Nat
  | 0 => 1
  | k + 1 => uo M k + (M k).N
/-- All edges of the first k. -/
def uE (M : Nat → NF) : Nat → List En
  | 0 => []
  | k + 1 => uE M k ++ (fre 0 (uo M k + (M k).F) :: (M k).L.map (En.by (uo M k)))
theorem uo_pos (M : Nat → NF) (k : Nat) : 1 ≤ uo M k := by
  induction k with
  | zero => exact Nat.le_refl _
  | succ k ih => show 1 ≤ uo M k + _; omega
theorem uo_le (M : Nat → NF) {i k : Nat} (h : i ≤ k) : uo M i ≤ uo M k := by
  induction k with
  | zero => rw [show i = 0 by omega]; exact Nat.le_refl _
  | succ k ih =>
    by_cases e : i = k + 1
    · rw [e]; exact Nat.le_refl _
    · have := ih (by omega)
      show uo M i ≤ uo M k + _
      omega
theorem uE_lt (M : Nat → NF) (n : Nat) (h : ∀ k, k < n → (M k).ok) : ∀ e ∈ uE M n, e.f < uo M n ∧ 1 ≤ e.t ∧ e.t < uo M n := by
  induction n with
  | zero => intro e he; simp [uE] at he
  | succ n ih =>
    intro e he
    have hp := uo_pos M n
    have hk := h n (by omega)
    simp only [uE, List.mem_append, List.mem_cons, List.mem_map] at he
    rcases he with he | rfl | ⟨e', he', rfl⟩
    · obtain ⟨h1, h2, h3⟩ := ih (fun k hk => h k (by omega)) e he
      show _ < uo M n + _ ∧ _ ∧ _ < uo M n + _
      omega
    · have := hk.f
      show 0 < uo M n + _ ∧ 1 ≤ uo M n + _ ∧ uo M n + _ < uo M n + _
      omega
    · obtain ⟨h1, h2⟩ := hk.e e' he'
      show e'.f + uo M n < uo M n + _ ∧ 1 ≤ e'.t + uo M n ∧ e'.t + uo M n < uo M n + _
      omega
theorem uE_len (M : Nat → NF) (n B : Nat) (h : ∀ k, k < n → (M k).L.length ≤ B) : (uE M n).length ≤ n * (B + 1) := by
  induction n with
  | zero => simp [uE]
  | succ n ih =>
    have h1 := ih (fun k hk => h k (by omega))
    have h2 := h n (by omega)
    simp only [uE, List.length_append, List.length_cons, List.length_map]
    rw [Nat.succ_mul]
    omega
theorem uo_bnd (M : Nat → NF) (n B : Nat) (h : ∀ k, k < n → (M k).N ≤ B) : uo M n ≤ 1 + n * B := by
  induction n with
  | zero => simp [uo]
  | succ n ih =>
    have h1 := ih (fun k hk => h k (by omega))
    have h2 := h n (by omega)
    show uo M n + _ ≤ _
    rw [Nat.succ_mul]
    omega
/-- A machine lies in a list of edges at p. -/
structure Seg (E : List En) (p : Nat) (m : NF) : Prop where
  pos : 1 ≤ p
  zero : ∀ e ∈ E, 1 ≤ e.t
  frm : ∀ e ∈ E, p ≤ e.t → e.t < p + m.N → e = fre 0 (p + m.F) ∨ ∃ e' ∈ m.L, e = e'.by p
  free : fre 0 (p + m.F) ∈ E
  all : ∀ e' ∈ m.L, e'.by p ∈ E
theorem uE_seg (M : Nat → NF) (n : Nat) (h : ∀ k, k < n → (M k).ok) (i : Nat) (hi : i < n) : Seg (uE M n) (uo M i) (M i) := by
  induction n with
  | zero => omega
  | succ n ih =>
    have hz : ∀ e ∈ uE M (n + 1), 1 ≤ e.t := fun e he => (uE_lt M (n + 1) h e he).2.1
    by_cases e : i = n
    · subst e
      refine ⟨uo_pos M i, hz, fun e he h1 h2 => ?_, by simp [uE], fun e' he' => by simp only [uE, List.mem_append, List.mem_cons, List.mem_map]; exact Or.inr (Or.inr ⟨e', he', rfl⟩)⟩
      simp only [uE, List.mem_append, List.mem_cons, List.mem_map] at he
      rcases he with he | rfl | ⟨e', he', rfl⟩
      · have := (uE_lt M i (fun k hk => h k (by omega)) e he).2.2
        omega
      · exact Or.inl rfl
      · exact Or.inr ⟨e', he', rfl⟩
    · have S := ih (fun k hk => h k (by omega)) (by omega)
      have hle : uo M i + (M i).N ≤ uo M n := uo_le M (show i + 1 ≤ n by omega)
      refine ⟨S.pos, hz, fun e he h1 h2 => ?_, by simp only [uE, List.mem_append]; exact Or.inl S.free, fun e' he' => by simp only [uE, List.mem_append]; exact Or.inl (S.all e' he')⟩
      simp only [uE, List.mem_append, List.mem_cons, List.mem_map] at he
      rcases he with he | rfl | ⟨e', he', rfl⟩
      · exact S.frm e he h1 h2
      · have : uo M n + (M n).F < uo M i + (M i).N := h2
        omega
      · have : e'.t + uo M n < uo M i + (M i).N := h2
        omega
theorem Seg.fr0 {E : List En} {p : Nat} {m : NF} (h : Seg E p m) {A : Nat → Prop} (k : FR E A 0) : A 0 := by
  have : ∀ y, FR E A y → y = 0 → A 0 := by
    intro y k
    induction k with
    | base ha => intro e; subst e; exact ha
    | step e _ h1 h2 h3 h4 ih =>
      intro e0
      have := h.zero e h1
      omega
  exact this 0 k rfl
theorem Seg.fr {E : List En} {p : Nat} {m : NF} (h : Seg E p m) (hm : m.ok) {A : Nat → Prop} {q : Nat} (hq : q < m.N) : FR E A (p + q) ↔ FR m.L (fun q => q < m.N ∧ (A (p + q) ∨ (A 0 ∧ q = m.F))) q := by
  constructor
  · have : ∀ y, FR E A y → ∀ q, q < m.N → y = p + q → FR m.L (fun q => q < m.N ∧ (A (p + q) ∨ (A 0 ∧ q = m.F))) q := by
      intro y k
      induction k with
      | base ha => intro q hq e; subst e; exact .base ⟨hq, Or.inl ha⟩
      | step e k0 h1 h2 h3 h4 ih =>
        intro q hq e0
        rcases h.frm e h1 (by omega) (by omega) with rfl | ⟨e', he', rfl⟩
        · have e1 : 0 = _ := h3
          have e2 : p + m.F = _ := h4
          subst e1
          exact .base ⟨hq, Or.inr ⟨h.fr0 k0, by omega⟩⟩
        · have e1 : e'.f + p = _ := h3
          have e2 : e'.t + p = _ := h4
          exact .step e' (ih e'.f (hm.e e' he').1 (by omega)) he' h2 rfl (by omega)
    exact fun k => this _ k q hq rfl
  · intro k
    clear hq
    induction k with
    | base ha =>
      rcases ha.2 with h1 | ⟨h1, rfl⟩
      · exact .base h1
      · exact .step (fre 0 (p + m.F)) (.base h1) h.free rfl rfl rfl
    | step e _ h1 h2 h3 h4 ih =>
      subst h3 h4
      exact .step (e.by p) ih (h.all e h1) h2 (Nat.add_comm _ _) (Nat.add_comm _ _)
theorem Seg.mv {E : List En} {p : Nat} {m : NF} (h : Seg E p m) (hm : m.ok) {A B : Nat → Prop} (hAB : ∀ q, q < m.N → (A (p + q) ↔ B q)) {c q : Nat} (hq : q < m.N) : Mv E A c (p + q) ↔ Mv m.L B c q := by
  constructor
  · rintro ⟨e, h1, h2, h3, h4, h5⟩
    rcases h.frm e h1 (by omega) (by omega) with rfl | ⟨e', he', rfl⟩
    · cases h2
    · have e2 : e'.t + p = _ := h5
      refine ⟨e', he', h2, h3, (hAB _ (hm.e e' he').1).1 ?_, by omega⟩
      rw [Nat.add_comm]; exact h4
  · rintro ⟨e, h1, h2, h3, h4, h5⟩
    subst h5
    refine ⟨e.by p, h.all e h1, h2, h3, ?_, Nat.add_comm _ _⟩
    have := (hAB _ (hm.e e h1).1).2 h4
    rwa [Nat.add_comm] at this
/-- What is reached of a machine in a union is what is reached of it alone. -/
theorem Seg.run {E : List En} {p : Nat} {m : NF} (h : Seg E p m) (hm : m.ok) (z : Nat → Nat) (k : Nat) : ∀ q, q < m.N → (RunP E 0 z k (p + q) ↔ RunP m.L m.F z k q) := by
  induction k with
  | zero =>
    intro q hq
    have hp := h.pos
    have hf := hm.f
    rw [RunP, h.fr hm hq]
    exact FR.congr (fun x => ⟨fun ⟨h1, h2⟩ => by omega, fun h1 => ⟨by omega, Or.inr ⟨rfl, h1⟩⟩⟩) q
  | succ k ih =>
    intro q hq
    rw [RunP, h.fr hm hq]
    refine FR.congr (fun x => ?_) q
    constructor
    · rintro ⟨h1, h2 | ⟨⟨e, h3, h4, h5, h6, h7⟩, _⟩⟩
      · exact (h.mv hm ih h1).1 h2
      · have := h.zero e h3
        omega
    · intro h1
      have hx := Mv.lt (fun e he => (hm.e e he).2) h1
      exact ⟨hx, Or.inl ((h.mv hm ih hx).2 h1)⟩
end Go.Proofs.Ytgmcfgkjhobiaaa

namespace Go.Proofs.Ytgmcfgkjhobiaaa
open Go.RowKit Go.Maps Go.WideElems Go.ChangeMaps Go.MapKept
set_option linter.unusedVariables false

theorem NumAt.start (w : World) (B : Nat) (hB : B ≤ w.heap.size) : NumAt (((w.alloc (.cells #[.slice none 0 0] 24)).alloc (.map #[] 0)).alloc (.cells #[.map (some (w.heap.size + 1))] 77)) B (w.heap.size + 2) w.heap.size (w.heap.size + 1) (.slice none 0 0) [] := by
  refine ⟨?_, ?_, World.ownsRow_nil _ _ _ _, ?_, List.nodup_nil, by simp, by omega, by omega⟩
  · have := St.new ((w.alloc (.cells #[.slice none 0 0] 24)).alloc (.map #[] 0)) 77 #[.map (some (w.heap.size + 1))]
    simpa using this
  · exact ((St.new w _ _).alloc _).alloc _
  · have h1 : MapEx ((w.alloc (.cells #[.slice none 0 0] 24)).alloc (.map #[] 0)) 3 (w.heap.size + 1) 0 (NmQ []) := by
      have := MapEx.made (w.alloc (.cells #[.slice none 0 0] 24)) 3 (NmQ []) (fun x y ⟨k, s, h, _⟩ => by simp at h)
      simpa using this
    exact h1.same (Below.heap_alloc _ _ _ h1.lt)

theorem num_far {w wr : World} {B bMv bN bM : Nat} {vN : Value} {nm : List Nat} (h : NumAt wr B bMv bN bM vN nm) {t b : Nat} {cs : Array Value} (hs : St wr t b cs) (ht : t ≠ 24) : b ∉ [bM, bN] := by
  intro hm
  simp only [List.mem_cons, List.not_mem_nil, or_false] at hm
  rcases hm with rfl | rfl
  · obtain ⟨es, clock, he, _⟩ := h.map
    have h2 : wr.heap[_]? = _ := hs
    rw [h2] at he
    cases he
  · exact absurd rfl (hs.ne h.sN ht)
theorem St.num {w wr w1 : World} {B bMv bN bM : Nat} {vN : Value} {nm : List Nat} {t b : Nat} {cs : Array Value} (hs : St wr t b cs) (h : NumAt wr B bMv bN bM vN nm) (hk : Kept [3] [bM, bN] wr w1) (ht : t ≠ 24) (ht2 : t ≠ 3) : St w1 t b cs :=
  hs.kept hk (by simpa using ht2) (num_far h (w := w) hs ht)

theorem NumAt.set {wr : World} {B bMv bN bM : Nat} {vN : Value} {nm : List Nat} (h : NumAt wr B bMv bN bM vN nm) {t b : Nat} {cs : Array Value} (hs : St wr t b cs) (h1 : t ≠ 24) (h2 : t ≠ 3) (h3 : t ≠ 77) (i : Nat) (u : Value) : NumAt (wr.setCell ⟨b, i, none⟩ u) B bMv bN bM vN nm :=
  ⟨h.sM.set_far hs (Ne.symm h3) i u, h.sN.set_far hs (Ne.symm h1) i u, own_set h.own hs (Ne.symm h2) i u, h.map.set hs, h.nd, h.le, h.bM, h.bN⟩
theorem row7e {w : World} {g t : Nat} {c0 c1 c2 c3 c4 c5 c6 : Value} (h : St w t g #[c0, c1, c2, c3, c4, c5, c6]) : w.cell? ⟨g, 0, none⟩ = some c0 ∧ w.cell? ⟨g, 1, none⟩ = some c1 ∧ w.cell? ⟨g, 2, none⟩ = some c2 ∧ w.cell? ⟨g, 3, none⟩ = some c3 ∧ w.cell? ⟨g, 4, none⟩ = some c4 ∧ w.cell? ⟨g, 5, none⟩ = some c5 ∧ w.cell? ⟨g, 6, none⟩ = some c6 :=
  ⟨h.at_ 0, h.at_ 1, h.at_ 2, h.at_ 3, h.at_ 4, h.at_ 5, h.at_ 6⟩
theorem own_set4n {w : World} {B t t' g size n : Nat} {v : Value} {xs : List Value} {c0 c1 c2 c3 : Value} (h : w.ownsRow B t size v n xs) (hs : St w t' g #[c0, c1, c2, c3]) (ht : t ≠ t') (d0 d1 d2 d3 : Value) :
    ((((w.setCell ⟨g, 0, none⟩ d0).setCell ⟨g, 1, none⟩ d1).setCell ⟨g, 2, none⟩ d2).setCell ⟨g, 3, none⟩ d3).ownsRow B t size v n xs :=
  own_set (own_set (own_set (own_set h hs ht 0 d0) (hs.set 0 d0) ht 1 d1) ((hs.set 0 d0).set 1 d1) ht 2 d2) (((hs.set 0 d0).set 1 d1).set 2 d2) ht 3 d3
/-- A state that is named. -/
def Src (L : List En) (F T x : Nat) : Prop := x = F ∨ x = T ∨ ∃ e ∈ L, e.f = x ∨ e.t = x
theorem ext_at {nm nm' : List Nat} {s k x : Nat} (h : nm' = nm ∨ nm' = nm ++ [s]) (hk : nm[k]? = some x) : nm'[k]? = some x := by
  rcases h with rfl | rfl
  · exact hk
  · rw [List.getElem?_append_left (List.getElem?_eq_some_iff.1 hk).1]; exact hk
theorem ext_src {L : List En} {F T s : Nat} {nm nm' : List Nat} (h : nm' = nm ∨ nm' = nm ++ [s]) (hs : Src L F T s) (hn : ∀ x ∈ nm, Src L F T x) : ∀ x ∈ nm', Src L F T x := by
  rcases h with rfl | rfl
  · exact hn
  · intro x hx
    rcases List.mem_append.1 hx with hx | hx
    · exact hn x hx
    · rw [List.mem_singleton.1 hx]; exact hs
theorem ext_len {nm nm' : List Nat} {s : Nat} (h : nm' = nm ∨ nm' = nm ++ [s]) : nm.length ≤ nm'.length ∧ nm'.length ≤ nm.length + 1 := by
  rcases h with rfl | rfl <;> simp
theorem ext_ren {nm nm' : List Nat} {s : Nat} (h : nm' = nm ∨ nm' = nm ++ [s]) {L' : List En} (hb : ∀ e ∈ L', e.f < nm.length ∧ e.t < nm.length) : L'.map (En.ren nm') = L'.map (En.ren nm) := by
  refine List.map_congr_left fun e he => ?_
  obtain ⟨h1, h2⟩ := hb e he
  have g : ∀ i, i < nm.length → nm'.getD i 0 = nm.getD i 0 := fun i hi => by
    rw [List.getD_eq_getElem?_getD, List.getD_eq_getElem?_getD, List.getElem?_eq_getElem hi, ext_at h (List.getElem?_eq_getElem hi)]
  simp only [En.ren, g _ h1, g _ h2]

end Go.Proofs.Ytgmcfgkjhobiaaa

namespace Go.Proofs.Ytgmcfgkjhobiaaa
open Go.RowKit
set_option linter.unusedVariables false
set_option linter.unusedSimpArgs false

/-- copy of elements of several cells that fills a row. -/
theorem run_copy_full (P : Program) (w : World) (dT sT ty elem : TypeId) (size : Nat) (g n dCap sCap : Nat) (sp : Option Addr) (cur : Array Value) (t : TypeId) (cs : List Value)
    (hu : P.underlying dT = some (.slice elem)) (hs : (P.info? elem).map (·.size) = some size)
    (hg : w.heap[g]? = some (.cells cur t (0, 0))) (hn : cs.length = n * size) (hcur : cur.size = cs.length)
    (hsrc : 0 < n → ∃ ad, sp = some ad ∧ ∀ j v, cs[j]? = some v → w.cell? (ad.add j) = some v) (h1 : ∀ v ∈ cs, v.oneCell' = true) :
    (Builtin.copy_ #[dT, sT] ty #[.slice (some ⟨g, 0, none⟩) n dCap, .slice sp n sCap]).run P w = .ok (goInt n) (w.setRow g cs.toArray) := by
  have hst := run_storeCells_at P g 0 t cs 0 cur w hg (by omega) h1
  have hst2 : (cur.toList.take (0 + 0) ++ cs ++ cur.toList.drop (0 + 0 + cs.length)).toArray = cs.toArray := by
    rw [List.drop_eq_nil_of_le (by simp [hcur])]
    simp
  rw [hst2] at hst
  cases hq : P.info? elem with
  | none => simp [hq] at hs
  | some i =>
    have hi : i.size = size := by simpa [hq] using hs
    have hmin : Nat.min n n = n := Nat.min_self n
    match sp, hsrc with
    | some a, hsrc =>
      have hl : (loadCells a (n * size)).run P w = .ok cs.toArray w := by
        by_cases h0 : 0 < n
        · obtain ⟨ad, e, hsrc⟩ := hsrc h0
          injection e with e
          subst e
          rw [← hn]
          exact run_loadCells_list (P := P) w a cs hsrc
        · obtain rfl : n = 0 := by omega
          have : cs = [] := List.eq_nil_of_length_eq_zero (by omega)
          subst this
          have := run_loadCells_list (P := P) w a [] (by simp)
          simpa using this
      simp [Builtin.copy_, run_underlying hu, Builtin.lenOf, Builtin.firstCells, sizeOf, typeInfo, hq, hi, hmin, hl, hst]
    | none, hsrc =>
      obtain rfl : n = 0 := by
        by_cases h0 : 0 < n
        · obtain ⟨ad, e, _⟩ := hsrc h0
          cases e
        · omega
      have : cs = [] := List.eq_nil_of_length_eq_zero (by omega)
      subst this
      simp [Builtin.copy_, run_underlying hu, Builtin.lenOf, Builtin.firstCells, sizeOf, typeInfo, hq, hi, hst]
theorem wpList_copy_full {P : Program} {w : World} {ops : Array Oper} {rest : List Oper} {o : Oper} {a : Act} {Q : Exit → Act → World → Prop} (hgd : o.guard = none) (d s : Operand) (dT sT : TypeId)
    (ho : o.op = .call { callee := .builtin .copy, args := #[d, s], argTypes := #[dT, sT] }) (elem : TypeId) (size : Nat) (hu : P.underlying dT = some (.slice elem)) (hsz : (P.info? elem).map (·.size) = some size)
    (g n dCap sCap : Nat) (sp : Option Addr) (hd : a.eval d = .slice (some ⟨g, 0, none⟩) n dCap) (hs : a.eval s = .slice sp n sCap)
    (cur : Array Value) (t : TypeId) (hg : w.heap[g]? = some (.cells cur t (0, 0))) (cs : List Value) (hn : cs.length = n * size) (hcur : cur.size = cs.length)
    (hsrc : 0 < n → ∃ ad, sp = some ad ∧ ∀ j v, cs[j]? = some v → w.cell? (ad.add j) = some v) (h1 : ∀ v ∈ cs, v.oneCell' = true)
    (h : wpList P ops Q rest (a.put o.dst (goInt n)) (w.setRow g cs.toArray)) : wpList P ops Q (o :: rest) a w := by
  refine wpList_plain hgd fun K hK => ?_
  have hrun := run_copy_full P w dT sT o.type elem size g n dCap sCap sp cur t cs hu hsz hg hn hcur hsrc h1
  unfold Oper.wp
  simp [execOp, ho, resolve, invoke, builtin, hd, hs, hrun, Result.andThen]
  exact hK _ _ h

/-- A row that fills its block. -/
theorem own_full {w : World} {base e g n size : Nat} {xs : List Value} (h : w.ownsRow base e size (.slice (some ⟨g, 0, none⟩) n n) n xs) : w.heap[g]? = some (.cells xs.toArray e (0, 0)) ∧ base ≤ g ∧ n ≤ maxLen ∧ xs.length = n * size := by
  rcases h.2 with ⟨h1, _⟩ | ⟨g', cap, cur, h1, h2, h3, h4, h5, h6, h7⟩
  · cases h1
  · injection h1 with e1 _ e3
    injection e1 with e1
    injection e1 with e1
    subst e1 e3
    have e : cur = xs.toArray := by
      apply Array.toList_inj.1
      rw [← h7, List.take_of_length_le (by simp [h6])]
    subst e
    exact ⟨h3, h2, h5, by simpa using h6⟩
/-- .. with other cells. -/
theorem own_refill {w : World} {base e g n size : Nat} {xs ys : List Value} (h : w.ownsRow base e size (.slice (some ⟨g, 0, none⟩) n n) n xs) (hy : ys.length = n * size) : (w.setRow g ys.toArray).ownsRow base e size (.slice (some ⟨g, 0, none⟩) n n) n ys := by
  obtain ⟨h1, h2, h3, h4⟩ := own_full h
  exact ⟨hy, Or.inr ⟨g, n, ys.toArray, rfl, h2, setRow_heap w g _ _ e _ h1, Nat.le_refl _, h3, by simpa using hy, by rw [List.take_of_length_le (by simp [hy])]⟩⟩
/-- A cell of a row turns. -/
theorem own_putn {w : World} {base e g n c size : Nat} {xs : List Value} (h : w.ownsRow base e size (.slice (some ⟨g, 0, none⟩) n c) n xs) (j : Nat) (hj : j < n * size) (u : Value) : (w.setCell ⟨g, j, none⟩ u).ownsRow base e size (.slice (some ⟨g, 0, none⟩) n c) n (xs.set j u) := by
  refine ⟨by rw [List.length_set]; exact h.1, ?_⟩
  rcases h.2 with ⟨h1, _⟩ | ⟨g', cap, cur, h1, h2, h3, h4, h5, h6, h7⟩
  · cases h1
  · injection h1 with e1 _ e3
    injection e1 with e1
    injection e1 with e1
    subst e1 e3
    refine Or.inr ⟨g, c, cur.setIfInBounds j u, rfl, h2, heap_setCell_same w g j cur e u h3, h4, h5, by simpa using h6, ?_⟩
    rw [Array.toList_setIfInBounds, ← h7]
    rw [List.take_set]
theorem egs_one (l : List Eg) : ∀ v ∈ egs l, v.oneCell' = true := by
  intro v hv
  simp only [egs, List.mem_flatMap] at hv
  obtain ⟨x, _, hx⟩ := hv
  simp only [egCells, List.mem_cons, List.not_mem_nil, or_false] at hx
  rcases hx with rfl | rfl | rfl | rfl | rfl | rfl | rfl <;> rfl
theorem egs_set (l : List Eg) (i : Nat) (x : Eg) (h : i < l.length) (hp : x.p = l[i].p) (hb : x.b = l[i].b) : egs (l.set i x) = ((egs l).set (i * 7) (.int .i64 x.f)).set (i * 7 + 1) (.int .i64 x.t) := by
  induction l generalizing i with
  | nil => simp at h
  | cons y l ih =>
    match i, h, hp, hb with
    | 0, _, hp, hb =>
      simp only [List.getElem_cons_zero] at hp hb
      simp [egs, egCells, hp, hb]
    | i + 1, h, hp, hb =>
      have := ih i (by simpa using h) (by simpa using hp) (by simpa using hb)
      show egCells y ++ egs (l.set i x) = _
      rw [this]
      show _ = List.set (List.set (egCells y ++ egs l) ((i + 1) * 7) _) ((i + 1) * 7 + 1) _
      rw [show (i + 1) * 7 = i * 7 + 7 by omega]
      simp [egCells]
/-- The first k edges are moved. -/
def mx (o : Nat) (L : List En) (k : Nat) : List En := (L.take k).map (En.by o) ++ L.drop k
theorem mx_len (o : Nat) (L : List En) (k : Nat) : (mx o L k).length = L.length := by simp [mx]; omega
theorem mx_at (o : Nat) (L : List En) (k : Nat) (h : k < L.length) : (mx o L k)[k]'(by rw [mx_len]; exact h) = L[k] := by
  unfold mx
  rw [List.getElem_append_right (by simp; omega)]
  simp [Nat.min_eq_left (Nat.le_of_lt h)]
theorem mx_set (o : Nat) (L : List En) (k : Nat) (h : k < L.length) : (mx o L k).set k (L[k].by o) = mx o L (k + 1) := by
  have hl : ((L.take k).map (En.by o)).length = k := by simp; omega
  have h1 : (mx o L k).set k (L[k].by o) = (L.take k).map (En.by o) ++ (L.drop k).set 0 (L[k].by o) := by
    unfold mx
    rw [List.set_append_right _ _ (by omega), hl, Nat.sub_self]
  rw [h1, List.drop_eq_getElem_cons h, List.set_cons_zero]
  unfold mx
  rw [List.take_succ_eq_append_getElem h, List.map_append, List.append_assoc]
  rfl
end Go.Proofs.Ytgmcfgkjhobiaaa

namespace Go.Proofs.Ytgmcfgkjhobiaaa
open Go.RowKit Go.Maps Go.WideElems Go.ChangeMaps Go.MapKept
set_option linter.unusedVariables false
set_option linter.unusedSimpArgs false

/-- clear of a row that fills its block. -/
theorem run_clear_full (P : Program) (w : World) (T ty elem : TypeId) (z : Value) (g m c : Nat) (cur : Array Value) (t : TypeId) (hu : P.underlying T = some (.slice elem)) (hz : ∀ w, (zeroValue elem).run P w = .ok z w) (hz1 : z.cells = #[z]) (ho : z.oneCell' = true)
    (hg : w.heap[g]? = some (.cells cur t (0, 0))) (hm : cur.size = m) :
    (Builtin.clear_ #[T] ty #[.slice (some ⟨g, 0, none⟩) m c]).run P w = .ok (.tuple #[]) (w.setRow g (List.replicate m z).toArray) := by
  have hst := run_storeCells_at P g 0 t (List.replicate m z) 0 cur w hg (by simp [hm]) (fun v hv => by rw [List.eq_of_mem_replicate hv]; exact ho)
  have hst2 : (cur.toList.take (0 + 0) ++ List.replicate m z ++ cur.toList.drop (0 + 0 + (List.replicate m z).length)).toArray = (List.replicate m z).toArray := by
    rw [List.drop_eq_nil_of_le (by simp [hm])]
    simp
  rw [hst2] at hst
  have hzc : (Builtin.zeroCells z.cells m).toList = List.replicate m z := by
    rw [hz1]
    refine List.ext_getElem (by simp [Builtin.zeroCells]) fun i h1 h2 => ?_
    simp [Builtin.zeroCells, Nat.mod_one]
  match m, hst, hm, hzc with
  | 0, hst, hm, _ =>
    have : cur = #[] := Array.eq_empty_of_size_eq_zero hm
    subst this
    have h1 := setRow_self w g #[] t (0, 0) hg
    simp [Builtin.clear_, run_underlying hu, h1]
  | m + 1, hst, _, hzc =>
    simp [Builtin.clear_, run_underlying hu, hz, hzc, hst]
theorem wpList_clear_full {P : Program} {w : World} {ops : Array Oper} {rest : List Oper} {o : Oper} {a : Act} {Q : Exit → Act → World → Prop} (hgd : o.guard = none) (d : Operand) (T : TypeId)
    (ho : o.op = .call { callee := .builtin .clear, args := #[d], argTypes := #[T] }) (elem : TypeId) (z : Value) (hu : P.underlying T = some (.slice elem)) (hz : ∀ w, (zeroValue elem).run P w = .ok z w) (hz1 : z.cells = #[z]) (hz2 : z.oneCell' = true)
    (g m c : Nat) (hd : a.eval d = .slice (some ⟨g, 0, none⟩) m c) (cur : Array Value) (t : TypeId) (hg : w.heap[g]? = some (.cells cur t (0, 0))) (hm : cur.size = m)
    (h : wpList P ops Q rest (a.put o.dst (.tuple #[])) (w.setRow g (List.replicate m z).toArray)) : wpList P ops Q (o :: rest) a w := by
  refine wpList_plain hgd fun K hK => ?_
  have hrun := run_clear_full P w T o.type elem z g m c cur t hu hz hz1 hz2 hg hm
  unfold Oper.wp
  simp [execOp, ho, resolve, invoke, builtin, hd, hrun, Result.andThen]
  exact hK _ _ h


end Go.Proofs.Ytgmcfgkjhobiaaa

namespace Go.Proofs.Ytgmcfgkjhobiaaa
open Go.RowKit Go.Maps Go.WideElems Go.ChangeMaps Go.MapKept
set_option linter.unusedVariables false
set_option linter.unusedSimpArgs false

/-- The least mark of some states; -1: they have none. -/
def Least (mk : Nat → Int) (S : Nat → Prop) (r : Int) : Prop :=
  (r = -1 ∧ ∀ x, S x → mk x = -1) ∨ (0 ≤ r ∧ (∃ x, S x ∧ mk x = r) ∧ ∀ x, S x → mk x = -1 ∨ r ≤ mk x)
theorem Least.congr {mk : Nat → Int} {S S' : Nat → Prop} {r : Int} (h : Least mk S r) (e : ∀ x, S x ↔ S' x) : Least mk S' r := by
  rcases h with ⟨h1, h2⟩ | ⟨h1, ⟨x, hx, h2⟩, h3⟩
  · exact Or.inl ⟨h1, fun x hx => h2 x ((e x).2 hx)⟩
  · exact Or.inr ⟨h1, ⟨x, (e x).1 hx, h2⟩, fun x hx => h3 x ((e x).2 hx)⟩
theorem Least.none (mk : Nat → Int) : Least mk (fun x => x ∈ ([] : List Nat)) (-1) := Or.inl ⟨rfl, fun x hx => by simp at hx⟩
theorem Least.uniq {mk : Nat → Int} {S : Nat → Prop} {r r' : Int} (h : Least mk S r) (h' : Least mk S r') : r = r' := by
  rcases h with ⟨h1, h2⟩ | ⟨h1, ⟨x, hx, h2⟩, h3⟩ <;> rcases h' with ⟨g1, g2⟩ | ⟨g1, ⟨y, hy, g2⟩, g3⟩
  · omega
  · have := h2 y hy; omega
  · have := g2 x hx; omega
  · have := h3 y hy; have := g3 x hx; omega
theorem Least.skip {mk : Nat → Int} {l : List Nat} {r : Int} {x : Nat} (h : Least mk (fun y => y ∈ l) r) (hx : mk x = -1 ∨ (r ≠ -1 ∧ r ≤ mk x)) : Least mk (fun y => y ∈ l ++ [x]) r := by
  rcases h with ⟨h1, h2⟩ | ⟨h1, ⟨y, hy, h2⟩, h3⟩
  · refine Or.inl ⟨h1, fun y hy => ?_⟩
    rcases List.mem_append.1 hy with hy | hy
    · exact h2 y hy
    · rw [List.mem_singleton.1 hy]; omega
  · refine Or.inr ⟨h1, ⟨y, List.mem_append.2 (Or.inl hy), h2⟩, fun z hz => ?_⟩
    rcases List.mem_append.1 hz with hz | hz
    · exact h3 z hz
    · rw [List.mem_singleton.1 hz]; omega
theorem Least.take {mk : Nat → Int} {l : List Nat} {r : Int} {x : Nat} (h : Least mk (fun y => y ∈ l) r) (h0 : 0 ≤ mk x) (hx : r = -1 ∨ mk x ≤ r) : Least mk (fun y => y ∈ l ++ [x]) (mk x) := by
  refine Or.inr ⟨h0, ⟨x, by simp, rfl⟩, fun z hz => ?_⟩
  rcases List.mem_append.1 hz with hz | hz
  · rcases h with ⟨h1, h2⟩ | ⟨h1, _, h3⟩
    · exact Or.inl (h2 z hz)
    · rcases h3 z hz with h | h
      · exact Or.inl h
      · exact Or.inr (by omega)
  · rw [List.mem_singleton.1 hz]; exact Or.inr (Int.le_refl _)
/-- A net's marks, by the states. -/
structure NetMk (w : World) (B bn gM M cM : Nat) (mk : Nat → Int) : Prop where
  blk : bn < B ∧ gM < B
  fld : w.cell? ⟨bn, 257, none⟩ = some (.slice (some ⟨gM, 0, none⟩) M cM)
  at_ : ∀ i, i < M → w.cell? ⟨gM, i, none⟩ = some (.int .i64 (mk i))
theorem NetMk.below {w w' : World} {B bn gM M cM : Nat} {mk : Nat → Int} (h : NetMk w B bn gM M cM mk) (k : Below B w w') : NetMk w' B bn gM M cM mk :=
  ⟨h.blk, (k.cell (p := ⟨bn, 257, none⟩) h.blk.1).trans h.fld, fun i hi => (k.cell (p := ⟨gM, i, none⟩) h.blk.2).trans (h.at_ i hi)⟩

end Go.Proofs.Ytgmcfgkjhobiaaa

namespace Go.Proofs.Ytgmcfgkjhobiaaa
open Go.RowKit
set_option linter.unusedVariables false

/-- In a round of Close's: has it found one? -/
def Found (L : List En) (A : Nat → Prop) (N k : Nat) (f : Nat → Bool) (i : Nat) (ch : Bool) : Prop :=
  (ch = false ∧ Gat L A N k f ∧ ∀ j (h : j < L.length), j < i → Still f L[j]) ∨ (ch = true ∧ Gat L A N (k + 1) f)
theorem Found.skip {L : List En} {A : Nat → Prop} {N k : Nat} {f : Nat → Bool} {i : Nat} {ch : Bool} (h : Found L A N k f i ch) (hi : i < L.length) (hs : Still f L[i]) : Found L A N k f (i + 1) ch := by
  rcases h with ⟨h1, h2, h3⟩ | h
  · refine Or.inl ⟨h1, h2, fun j hj hji => ?_⟩
    by_cases e : j = i
    · subst e; exact hs
    · exact h3 j hj (by omega)
  · exact Or.inr h
theorem Found.add {L : List En} {A : Nat → Prop} {N k : Nat} {f : Nat → Bool} {i : Nat} {ch : Bool} (h : Found L A N k f i ch) {e : En} (he : e ∈ L) (hb : e.b = true) (hf : f e.f = true) (ht : f e.t = false) (hN : e.t < N) : Found L A N k (ins f e.t) (i + 1) true := by
  rcases h with ⟨h1, h2, h3⟩ | ⟨_, h⟩
  · exact Or.inr ⟨rfl, h2.add he hb hf ht hN⟩
  · exact Or.inr ⟨rfl, (h.add he hb hf ht hN).mono (by omega)⟩

end Go.Proofs.Ytgmcfgkjhobiaaa
