import Derived.Test.YthidhkaeebakjaaNRef
namespace Go.Proofs.Ythidhkaeebakjaa
set_option linter.unusedVariables false

/-- A machine: its states, its first, its last, its edges. -/
structure NF where
  N : Nat
  F : Nat
  T : Nat
  L : List En
def NF.ok (m : NF) : Prop := Ok m.L m.N m.F m.T
/-- An edge moved. -/
def En.by (o : Nat) (e : En) : En := ⟨e.f + o, e.t + o, e.p, e.b⟩
/-- A free edge. -/
def fre (f t : Nat) : En := ⟨f, t, fun _ => false, true⟩
/-- Where the k-th machine begins. -/
def uo (M : Nat → NF) : Nat → Nat
  | 0 => 1
  | k + 1 => uo M k + (M k).N
/-- All edges of the first k. -/
def uE (M : Nat → NF) : Nat → List En
  | 0 => []
  | k + 1 => uE M k ++ (fre 0 (uo M k + (M k).F) :: (M k).L.map (En.by (uo M k)))
theorem uo_pos (M : Nat → NF) (k : Nat) : 1 ≤ uo M k := by
  induction k with
  | zero => exact Nat.le_refl _
  | succ k ih => show 1 ≤ uo M k + _; omega
theorem uo_le (M : Nat → NF) {i k : Nat} (h : i ≤ k) : uo M i ≤ uo M k := by
  induction k with
  | zero => rw [show i = 0 by omega]; exact Nat.le_refl _
  | succ k ih =>
    by_cases e : i = k + 1
    · rw [e]; exact Nat.le_refl _
    · have := ih (by omega)
      show uo M i ≤ uo M k + _
      omega
theorem uE_lt (M : Nat → NF) (n : Nat) (h : ∀ k, k < n → (M k).ok) : ∀ e ∈ uE M n, e.f < uo M n ∧ 1 ≤ e.t ∧ e.t < uo M n := by
  induction n with
  | zero => intro e he; simp [uE] at he
  | succ n ih =>
    intro e he
    have hp := uo_pos M n
    have hk := h n (by omega)
    simp only [uE, List.mem_append, List.mem_cons, List.mem_map] at he
    rcases he with he | rfl | ⟨e', he', rfl⟩
    · obtain ⟨h1, h2, h3⟩ := ih (fun k hk => h k (by omega)) e he
      show _ < uo M n + _ ∧ _ ∧ _ < uo M n + _
      omega
    · have := hk.f
      show 0 < uo M n + _ ∧ 1 ≤ uo M n + _ ∧ uo M n + _ < uo M n + _
      omega
    · obtain ⟨h1, h2⟩ := hk.e e' he'
      show e'.f + uo M n < uo M n + _ ∧ 1 ≤ e'.t + uo M n ∧ e'.t + uo M n < uo M n + _
      omega
theorem uE_len (M : Nat → NF) (n B : Nat) (h : ∀ k, k < n → (M k).L.length ≤ B) : (uE M n).length ≤ n * (B + 1) := by
  induction n with
  | zero => simp [uE]
  | succ n ih =>
    have h1 := ih (fun k hk => h k (by omega))
    have h2 := h n (by omega)
    simp only [uE, List.length_append, List.length_cons, List.length_map]
    rw [Nat.succ_mul]
    omega
theorem uo_bnd (M : Nat → NF) (n B : Nat) (h : ∀ k, k < n → (M k).N ≤ B) : uo M n ≤ 1 + n * B := by
  induction n with
  | zero => simp [uo]
  | succ n ih =>
    have h1 := ih (fun k hk => h k (by omega))
    have h2 := h n (by omega)
    show uo M n + _ ≤ _
    rw [Nat.succ_mul]
    omega
/-- A machine lies in a list of edges at p. -/
structure Seg (E : List En) (p : Nat) (m : NF) : Prop where
  pos : 1 ≤ p
  zero : ∀ e ∈ E, 1 ≤ e.t
  frm : ∀ e ∈ E, p ≤ e.t → e.t < p + m.N → e = fre 0 (p + m.F) ∨ ∃ e' ∈ m.L, e = e'.by p
  free : fre 0 (p + m.F) ∈ E
  all : ∀ e' ∈ m.L, e'.by p ∈ E
theorem uE_seg (M : Nat → NF) (n : Nat) (h : ∀ k, k < n → (M k).ok) (i : Nat) (hi : i < n) : Seg (uE M n) (uo M i) (M i) := by
  induction n with
  | zero => omega
  | succ n ih =>
    have hz : ∀ e ∈ uE M (n + 1), 1 ≤ e.t := fun e he => (uE_lt M (n + 1) h e he).2.1
    by_cases e : i = n
    · subst e
      refine ⟨uo_pos M i, hz, fun e he h1 h2 => ?_, by simp [uE], fun e' he' => by simp only [uE, List.mem_append, List.mem_cons, List.mem_map]; exact Or.inr (Or.inr ⟨e', he', rfl⟩)⟩
      simp only [uE, List.mem_append, List.mem_cons, List.mem_map] at he
      rcases he with he | rfl | ⟨e', he', rfl⟩
      · have := (uE_lt M i (fun k hk => h k (by omega)) e he).2.2
        omega
      · exact Or.inl rfl
      · exact Or.inr ⟨e', he', rfl⟩
    · have S := ih (fun k hk => h k (by omega)) (by omega)
      have hle : uo M i + (M i).N ≤ uo M n := uo_le M (show i + 1 ≤ n by omega)
      refine ⟨S.pos, hz, fun e he h1 h2 => ?_, by simp only [uE, List.mem_append]; exact Or.inl S.free, fun e' he' => by simp only [uE, List.mem_append]; exact Or.inl (S.all e' he')⟩
      simp only [uE, List.mem_append, List.mem_cons, List.mem_map] at he
      rcases he with he | rfl | ⟨e', he', rfl⟩
      · exact S.frm e he h1 h2
      · have : uo M n + (M n).F < uo M i + (M i).N := h2
        omega
      · have : e'.t + uo M n < uo M i + (M i).N := h2
        omega
theorem Seg.fr0 {E : List En} {p : Nat} {m : NF} (h : Seg E p m) {A : Nat → Prop} (k : FR E A 0) : A 0 := by
  have : ∀ y, FR E A y → y = 0 → A 0 := by
    intro y k
    induction k with
    | base ha => intro e; subst e; exact ha
    | step e _ h1 h2 h3 h4 ih =>
      intro e0
      have := h.zero e h1
      omega
  exact this 0 k rfl
theorem Seg.fr {E : List En} {p : Nat} {m : NF} (h : Seg E p m) (hm : m.ok) {A : Nat → Prop} {q : Nat} (hq : q < m.N) : FR E A (p + q) ↔ FR m.L (fun q => q < m.N ∧ (A (p + q) ∨ (A 0 ∧ q = m.F))) q := by
  constructor
  · have : ∀ y, FR E A y → ∀ q, q < m.N → y = p + q → FR m.L (fun q => q < m.N ∧ (A (p + q) ∨ (A 0 ∧ q = m.F))) q := by
      intro y k
      induction k with
      | base ha => intro q hq e; subst e; exact .base ⟨hq, Or.inl ha⟩
      | step e k0 h1 h2 h3 h4 ih =>
        intro q hq e0
        rcases h.frm e h1 (by omega) (by omega) with rfl | ⟨e', he', rfl⟩
        · have e1 : 0 = _ := h3
          have e2 : p + m.F = _ := h4
          subst e1
          exact .base ⟨hq, Or.inr ⟨h.fr0 k0, by omega⟩⟩
        · have e1 : e'.f + p = _ := h3
          have e2 : e'.t + p = _ := h4
          exact .step e' (ih e'.f (hm.e e' he').1 (by omega)) he' h2 rfl (by omega)
    exact fun k => this _ k q hq rfl
  · intro k
    clear hq
    induction k with
    | base ha =>
      rcases ha.2 with h1 | ⟨h1, rfl⟩
      · exact .base h1
      · exact .step (fre 0 (p + m.F)) (.base h1) h.free rfl rfl rfl
    | step e _ h1 h2 h3 h4 ih =>
      subst h3 h4
      exact .step (e.by p) ih (h.all e h1) h2 (Nat.add_comm _ _) (Nat.add_comm _ _)
theorem Seg.mv {E : List En} {p : Nat} {m : NF} (h : Seg E p m) (hm : m.ok) {A B : Nat → Prop} (hAB : ∀ q, q < m.N → (A (p + q) ↔ B q)) {c q : Nat} (hq : q < m.N) : Mv E A c (p + q) ↔ Mv m.L B c q := by
  constructor
  · rintro ⟨e, h1, h2, h3, h4, h5⟩
    rcases h.frm e h1 (by omega) (by omega) with rfl | ⟨e', he', rfl⟩
    · cases h2
    · have e2 : e'.t + p = _ := h5
      refine ⟨e', he', h2, h3, (hAB _ (hm.e e' he').1).1 ?_, by omega⟩
      rw [Nat.add_comm]; exact h4
  · rintro ⟨e, h1, h2, h3, h4, h5⟩
    subst h5
    refine ⟨e.by p, h.all e h1, h2, h3, ?_, Nat.add_comm _ _⟩
    have := (hAB _ (hm.e e h1).1).2 h4
    rwa [Nat.add_comm] at this
/-- What is reached of a machine in a union is what is reached of it alone. -/
theorem Seg.run {E : List En} {p : Nat} {m : NF} (h : Seg E p m) (hm : m.ok) (z : Nat → Nat) (k : Nat) : ∀ q, q < m.N → (RunP E 0 z k (p + q) ↔ RunP m.L m.F z k q) := by
  induction k with
  | zero =>
    intro q hq
    have hp := h.pos
    have hf := hm.f
    rw [RunP, h.fr hm hq]
    exact FR.congr (fun x => ⟨fun ⟨h1, h2⟩ => by omega, fun h1 => ⟨by omega, Or.inr ⟨rfl, h1⟩⟩⟩) q
  | succ k ih =>
    intro q hq
    rw [RunP, h.fr hm hq]
    refine FR.congr (fun x => ?_) q
    constructor
    · rintro ⟨h1, h2 | ⟨⟨e, h3, h4, h5, h6, h7⟩, _⟩⟩
      · exact (h.mv hm ih h1).1 h2
      · have := h.zero e h3
        omega
    · intro h1
      have hx := Mv.lt (fun e he => (hm.e e he).2) h1
      exact ⟨hx, Or.inl ((h.mv hm ih hx).2 h1)⟩
end Go.Proofs.Ythidhkaeebakjaa
