import Derived.Test.YtkdhdlokilgccaaZDInv
namespace Go.Proofs.Ytkdhdlokilgccaa
open Go.RowKit
set_option linter.unusedVariables false

/-! ### Tails: lists of expressions, one behind the other -/
def starP : Pc := ⟨4, emp⟩
def pre : Rx → List Rx → List Rx
  | .leaf x, ρ => if x.k = 0 then ρ else .leaf x :: ρ
  | .un x a, ρ => .un x a :: ρ
  | .bin x a b, ρ => if x.k = 2 then pre a (pre b ρ) else .bin x a b :: ρ
def TLan : List Rx → List Nat → Prop
  | [] => fun s => s = []
  | u :: ρ => Cat (Lan u) (TLan ρ)
theorem Cat.assoc (L M N : List Nat → Prop) (s : List Nat) : Cat (Cat L M) N s ↔ Cat L (Cat M N) s := by
  constructor
  · rintro ⟨_, v, rfl, ⟨a, b, rfl, ha, hb⟩, hv⟩
    exact ⟨a, b ++ v, by simp, ha, b, v, rfl, hb, hv⟩
  · rintro ⟨a, _, rfl, ha, b, v, rfl, hb, hv⟩
    exact ⟨a ++ b, v, by simp, ⟨a, b, rfl, ha, hb⟩, hv⟩
theorem Cat.congr {L L' M M' : List Nat → Prop} (h : ∀ s, L s ↔ L' s) (k : ∀ s, M s ↔ M' s) (s : List Nat) : Cat L M s ↔ Cat L' M' s := by
  constructor
  · rintro ⟨a, b, e, ha, hb⟩; exact ⟨a, b, e, (h a).1 ha, (k b).1 hb⟩
  · rintro ⟨a, b, e, ha, hb⟩; exact ⟨a, b, e, (h a).2 ha, (k b).2 hb⟩
theorem pre_lan (t : Rx) (hw : t.wf) : ∀ (ρ : List Rx) (s : List Nat), TLan (pre t ρ) s ↔ Cat (Lan t) (TLan ρ) s := by
  induction t with
  | leaf x =>
    intro ρ s
    unfold pre
    split
    · rename_i h
      constructor
      · exact fun hs => ⟨[], s, rfl, by rw [lan_leaf, if_neg (by omega)], hs⟩
      · rintro ⟨a, b, rfl, ha, hb⟩
        rw [lan_leaf, if_neg (by omega)] at ha
        rw [ha]; exact hb
    · exact Iff.rfl
  | un x a _ => intro ρ s; exact Iff.rfl
  | bin x a b iha ihb =>
    intro ρ s
    unfold pre
    split
    · rename_i h
      rw [iha hw.2.2.1, Cat.congr (fun _ => Iff.rfl) (ihb hw.2.2.2 ρ), ← Cat.assoc]
      exact Cat.congr (fun q => by rw [lan_bin, if_pos h]) (fun _ => Iff.rfl) s
    · exact Iff.rfl
/-- The tails that are left of an expression, ahead of a tail, behind a byte. -/
def Rd : Rx → Nat → List Rx → List Rx → Prop
  | .leaf x, b, ρ, σ => x.k = 1 ∧ x.p b = true ∧ σ = ρ
  | .un x a, b, ρ, σ => if x.k = 6 then Rd a b ρ σ else Rd a b (.un starP a :: ρ) σ
  | .bin x a c, b, ρ, σ => if x.k = 2 then Rd a b (pre c ρ) σ ∨ (Lan a [] ∧ Rd c b ρ σ) else Rd a b ρ σ ∨ Rd c b ρ σ
def Bh : List Rx → Nat → List Rx → Prop
  | [], _, _ => False
  | u :: ρ, b, σ => Rd u b ρ σ ∨ (Lan u [] ∧ Bh ρ b σ)
theorem star_of (a : Rx) (s : List Nat) : Lan (.un starP a) s ↔ Star (Lan a) s := by rw [lan_un, if_pos (show starP.k = 4 from rfl)]
theorem star_cons {L : List Nat → Prop} {b : Nat} {s : List Nat} (h : Star L (b :: s)) : ∃ u v, s = u ++ v ∧ L (b :: u) ∧ Star L v := by
  generalize e : b :: s = w at h
  induction h generalizing s with
  | nil => cases e
  | @app u v h1 h2 ih =>
    cases u with
    | nil => exact ih (by simpa using e)
    | cons c u =>
      simp at e
      exact ⟨u, v, e.2, by rw [e.1]; exact h1, h2⟩
theorem rd_lan (t : Rx) (hw : t.wf) (b : Nat) (hb : b < 256) : ∀ (ρ : List Rx) (s : List Nat), (∃ σ, Rd t b ρ σ ∧ TLan σ s) ↔ ∃ u v, s = u ++ v ∧ Lan t (b :: u) ∧ TLan ρ v := by
  induction t with
  | leaf x =>
    intro ρ s
    constructor
    · rintro ⟨σ, ⟨h1, h2, rfl⟩, hs⟩
      exact ⟨[], s, rfl, by rw [lan_leaf, if_pos h1]; exact ⟨b, rfl, hb, h2⟩, hs⟩
    · rintro ⟨u, v, rfl, hu, hv⟩
      rw [lan_leaf] at hu
      split at hu
      · rename_i h1
        obtain ⟨c, e, hc, hp⟩ := hu
        simp at e
        obtain ⟨rfl, rfl⟩ := e
        exact ⟨ρ, ⟨h1, hp, rfl⟩, hv⟩
      · cases hu
  | un x a ih =>
    intro ρ s
    have hk : x.k = 4 ∨ x.k = 5 ∨ x.k = 6 := by have := takesZ_cases x.k; have := hw.1; omega
    unfold Rd
    by_cases h6 : x.k = 6
    · simp only [if_pos h6]
      rw [ih hw.2.2]
      constructor
      · rintro ⟨u, v, e, hu, hv⟩
        exact ⟨u, v, e, by rw [lan_un, if_neg (by omega), if_neg (by omega)]; exact Or.inr hu, hv⟩
      · rintro ⟨u, v, e, hu, hv⟩
        rw [lan_un, if_neg (by omega), if_neg (by omega)] at hu
        rcases hu with hu | hu
        · cases hu
        · exact ⟨u, v, e, hu, hv⟩
    · simp only [if_neg h6]
      rw [ih hw.2.2]
      have key : ∀ u, Lan (.un x a) (b :: u) ↔ ∃ p q, u = p ++ q ∧ Lan a (b :: p) ∧ Star (Lan a) q := by
        intro u
        rw [lan_un]
        by_cases h4 : x.k = 4
        · rw [if_pos h4]
          constructor
          · exact star_cons
          · rintro ⟨p, q, rfl, hp, hq⟩
            exact Star.app (u := b :: p) hp hq
        · rw [if_neg h4, if_pos (by omega)]
          constructor
          · rintro ⟨p, q, e, hp, hq⟩
            cases p with
            | nil =>
              simp at e
              rw [← e] at hq
              exact star_cons hq
            | cons c p =>
              simp at e
              exact ⟨p, q, e.2, by rw [e.1]; exact hp, hq⟩
          · rintro ⟨p, q, rfl, hp, hq⟩
            exact ⟨b :: p, q, rfl, hp, hq⟩
      constructor
      · rintro ⟨u, v, rfl, hu, q, r, rfl, hq, hr⟩
        exact ⟨u ++ q, r, by simp, (key _).2 ⟨u, q, rfl, hu, (star_of a q).1 hq⟩, hr⟩
      · rintro ⟨u, v, rfl, hu, hv⟩
        obtain ⟨p, q, rfl, hp, hq⟩ := (key _).1 hu
        exact ⟨p, q ++ v, by simp, hp, q, v, rfl, (star_of a q).2 hq, hv⟩
  | bin x a c iha ihc =>
    intro ρ s
    have hk : x.k = 2 ∨ x.k = 3 := by have := takesZ_cases x.k; have := hw.1; omega
    unfold Rd
    by_cases h2 : x.k = 2
    · simp only [if_pos h2]
      constructor
      · rintro ⟨σ, h | ⟨h0, h⟩, hs⟩
        · obtain ⟨u, v, rfl, hu, hv⟩ := (iha hw.2.2.1 _ s).1 ⟨σ, h, hs⟩
          obtain ⟨p, q, rfl, hp, hq⟩ := (pre_lan c hw.2.2.2 ρ v).1 hv
          exact ⟨u ++ p, q, by simp, by rw [lan_bin, if_pos h2]; exact ⟨b :: u, p, rfl, hu, hp⟩, hq⟩
        · obtain ⟨u, v, rfl, hu, hv⟩ := (ihc hw.2.2.2 _ s).1 ⟨σ, h, hs⟩
          exact ⟨u, v, rfl, by rw [lan_bin, if_pos h2]; exact ⟨[], b :: u, rfl, h0, hu⟩, hv⟩
      · rintro ⟨u, v, rfl, hu, hv⟩
        rw [lan_bin, if_pos h2] at hu
        obtain ⟨p, q, e, hp, hq⟩ := hu
        cases p with
        | nil =>
          simp at e
          rw [← e] at hq
          obtain ⟨σ, h, hs⟩ := (ihc hw.2.2.2 ρ (u ++ v)).2 ⟨u, v, rfl, hq, hv⟩
          exact ⟨σ, Or.inr ⟨hp, h⟩, hs⟩
        | cons d p =>
          simp at e
          obtain ⟨rfl, rfl⟩ := e
          obtain ⟨σ, h, hs⟩ := (iha hw.2.2.1 (pre c ρ) (p ++ (q ++ v))).2 ⟨p, q ++ v, rfl, hp, (pre_lan c hw.2.2.2 ρ _).2 ⟨q, v, rfl, hq, hv⟩⟩
          exact ⟨σ, Or.inl h, by simpa using hs⟩
    · simp only [if_neg h2]
      constructor
      · rintro ⟨σ, h | h, hs⟩
        · obtain ⟨u, v, e, hu, hv⟩ := (iha hw.2.2.1 _ s).1 ⟨σ, h, hs⟩
          exact ⟨u, v, e, by rw [lan_bin, if_neg h2]; exact Or.inl hu, hv⟩
        · obtain ⟨u, v, e, hu, hv⟩ := (ihc hw.2.2.2 _ s).1 ⟨σ, h, hs⟩
          exact ⟨u, v, e, by rw [lan_bin, if_neg h2]; exact Or.inr hu, hv⟩
      · rintro ⟨u, v, e, hu, hv⟩
        rw [lan_bin, if_neg h2] at hu
        rcases hu with hu | hu
        · obtain ⟨σ, h, hs⟩ := (iha hw.2.2.1 ρ s).2 ⟨u, v, e, hu, hv⟩
          exact ⟨σ, Or.inl h, hs⟩
        · obtain ⟨σ, h, hs⟩ := (ihc hw.2.2.2 ρ s).2 ⟨u, v, e, hu, hv⟩
          exact ⟨σ, Or.inr h, hs⟩
def TWf : List Rx → Prop
  | [] => True
  | u :: ρ => u.wf ∧ TWf ρ
theorem bh_lan (τ : List Rx) (hw : TWf τ) (b : Nat) (hb : b < 256) (s : List Nat) : (∃ σ, Bh τ b σ ∧ TLan σ s) ↔ TLan τ (b :: s) := by
  induction τ with
  | nil =>
    constructor
    · rintro ⟨σ, h, _⟩; cases h
    · intro h; cases h
  | cons u ρ ih =>
    constructor
    · rintro ⟨σ, h | ⟨h0, h⟩, hs⟩
      · obtain ⟨p, q, rfl, hp, hq⟩ := (rd_lan u hw.1 b hb ρ s).1 ⟨σ, h, hs⟩
        exact ⟨b :: p, q, rfl, hp, hq⟩
      · exact ⟨[], b :: s, rfl, h0, (ih hw.2).1 ⟨σ, h, hs⟩⟩
    · rintro ⟨p, q, e, hp, hq⟩
      cases p with
      | nil =>
        simp at e
        rw [← e] at hq
        obtain ⟨σ, h, hs⟩ := (ih hw.2).2 hq
        exact ⟨σ, Or.inr ⟨hp, h⟩, hs⟩
      | cons d p =>
        simp at e
        obtain ⟨rfl, rfl⟩ := e
        obtain ⟨σ, h, hs⟩ := (rd_lan u hw.1 b hb ρ (p ++ q)).2 ⟨p, q, rfl, hp, hq⟩
        exact ⟨σ, Or.inl h, hs⟩
theorem rd_first (t : Rx) (hw : t.wf) (b : Nat) (hb : b < 256) : ∀ (ρ σ : List Rx), Rd t b ρ σ → ∃ s, Lan t (b :: s) := by
  induction t with
  | leaf x => rintro ρ σ ⟨h1, h2, _⟩; exact ⟨[], by rw [lan_leaf, if_pos h1]; exact ⟨b, rfl, hb, h2⟩⟩
  | un x a ih =>
    intro ρ σ h
    have hk : x.k = 4 ∨ x.k = 5 ∨ x.k = 6 := by have := takesZ_cases x.k; have := hw.1; omega
    unfold Rd at h
    split at h
    · obtain ⟨s, hs⟩ := ih hw.2.2 _ _ h
      exact ⟨s, by rw [lan_un, if_neg (by omega), if_neg (by omega)]; exact Or.inr hs⟩
    · obtain ⟨s, hs⟩ := ih hw.2.2 _ _ h
      refine ⟨s, ?_⟩
      rw [lan_un]
      by_cases h4 : x.k = 4
      · rw [if_pos h4]; exact Star.one hs
      · rw [if_neg h4, if_pos (by omega)]; exact ⟨b :: s, [], by simp, hs, Star.nil⟩
  | bin x a c iha ihc =>
    intro ρ σ h
    obtain ⟨c0, hc0⟩ := lan_some c hw.2.2.2
    unfold Rd at h
    split at h
    · rename_i h2
      rcases h with h | ⟨h0, h⟩
      · obtain ⟨s, hs⟩ := iha hw.2.2.1 _ _ h
        exact ⟨s ++ c0, by rw [lan_bin, if_pos h2]; exact ⟨b :: s, c0, rfl, hs, hc0⟩⟩
      · obtain ⟨s, hs⟩ := ihc hw.2.2.2 _ _ h
        exact ⟨s, by rw [lan_bin, if_pos h2]; exact ⟨[], b :: s, rfl, h0, hs⟩⟩
    · rename_i h2
      rcases h with h | h
      · obtain ⟨s, hs⟩ := iha hw.2.2.1 _ _ h
        exact ⟨s, by rw [lan_bin, if_neg h2]; exact Or.inl hs⟩
      · obtain ⟨s, hs⟩ := ihc hw.2.2.2 _ _ h
        exact ⟨s, by rw [lan_bin, if_neg h2]; exact Or.inr hs⟩

/-! ### All tails that may come up -/
def Kt : Rx → List Rx → List (List Rx)
  | .leaf _, ρ => [ρ]
  | .un x a, ρ => if x.k = 6 then Kt a ρ else (.un starP a :: ρ) :: Kt a (.un starP a :: ρ)
  | .bin x a c, ρ => if x.k = 2 then pre c ρ :: (Kt a (pre c ρ) ++ Kt c ρ) else Kt a ρ ++ Kt c ρ
def Dt : List Rx → List (List Rx)
  | [] => []
  | u :: ρ => Kt u ρ ++ Dt ρ
theorem rd_K (t : Rx) (b : Nat) : ∀ (ρ σ : List Rx), Rd t b ρ σ → σ ∈ Kt t ρ := by
  induction t with
  | leaf x => rintro ρ σ ⟨_, _, rfl⟩; simp [Kt]
  | un x a ih =>
    intro ρ σ h
    unfold Rd at h
    unfold Kt
    split at h
    · rename_i h6; rw [if_pos h6]; exact ih _ _ h
    · rename_i h6; rw [if_neg h6]; exact List.mem_cons_of_mem _ (ih _ _ h)
  | bin x a c iha ihc =>
    intro ρ σ h
    unfold Rd at h
    unfold Kt
    split at h
    · rename_i h2
      rw [if_pos h2]
      rcases h with h | ⟨_, h⟩
      · exact List.mem_cons_of_mem _ (List.mem_append_left _ (iha _ _ h))
      · exact List.mem_cons_of_mem _ (List.mem_append_right _ (ihc _ _ h))
    · rename_i h2
      rw [if_neg h2]
      rcases h with h | h
      · exact List.mem_append_left _ (iha _ _ h)
      · exact List.mem_append_right _ (ihc _ _ h)
theorem bh_D (τ : List Rx) (b : Nat) (σ : List Rx) (h : Bh τ b σ) : σ ∈ Dt τ := by
  induction τ with
  | nil => cases h
  | cons u ρ ih =>
    rcases h with h | ⟨_, h⟩
    · exact List.mem_append_left _ (rd_K u b ρ σ h)
    · exact List.mem_append_right _ (ih h)
theorem D_pre (t : Rx) : ∀ (ρ σ : List Rx), σ ∈ Dt (pre t ρ) → σ ∈ Kt t ρ ∨ σ ∈ Dt ρ := by
  induction t with
  | leaf x =>
    intro ρ σ h
    unfold pre at h
    split at h
    · exact Or.inr h
    · exact List.mem_append.1 h
  | un x a _ => intro ρ σ h; exact List.mem_append.1 h
  | bin x a c iha ihc =>
    intro ρ σ h
    unfold pre at h
    split at h
    · rename_i h2
      unfold Kt
      rw [if_pos h2]
      rcases iha _ _ h with h | h
      · exact Or.inl (List.mem_cons_of_mem _ (List.mem_append_left _ h))
      · rcases ihc _ _ h with h | h
        · exact Or.inl (List.mem_cons_of_mem _ (List.mem_append_right _ h))
        · exact Or.inr h
    · exact List.mem_append.1 h
theorem star_K (a : Rx) (ρ σ : List Rx) (h : σ ∈ Kt (.un starP a) ρ) : σ ∈ (Rx.un starP a :: ρ) :: Kt a (.un starP a :: ρ) := by
  unfold Kt at h
  rwa [if_neg (show ¬ (starP.k = 6) by decide)] at h
theorem D_K (t : Rx) : ∀ (ρ τ σ : List Rx), τ ∈ Kt t ρ → σ ∈ Dt τ → σ ∈ Kt t ρ ∨ σ ∈ Dt ρ := by
  induction t with
  | leaf x => intro ρ τ σ h k; simp [Kt] at h; subst h; exact Or.inr k
  | un x a ih =>
    intro ρ τ σ h k
    unfold Kt at h ⊢
    split at h
    · rename_i h6
      rw [if_pos h6]
      exact ih _ _ _ h k
    · rename_i h6
      rw [if_neg h6]
      have hstar : σ ∈ Dt (.un starP a :: ρ) → σ ∈ (Rx.un starP a :: ρ) :: Kt a (.un starP a :: ρ) ∨ σ ∈ Dt ρ := fun h => by
        rcases List.mem_append.1 h with h | h
        · exact Or.inl (star_K a ρ σ h)
        · exact Or.inr h
      rcases List.mem_cons.1 h with rfl | h
      · exact hstar k
      · rcases ih _ _ _ h k with h | h
        · exact Or.inl (List.mem_cons_of_mem _ h)
        · exact hstar h
  | bin x a c iha ihc =>
    intro ρ τ σ h k
    unfold Kt at h ⊢
    split at h
    · rename_i h2
      rw [if_pos h2]
      have hc : σ ∈ Kt c ρ ∨ σ ∈ Dt ρ → σ ∈ pre c ρ :: (Kt a (pre c ρ) ++ Kt c ρ) ∨ σ ∈ Dt ρ := fun h => by
        rcases h with h | h
        · exact Or.inl (List.mem_cons_of_mem _ (List.mem_append_right _ h))
        · exact Or.inr h
      rcases List.mem_cons.1 h with rfl | h
      · exact hc (D_pre c ρ σ k)
      · rcases List.mem_append.1 h with h | h
        · rcases iha _ _ _ h k with h | h
          · exact Or.inl (List.mem_cons_of_mem _ (List.mem_append_left _ h))
          · exact hc (D_pre c ρ σ h)
        · exact hc (ihc _ _ _ h k)
    · rename_i h2
      rw [if_neg h2]
      rcases List.mem_append.1 h with h | h
      · rcases iha _ _ _ h k with h | h
        · exact Or.inl (List.mem_append_left _ h)
        · exact Or.inr h
      · rcases ihc _ _ _ h k with h | h
        · exact Or.inl (List.mem_append_right _ h)
        · exact Or.inr h
def sfx : List Rx → List (List Rx)
  | [] => [[]]
  | u :: ρ => (u :: ρ) :: sfx ρ
theorem sfx_self (τ : List Rx) : τ ∈ sfx τ := by cases τ <;> simp [sfx]
theorem sfx_tail (τ : List Rx) (u : Rx) (σ : List Rx) (h : u :: σ ∈ sfx τ) : σ ∈ sfx τ := by
  induction τ with
  | nil => simp [sfx] at h
  | cons v ρ ih =>
    rcases List.mem_cons.1 h with h | h
    · injection h with _ h
      subst h
      exact List.mem_cons_of_mem _ (sfx_self _)
    · exact List.mem_cons_of_mem _ (ih h)
theorem sfx_D (τ τ' : List Rx) (h : τ' ∈ sfx τ) (σ : List Rx) (k : σ ∈ Dt τ') : σ ∈ Dt τ := by
  induction τ with
  | nil => simp [sfx] at h; subst h; exact k
  | cons v ρ ih =>
    rcases List.mem_cons.1 h with h | h
    · subst h; exact k
    · exact List.mem_append_right _ (ih h)
theorem sfx_length (τ : List Rx) : (sfx τ).length = τ.length + 1 := by
  induction τ with
  | nil => rfl
  | cons v ρ ih => simp [sfx, ih]
def allTails (t : Rx) : List (List Rx) := (pre t [] :: Kt t []).flatMap sfx
/-- A set of tails that reading does not leave. -/
structure Closed (S : List (List Rx)) : Prop where
  tail : ∀ u σ, u :: σ ∈ S → σ ∈ S
  read : ∀ τ, τ ∈ S → ∀ σ, σ ∈ Dt τ → σ ∈ S
  len : S.length ≤ 400000
theorem pre_length (t : Rx) : ∀ ρ, (pre t ρ).length ≤ ρ.length + t.flat.length := by
  induction t with
  | leaf x => intro ρ; unfold pre; split <;> simp [Rx.flat]
  | un x a _ => intro ρ; simp [pre, Rx.flat]
  | bin x a c iha ihc =>
    intro ρ
    unfold pre
    split
    · have := iha (pre c ρ); have := ihc ρ; simp [Rx.flat]; omega
    · simp [Rx.flat]; omega
theorem K_each (t : Rx) : ∀ (ρ σ : List Rx), σ ∈ Kt t ρ → σ.length ≤ ρ.length + t.flat.length := by
  induction t with
  | leaf x => intro ρ σ h; simp [Kt] at h; subst h; simp
  | un x a ih =>
    intro ρ σ h
    unfold Kt at h
    split at h
    · have := ih _ _ h; simp [Rx.flat]; omega
    · rcases List.mem_cons.1 h with rfl | h
      · simp [Rx.flat]
      · have := ih _ _ h; simp [Rx.flat] at this ⊢; omega
  | bin x a c iha ihc =>
    intro ρ σ h
    unfold Kt at h
    split at h
    · have hp := pre_length c ρ
      rcases List.mem_cons.1 h with rfl | h
      · simp [Rx.flat]; omega
      · rcases List.mem_append.1 h with h | h
        · have := iha _ _ h; simp [Rx.flat]; omega
        · have := ihc _ _ h; simp [Rx.flat]; omega
    · rcases List.mem_append.1 h with h | h
      · have := iha _ _ h; simp [Rx.flat]; omega
      · have := ihc _ _ h; simp [Rx.flat]; omega
theorem K_length (t : Rx) : ∀ ρ, (Kt t ρ).length + 1 ≤ 2 * t.flat.length := by
  induction t with
  | leaf x => intro ρ; simp [Kt, Rx.flat]
  | un x a ih =>
    intro ρ
    unfold Kt
    split
    · have := ih ρ; simp [Rx.flat]; omega
    · have := ih (.un starP a :: ρ); simp [Rx.flat]; omega
  | bin x a c iha ihc =>
    intro ρ
    unfold Kt
    split
    · have := iha (pre c ρ); have := ihc ρ; simp [Rx.flat]; omega
    · have := iha ρ; have := ihc ρ; simp [Rx.flat]; omega
theorem flatMap_sfx (L : List (List Rx)) (m : Nat) (h : ∀ σ ∈ L, σ.length ≤ m) : (L.flatMap sfx).length ≤ L.length * (m + 1) := by
  induction L with
  | nil => simp
  | cons σ L ih =>
    have h1 := h σ (by simp)
    have h2 := ih (fun τ ht => h τ (by simp [ht]))
    rw [List.flatMap_cons, List.length_append, sfx_length, List.length_cons, Nat.succ_mul]
    omega
theorem allTails_closed (t : Rx) (ht : t.flat.length ≤ 400) : Closed (allTails t) := by
  refine ⟨fun u σ h => ?_, fun τ h σ k => ?_, ?_⟩
  · obtain ⟨τ, h1, h2⟩ := List.mem_flatMap.1 h
    exact List.mem_flatMap.2 ⟨τ, h1, sfx_tail τ u σ h2⟩
  · obtain ⟨τ', h1, h2⟩ := List.mem_flatMap.1 h
    have k' := sfx_D τ' τ h2 σ k
    refine List.mem_flatMap.2 ⟨σ, List.mem_cons_of_mem _ ?_, sfx_self σ⟩
    rcases List.mem_cons.1 h1 with rfl | h1
    · rcases D_pre t [] σ k' with h | h
      · exact h
      · cases h
    · rcases D_K t [] τ' σ h1 k' with h | h
      · exact h
      · cases h
  · have h1 := flatMap_sfx (pre t [] :: Kt t []) 400 (fun σ h => by
      rcases List.mem_cons.1 h with rfl | h
      · have := pre_length t []; simp at this; omega
      · have := K_each t [] σ h; simp at this; omega)
    have h2 := K_length t []
    have h3 : (pre t [] :: Kt t []).length ≤ 800 := by simp; omega
    unfold allTails
    have := Nat.mul_le_mul_right 401 h3
    omega
theorem allTails_start (t : Rx) : pre t [] ∈ allTails t := List.mem_flatMap.2 ⟨_, by simp, sfx_self _⟩
theorem sfx_nil (τ : List Rx) : [] ∈ sfx τ := by
  induction τ with
  | nil => simp [sfx]
  | cons u ρ ih => exact List.mem_cons_of_mem _ ih
theorem allTails_nil (t : Rx) : [] ∈ allTails t := List.mem_flatMap.2 ⟨pre t [], by simp, sfx_nil _⟩
/-- What is ahead of a closed set's tail is in it. -/
theorem pre_tail {S : List (List Rx)} (hS : Closed S) (t : Rx) : ∀ ρ, pre t ρ ∈ S → ρ ∈ S := by
  induction t with
  | leaf x => intro ρ h; unfold pre at h; split at h; exact h; exact hS.tail _ _ h
  | un x a _ => intro ρ h; exact hS.tail _ _ h
  | bin x a c iha ihc =>
    intro ρ h
    unfold pre at h
    split at h
    · exact ihc _ (iha _ h)
    · exact hS.tail _ _ h
end Go.Proofs.Ytkdhdlokilgccaa
