import Derived.Test.YtkdhdlokilgccaaZDMath
namespace Go.Proofs.Ytkdhdlokilgccaa
open Go.RowKit
set_option linter.unusedVariables false

/-- Entry i of a book is the expression t. -/
inductive Den (E : List Ex) : Nat → Rx → Prop
  | leaf {i : Nat} {x : Ex} : E[i]? = some x → takesZ x.p.k = 0 → okSet x.p = true → Den E i (.leaf x.p)
  | un {i : Nat} {x : Ex} {s : Rx} : E[i]? = some x → takesZ x.p.k = 1 → okSet x.p = true → x.a < i → x.b ≤ i → Den E x.a s → Den E i (.un x.p s)
  | bin {i : Nat} {x : Ex} {s t : Rx} : E[i]? = some x → takesZ x.p.k = 2 → okSet x.p = true → x.a < i → x.b < i → Den E x.a s → Den E x.b t → Den E i (.bin x.p s t)
theorem Den.wf {E : List Ex} {i : Nat} {t : Rx} (h : Den E i t) : t.wf := by
  induction h with
  | leaf _ h1 h2 => exact ⟨h1, h2⟩
  | un _ h1 h2 _ _ _ ih => exact ⟨h1, h2, ih⟩
  | bin _ h1 h2 _ _ _ _ ih1 ih2 => exact ⟨h1, h2, ih1, ih2⟩
theorem Den.lt {E : List Ex} {i : Nat} {t : Rx} (h : Den E i t) : i < E.length := by
  cases h with
  | leaf h _ _ => exact (List.getElem?_eq_some_iff.1 h).1
  | un h _ _ _ _ _ => exact (List.getElem?_eq_some_iff.1 h).1
  | bin h _ _ _ _ _ _ => exact (List.getElem?_eq_some_iff.1 h).1
theorem grow_at {E : List Ex} {i : Nat} {x y : Ex} (h : E[i]? = some x) : (E ++ [y])[i]? = some x := by
  rw [List.getElem?_append_left (List.getElem?_eq_some_iff.1 h).1]; exact h
theorem Den.grow {E : List Ex} {i : Nat} {t : Rx} (h : Den E i t) (y : Ex) : Den (E ++ [y]) i t := by
  induction h with
  | leaf h0 h1 h2 => exact .leaf (grow_at h0) h1 h2
  | un h0 h1 h2 h3 h4 _ ih => exact .un (grow_at h0) h1 h2 h3 h4 ih
  | bin h0 h1 h2 h3 h4 _ _ ih1 ih2 => exact .bin (grow_at h0) h1 h2 h3 h4 ih1 ih2
theorem Den.one {E : List Ex} {i : Nat} {t u : Rx} (h : Den E i t) (k : Den E i u) : t = u := by
  induction h generalizing u with
  | leaf h0 h1 h2 =>
    cases k with
    | leaf k0 k1 k2 => rw [h0] at k0; rw [Option.some.inj k0]
    | un k0 k1 => rw [h0] at k0; rw [Option.some.inj k0] at h1; omega
    | bin k0 k1 => rw [h0] at k0; rw [Option.some.inj k0] at h1; omega
  | un h0 h1 h2 h3 h4 _ ih =>
    cases k with
    | leaf k0 k1 => rw [h0] at k0; rw [Option.some.inj k0] at h1; omega
    | un k0 k1 k2 k3 k4 k5 =>
      rw [h0] at k0
      have e := Option.some.inj k0
      subst e
      rw [ih k5]
    | bin k0 k1 => rw [h0] at k0; rw [Option.some.inj k0] at h1; omega
  | bin h0 h1 h2 h3 h4 _ _ ih1 ih2 =>
    cases k with
    | leaf k0 k1 => rw [h0] at k0; rw [Option.some.inj k0] at h1; omega
    | un k0 k1 => rw [h0] at k0; rw [Option.some.inj k0] at h1; omega
    | bin k0 k1 k2 k3 k4 k5 k6 =>
      rw [h0] at k0
      have e := Option.some.inj k0
      subst e
      rw [ih1 k5, ih2 k6]
/-- The expression of an entry whose operands are in the book. -/
def DenX (E : List Ex) (x : Ex) (t : Rx) : Prop :=
  (takesZ x.p.k = 0 ∧ okSet x.p = true ∧ t = .leaf x.p) ∨
  (takesZ x.p.k = 1 ∧ okSet x.p = true ∧ x.b < E.length ∧ ∃ s, Den E x.a s ∧ t = .un x.p s) ∨
  (takesZ x.p.k = 2 ∧ okSet x.p = true ∧ ∃ s u, Den E x.a s ∧ Den E x.b u ∧ t = .bin x.p s u)
/-- No byte beyond the last. -/
def Pc.can (x : Pc) : Prop := ∀ b, 256 ≤ b → x.p b = false
def Ex.fine (x : Ex) : Prop := x.p.can ∧ (takesZ x.p.k = 0 → x.a = 0 ∧ x.b = 0) ∧ (takesZ x.p.k = 1 → x.b = 0)
structure Inv (E : List Ex) (F : List Fa) : Prop where
  fine : ∀ x ∈ E, x.fine
  nd : E.Nodup
  len : E.length = F.length
  den : ∀ i, i < E.length → ∃ t f, Den E i t ∧ F[i]? = some f ∧ FOk f t ∧ t.flat.length ≤ 400
  small : E.length ≤ 100000
theorem Inv.nil : Inv [] [] := ⟨by simp, List.nodup_nil, rfl, fun i h => by simp at h, by simp⟩

/-- Cells tell a kind, the operands, and a set's bytes. -/
theorem ex_same {x y : Ex} (h : exCells x = exCells y) : x.p.k = y.p.k ∧ x.a = y.a ∧ x.b = y.b ∧ ∀ b, b < 256 → x.p.p b = y.p.p b := by
  simp only [exCells, List.cons.injEq, Value.int.injEq, true_and, and_true] at h
  obtain ⟨h0, h1, h2, h3, h4, h5, h6⟩ := h
  refine ⟨h0, by omega, by omega, (wd_iff x.p.p y.p.p).1 ⟨by omega, by omega, by omega, by omega⟩⟩
theorem ex_inj {x y : Ex} (hx : x.p.can) (hy : y.p.can) (h : exCells x = exCells y) : x = y := by
  obtain ⟨h0, h1, h2, h3⟩ := ex_same h
  obtain ⟨⟨k, p⟩, a, b⟩ := x
  obtain ⟨⟨k', p'⟩, a', b'⟩ := y
  simp only at h0 h1 h2 h3
  have hp : p = p' := by
    funext i
    by_cases hi : i < 256
    · exact h3 i hi
    · rw [show p i = false from hx i (by omega), show p' i = false from hy i (by omega)]
  subst h0 h1 h2 hp
  rfl
theorem fok_congr {f : Fa} {t u : Rx} (h : FOk f t) (e : ∀ w, Lan t w ↔ Lan u w) (hl : t.flat.length = u.flat.length) : FOk f u :=
  ⟨h.1.trans (e []), fun b hb => (h.2.1 b hb).trans ⟨fun ⟨s, hs⟩ => ⟨s, (e _).1 hs⟩, fun ⟨s, hs⟩ => ⟨s, (e _).2 hs⟩⟩, h.2.2.trans hl⟩
theorem DenX.at {E : List Ex} {F : List Fa} (hI : Inv E F) {i : Nat} {x : Ex} {t : Rx} (hi : E[i]? = some x) (hx : DenX E x t) : Den E i t := by
  obtain ⟨u, _, hu, _, _, _⟩ := hI.den i (List.getElem?_eq_some_iff.1 hi).1
  have hu' := hu
  cases hu with
  | leaf h0 h1 h2 =>
    rw [hi] at h0
    have e := Option.some.inj h0
    subst e
    rcases hx with ⟨_, _, rfl⟩ | ⟨k1, _⟩ | ⟨k1, _⟩
    · exact hu'
    · omega
    · omega
  | @un _ _ s h0 h1 h2 h3 h4 h5 =>
    rw [hi] at h0
    have e := Option.some.inj h0
    subst e
    rcases hx with ⟨k1, _⟩ | ⟨_, _, _, s', k2, rfl⟩ | ⟨k1, _⟩
    · omega
    · rw [← h5.one k2]; exact hu'
    · omega
  | @bin _ _ s t h0 h1 h2 h3 h4 h5 h6 =>
    rw [hi] at h0
    have e := Option.some.inj h0
    subst e
    rcases hx with ⟨k1, _⟩ | ⟨k1, _⟩ | ⟨_, _, s', t', k2, k3, rfl⟩
    · omega
    · omega
    · rw [← h5.one k2, ← h6.one k3]; exact hu'
theorem nd_at {α : Type} {l : List α} (h : l.Nodup) {i j : Nat} {x : α} (hi : l[i]? = some x) (hj : l[j]? = some x) : i = j := by
  obtain ⟨h1, h2⟩ := List.getElem?_eq_some_iff.1 hi
  obtain ⟨h3, h4⟩ := List.getElem?_eq_some_iff.1 hj
  have hp := List.pairwise_iff_getElem.1 h
  rcases Nat.lt_trichotomy i j with h | h | h
  · exact absurd (h2.trans h4.symm) (hp i j h1 h3 h)
  · exact h
  · exact absurd (h4.trans h2.symm) (hp j i h3 h1 h)
/-- An expression has one entry. -/
theorem Den.inj {E : List Ex} {F : List Fa} (hI : Inv E F) {i j : Nat} {t : Rx} (h : Den E i t) (k : Den E j t) : i = j := by
  have hz := fun (y : Ex) (i : Nat) (h : E[i]? = some y) => hI.fine y (List.mem_of_getElem? h)
  induction h generalizing j with
  | @leaf i x h0 h1 h2 =>
    generalize ht : Rx.leaf x.p = t at k
    cases k with
    | @leaf _ y k0 k1 k2 =>
      injection ht with e
      obtain ⟨ha, hb⟩ := (hz x _ h0).2.1 h1
      obtain ⟨hc, hd⟩ := (hz y _ k0).2.1 k1
      have exy : x = y := by
        obtain ⟨p, a, b⟩ := x
        obtain ⟨p', a', b'⟩ := y
        simp only at e ha hb hc hd
        rw [e, ha, hb, hc, hd]
      rw [← exy] at k0
      exact nd_at hI.nd h0 k0
    | un => cases ht
    | bin => cases ht
  | @un i x s h0 h1 h2 h3 h4 h5 ih =>
    generalize ht : Rx.un x.p s = t at k
    cases k with
    | leaf => cases ht
    | @un _ y _ k0 k1 k2 k3 k4 k5 =>
      injection ht with e es
      subst es
      have ha := ih k5
      have hb := (hz x _ h0).2.2 h1
      have hd := (hz y _ k0).2.2 k1
      have exy : x = y := by
        obtain ⟨p, a, b⟩ := x
        obtain ⟨p', a', b'⟩ := y
        simp only at e ha hb hd
        rw [e, ha, hb, hd]
      rw [← exy] at k0
      exact nd_at hI.nd h0 k0
    | bin => cases ht
  | @bin i x s u h0 h1 h2 h3 h4 h5 h6 ih1 ih2 =>
    generalize ht : Rx.bin x.p s u = t at k
    cases k with
    | leaf => cases ht
    | un => cases ht
    | @bin _ y _ _ k0 k1 k2 k3 k4 k5 k6 =>
      injection ht with e es eu
      subst es eu
      have ha := ih1 k5
      have hb := ih2 k6
      have exy : x = y := by
        obtain ⟨p, a, b⟩ := x
        obtain ⟨p', a', b'⟩ := y
        simp only at e ha hb
        rw [e, ha, hb]
      rw [← exy] at k0
      exact nd_at hI.nd h0 k0
theorem Inv.get {E : List Ex} {F : List Fa} (h : Inv E F) {i : Nat} {t : Rx} (hd : Den E i t) : ∃ f, F[i]? = some f ∧ FOk f t ∧ t.flat.length ≤ 400 := by
  obtain ⟨u, f, h1, h2, h3, h4⟩ := h.den i hd.lt
  obtain rfl := h1.one hd
  exact ⟨f, h2, h3, h4⟩
/-- What is told of an entry whose operands are in the book. -/
theorem Inv.join {E : List Ex} {F : List Fa} (h : Inv E F) {x : Ex} {t : Rx} (hx : DenX E x t) (ht : t.flat.length ≤ 400) : ∃ f, joinOk F x f ∧ FOk f t := by
  rcases hx with ⟨h0, _, rfl⟩ | ⟨h1, _, hb, s, hs, rfl⟩ | ⟨h1, _, s, u, hs, hu, rfl⟩
  · have hsame : ∀ X Y X' Y', joinOf x X Y = joinOf x X' Y' := fun X Y X' Y' => by
      have hk : x.p.k = 0 ∨ x.p.k = 1 := by have := takesZ_cases x.p.k; omega
      unfold joinOf
      rcases hk with h | h <;> simp [h]
    exact ⟨joinOf x ⟨false, emp, 0⟩ ⟨false, emp, 0⟩, Or.inl ⟨h0, fun X Y => hsame _ _ _ _⟩, fok_leaf x.p x.a x.b _ _ h0⟩
  · obtain ⟨X, hX, hXf, hXl⟩ := h.get hs
    obtain ⟨u, Y, _, hY, hYf, hYl⟩ := h.den x.b hb
    exact ⟨joinOf x X Y, Or.inr ⟨Or.inl h1, X, Y, hX, hY, by have := hXf.2.2; omega, by have := hYf.2.2; omega, rfl⟩, fok_un x.p s x.a x.b X Y h1 hXf⟩
  · obtain ⟨X, hX, hXf, hXl⟩ := h.get hs
    obtain ⟨Y, hY, hYf, hYl⟩ := h.get hu
    exact ⟨joinOf x X Y, Or.inr ⟨Or.inr h1, X, Y, hX, hY, by have := hXf.2.2; omega, by have := hYf.2.2; omega, rfl⟩, fok_bin x.p s u x.a x.b X Y h1 hXf hYf hs.wf hu.wf⟩
theorem DenX.put {E : List Ex} {x : Ex} {t : Rx} (hx : DenX E x t) : Den (E ++ [x]) E.length t := by
  have h0 : (E ++ [x])[E.length]? = some x := by simp
  rcases hx with ⟨h1, h2, rfl⟩ | ⟨h1, h2, hb, s, hs, rfl⟩ | ⟨h1, h2, s, u, hs, hu, rfl⟩
  · exact .leaf h0 h1 h2
  · exact .un h0 h1 h2 hs.lt (by omega) (hs.grow x)
  · exact .bin h0 h1 h2 hs.lt hu.lt (hs.grow x) (hu.grow x)
/-- A book with one more entry. -/
theorem Inv.put {E : List Ex} {F : List Fa} (h : Inv E F) {x : Ex} {t : Rx} {f : Fa} (hx : DenX E x t) (hf : FOk f t) (ht : t.flat.length ≤ 400) (hs : E.length < 100000) (hfi : x.fine) (hnew : ∀ y ∈ E, exCells y ≠ exCells x) : Inv (E ++ [x]) (F ++ [f]) := by
  refine ⟨fun y hy => ?_, ?_, by simp [h.len], fun i hi => ?_, by simp; omega⟩
  · rcases List.mem_append.1 hy with hy | hy
    · exact h.fine y hy
    · rw [List.mem_singleton.1 hy]; exact hfi
  · refine List.nodup_append.2 ⟨h.nd, by simp, fun a ha b hb e => ?_⟩
    rw [List.mem_singleton.1 hb] at e
    exact hnew a ha (by rw [e])
  by_cases hlt : i < E.length
  · obtain ⟨u, g, h1, h2, h3, h4⟩ := h.den i hlt
    exact ⟨u, g, h1.grow x, by rw [List.getElem?_append_left (by rw [← h.len]; exact hlt)]; exact h2, h3, h4⟩
  · have e : i = E.length := by simp at hi; omega
    subst e
    exact ⟨t, f, hx.put, by rw [h.len]; simp, hf, ht⟩
/-- One repetition for two: the entry, and its expression. -/
theorem simp_den {E : List Ex} {x y : Ex} {t : Rx} (hx : DenX E x t) (hxk : takesZ x.p.k = 1) (hy : E[x.a]? = some y) : ∃ u, DenX E (simpOf x y) u ∧ (∀ w, Lan u w ↔ Lan t w) ∧ u.flat.length ≤ t.flat.length := by
  rcases hx with ⟨k0, _⟩ | ⟨_, hok, hb, s, hs, rfl⟩ | ⟨k0, _⟩
  · omega
  rotate_left
  · omega
  unfold simpOf
  by_cases h1 : takesZ y.p.k ≠ 1
  · rw [if_pos h1]
    exact ⟨_, Or.inr (Or.inl ⟨hxk, hok, hb, s, hs, rfl⟩), fun _ => Iff.rfl, Nat.le_refl _⟩
  · have h1' : takesZ y.p.k = 1 := by omega
    rw [if_neg h1]
    have hsl := hs.lt
    cases hs with
    | leaf k0 k1 => rw [hy] at k0; rw [Option.some.inj k0] at h1'; omega
    | bin k0 k1 => rw [hy] at k0; rw [Option.some.inj k0] at h1'; omega
    | @un _ _ r k0 k1 k2 k3 k4 k5 =>
      rw [hy] at k0
      have e := Option.some.inj k0
      subst e
      by_cases h2 : y.p.k = x.p.k
      · rw [if_pos h2]
        exact ⟨_, Or.inr (Or.inl ⟨k1, k2, by omega, r, k5, rfl⟩), fun w => (rep_same x.p y.p r hxk h2 w).symm, by simp [Rx.flat]⟩
      · rw [if_neg h2]
        refine ⟨.un (starX y).p r, Or.inr (Or.inl ⟨show takesZ 4 = 1 by decide, show okSet ⟨4, emp⟩ = true by decide +kernel, by show y.b < _; omega, r, k5, rfl⟩), fun w => (rep_two x.p y.p r (starX y).p rfl hxk h1' h2 w).symm, by simp [Rx.flat]⟩
theorem simp_fine {x y : Ex} (hx : x.fine) (hy : y.fine) : (simpOf x y).fine := by
  unfold simpOf
  split
  · exact hx
  · rename_i h1
    split
    · exact hy
    · exact ⟨fun _ _ => rfl, fun h => absurd h (show takesZ 4 ≠ 0 by decide), fun _ => hy.2.2 (by omega)⟩
theorem kind_small (k : Int) (h : 0 ≤ takesZ k) : 0 ≤ k ∧ k ≤ 6 := by
  rcases takesZ_cases k with ⟨_, h1⟩ | ⟨_, h1⟩ | ⟨_, h1⟩ | ⟨h2, _⟩ <;> omega
theorem DenX.ok {E : List Ex} {F : List Fa} (h : Inv E F) {x : Ex} {t : Rx} (hx : DenX E x t) (ha : x.a ≤ 100000) (hb : x.b ≤ 100000) : x.ok := by
  have h0 : 0 ≤ takesZ x.p.k := by
    rcases hx with ⟨h, _⟩ | ⟨h, _⟩ | ⟨h, _⟩ <;> omega
  obtain ⟨h1, h2⟩ := kind_small _ h0
  exact ⟨by omega, by omega, by omega, by omega⟩
end Go.Proofs.Ytkdhdlokilgccaa
