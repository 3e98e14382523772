import Derived.Test.YtkdhdlokilgccaaZStart
namespace Go.Proofs.Ytkdhdlokilgccaa
open Go.RowKit
set_option linter.unusedVariables false

/-! ### Languages -/
inductive Star (L : List Nat → Prop) : List Nat → Prop
  | nil : Star L []
  | app {u v : List Nat} : L u → Star L v → Star L (u ++ v)
def Cat (L M : List Nat → Prop) (s : List Nat) : Prop := ∃ u v, s = u ++ v ∧ L u ∧ M v
def Lan : Rx → List Nat → Prop
  | .leaf x => fun s => if x.k = 1 then ∃ b, s = [b] ∧ b < 256 ∧ x.p b = true else s = []
  | .un x a => fun s => if x.k = 4 then Star (Lan a) s else if x.k = 5 then Cat (Lan a) (Star (Lan a)) s else s = [] ∨ Lan a s
  | .bin x a b => fun s => if x.k = 2 then Cat (Lan a) (Lan b) s else Lan a s ∨ Lan b s
theorem lan_leaf (x : Pc) (s : List Nat) : Lan (.leaf x) s = (if x.k = 1 then ∃ b, s = [b] ∧ b < 256 ∧ x.p b = true else s = []) := rfl
theorem lan_un (x : Pc) (a : Rx) (s : List Nat) : Lan (.un x a) s = (if x.k = 4 then Star (Lan a) s else if x.k = 5 then Cat (Lan a) (Star (Lan a)) s else s = [] ∨ Lan a s) := rfl
theorem lan_bin (x : Pc) (a b : Rx) (s : List Nat) : Lan (.bin x a b) s = (if x.k = 2 then Cat (Lan a) (Lan b) s else Lan a s ∨ Lan b s) := rfl
theorem Star.one {L : List Nat → Prop} {s : List Nat} (h : L s) : Star L s := by
  have := Star.app h Star.nil
  simpa using this
theorem Star.cat {L : List Nat → Prop} {u v : List Nat} (h : Star L u) (k : Star L v) : Star L (u ++ v) := by
  induction h with
  | nil => simpa using k
  | app h1 _ ih => rw [List.append_assoc]; exact Star.app h1 ih
theorem Star.sub {L M : List Nat → Prop} (h : ∀ s, L s → Star M s) {s : List Nat} (k : Star L s) : Star M s := by
  induction k with
  | nil => exact Star.nil
  | app h1 _ ih => exact (h _ h1).cat ih
theorem Star.first {L : List Nat → Prop} {b : Nat} {s : List Nat} (h : Star L (b :: s)) : ∃ t, L (b :: t) := by
  generalize e : b :: s = w at h
  induction h generalizing s with
  | nil => cases e
  | @app u v h1 h2 ih =>
    cases u with
    | nil => exact ih (by simpa using e)
    | cons c u =>
      simp at e
      exact ⟨u, by rw [e.1]; exact h1⟩
theorem lan_some (t : Rx) (hw : t.wf) : ∃ s, Lan t s := by
  induction t with
  | leaf x =>
    by_cases h : x.k = 1
    · have hx := hw.2
      unfold okSet at hx
      rw [show (x.k == 1) = true by simpa using h] at hx
      have hn : noneB x.p = false := by simpa using hx
      unfold noneB at hn
      have hl : (lst x.p 256).length ≠ 0 := by simpa using hn
      obtain ⟨b, hb⟩ := List.exists_mem_of_length_pos (by omega : 0 < (lst x.p 256).length)
      have := (lst_mem x.p 256 b).1 hb
      exact ⟨[b], by rw [lan_leaf, if_pos h]; exact ⟨b, rfl, this.1, this.2⟩⟩
    · exact ⟨[], by rw [lan_leaf, if_neg h]⟩
  | un x a ih =>
    obtain ⟨s, hs⟩ := ih hw.2.2
    simp only [lan_un]
    by_cases h4 : x.k = 4
    · exact ⟨[], by simp only [if_pos h4]; exact Star.nil⟩
    · by_cases h5 : x.k = 5
      · exact ⟨s, by simp only [if_neg h4, if_pos h5]; exact ⟨s, [], by simp, hs, Star.nil⟩⟩
      · exact ⟨s, by simp only [if_neg h4, if_neg h5]; exact Or.inr hs⟩
  | bin x a b iha ihb =>
    obtain ⟨s, hs⟩ := iha hw.2.2.1
    obtain ⟨u, hu⟩ := ihb hw.2.2.2
    simp only [lan_bin]
    by_cases h2 : x.k = 2
    · exact ⟨s ++ u, by simp only [if_pos h2]; exact ⟨s, u, rfl, hs, hu⟩⟩
    · exact ⟨s, by simp only [if_neg h2]; exact Or.inl hs⟩

/-! ### One repetition for two -/
theorem rep_same (x y : Pc) (s : Rx) (hx : takesZ x.k = 1) (hxy : y.k = x.k) (w : List Nat) : Lan (.un x (.un y s)) w ↔ Lan (.un y s) w := by
  have hk : x.k = 4 ∨ x.k = 5 ∨ x.k = 6 := by have := takesZ_cases x.k; omega
  rcases hk with h | h | h
  · have e : Lan (.un y s) = Star (Lan s) := by funext w; rw [lan_un, if_pos (by omega)]
    rw [lan_un, if_pos h, e]
    exact ⟨fun k => Star.sub (fun _ h => h) k, Star.one⟩
  · have e : Lan (.un y s) = Cat (Lan s) (Star (Lan s)) := by funext w; rw [lan_un, if_neg (by omega), if_pos (by omega)]
    rw [lan_un, if_neg (by omega), if_pos h, e]
    constructor
    · rintro ⟨u, v, rfl, ⟨a, b, rfl, ha, hb⟩, hv⟩
      exact ⟨a, b ++ v, by simp, ha, hb.cat (Star.sub (fun q ⟨c, d, e, hc, hd⟩ => by rw [e]; exact Star.app hc hd) hv)⟩
    · exact fun k => ⟨w, [], by simp, k, Star.nil⟩
  · have e : Lan (.un y s) w = (w = [] ∨ Lan s w) := by rw [lan_un, if_neg (by omega), if_neg (by omega)]
    rw [lan_un, if_neg (by omega), if_neg (by omega), e]
    exact ⟨fun k => k.elim Or.inl id, Or.inr⟩
theorem rep_two (x y : Pc) (s : Rx) (z : Pc) (hz : z.k = 4) (hx : takesZ x.k = 1) (hy : takesZ y.k = 1) (hxy : y.k ≠ x.k) (w : List Nat) : Lan (.un x (.un y s)) w ↔ Lan (.un z s) w := by
  have hk : x.k = 4 ∨ x.k = 5 ∨ x.k = 6 := by have := takesZ_cases x.k; omega
  have hl : y.k = 4 ∨ y.k = 5 ∨ y.k = 6 := by have := takesZ_cases y.k; omega
  have hM : ∀ q, Lan (.un y s) q → Star (Lan s) q := by
    intro q hq
    rw [lan_un] at hq
    rcases hl with h | h | h
    · simp only [h, if_true] at hq; exact hq
    · simp only [h, show ¬ ((5 : Int) = 4) by decide, if_false, if_true] at hq
      obtain ⟨u, v, rfl, hu, hv⟩ := hq
      exact Star.app hu hv
    · simp only [h, show ¬ ((6 : Int) = 4) by decide, show ¬ ((6 : Int) = 5) by decide, if_false] at hq
      rcases hq with rfl | hq
      · exact Star.nil
      · exact Star.one hq
  have hL : ∀ q, Lan s q → Lan (.un y s) q := by
    intro q hq
    simp only [lan_un]
    rcases hl with h | h | h
    · simp only [h, if_true]; exact Star.one hq
    · simp only [h, show ¬ ((5 : Int) = 4) by decide, if_false, if_true]
      exact ⟨q, [], by simp, hq, Star.nil⟩
    · simp only [h, show ¬ ((6 : Int) = 4) by decide, show ¬ ((6 : Int) = 5) by decide, if_false]
      exact Or.inr hq
  have hS : Star (Lan s) w ↔ Star (Lan (.un y s)) w := ⟨Star.sub (fun q h => Star.one (hL q h)), Star.sub hM⟩
  have hz1 : Lan (.un z s) w ↔ Star (Lan s) w := by show (if z.k = 4 then _ else _) ↔ _; rw [if_pos hz]
  rw [hz1]
  rcases hk with h | h | h
  · show (if x.k = 4 then Star (Lan (.un y s)) w else _) ↔ _
    rw [if_pos h]; exact hS.symm
  · show (if x.k = 4 then _ else if x.k = 5 then Cat (Lan (.un y s)) (Star (Lan (.un y s))) w else _) ↔ _
    rw [if_neg (by omega), if_pos h]
    have he : Lan (.un y s) [] := by
      simp only [lan_un]
      rcases (show y.k = 4 ∨ y.k = 6 by omega) with h' | h'
      · simp only [h', if_true]; exact Star.nil
      · simp only [h', show ¬ ((6 : Int) = 4) by decide, show ¬ ((6 : Int) = 5) by decide, if_false]; exact Or.inl trivial
    constructor
    · rintro ⟨u, v, rfl, hu, hv⟩
      exact (hM u hu).cat (Star.sub hM hv)
    · exact fun k => ⟨[], w, rfl, he, hS.1 k⟩
  · show (if x.k = 4 then _ else if x.k = 5 then _ else w = [] ∨ Lan (.un y s) w) ↔ _
    rw [if_neg (by omega), if_neg (by omega)]
    constructor
    · rintro (rfl | k)
      · exact Star.nil
      · exact hM w k
    · intro k
      simp only [lan_un]
      rcases (show y.k = 4 ∨ y.k = 5 by omega) with h' | h'
      · simp only [h', if_true]; exact Or.inr k
      · simp only [h', show ¬ ((5 : Int) = 4) by decide, if_false, if_true]
        cases k with
        | nil => exact Or.inl rfl
        | app hu hv => exact Or.inr ⟨_, _, rfl, hu, hv⟩
theorem lan_un_congr (x : Pc) (s t : Rx) (h : ∀ w, Lan s w ↔ Lan t w) (w : List Nat) : Lan (.un x s) w ↔ Lan (.un x t) w := by
  have e : Lan s = Lan t := funext fun w => propext (h w)
  show (if x.k = 4 then Star (Lan s) w else if x.k = 5 then Cat (Lan s) (Star (Lan s)) w else w = [] ∨ Lan s w) ↔ _
  rw [e]; rfl
theorem lan_bin_congr (x : Pc) (s t s' t' : Rx) (h : ∀ w, Lan s w ↔ Lan s' w) (k : ∀ w, Lan t w ↔ Lan t' w) (w : List Nat) : Lan (.bin x s t) w ↔ Lan (.bin x s' t') w := by
  have e : Lan s = Lan s' := funext fun w => propext (h w)
  have e' : Lan t = Lan t' := funext fun w => propext (k w)
  show (if x.k = 2 then Cat (Lan s) (Lan t) w else Lan s w ∨ Lan t w) ↔ _
  rw [e, e']; rfl
end Go.Proofs.Ytkdhdlokilgccaa
