import Derived.Test.YtlnndkilaklifaaZHolders
import Derived.Maps.Own
import Derived.Maps.OwnOps
import Derived.Maps.OwnSet
import Derived.Maps.Views
import Derived.StringKeys
namespace Go.Proofs.Ytlnndkilaklifaa
open Go.RowKit Go.Maps
open Classical

/-- The least number whose key is that of b. -/
noncomputable def fst (K : Nat → Lit) (b : Nat) : Nat := ((List.range b).filter fun c => decide (K c = K b)).headD b
theorem fst_spec (K : Nat → Lit) (b : Nat) : fst K b ≤ b ∧ K (fst K b) = K b ∧ ∀ c, c < fst K b → K c ≠ K b := by
  have e : fst K b = ((List.range b).filter fun c => decide (K c = K b)).headD b := rfl
  rw [e]
  have hp : ((List.range b).filter fun c => decide (K c = K b)).Pairwise (· < ·) := List.Pairwise.filter _ List.pairwise_lt_range
  have hm : ∀ x, x ∈ ((List.range b).filter fun c => decide (K c = K b)) ↔ x < b ∧ K x = K b := fun x => by simp
  generalize ((List.range b).filter fun c => decide (K c = K b)) = l at hp hm
  match l with
  | [] =>
    refine ⟨Nat.le_refl _, rfl, fun c hc hk => ?_⟩
    have := (hm c).2 ⟨hc, hk⟩
    simp at this
  | x :: r =>
    have h1 := (hm x).1 (by simp)
    refine ⟨Nat.le_of_lt h1.1, h1.2, fun c hc hk => ?_⟩
    have hc' : c < x := hc
    have h2 := (hm c).2 ⟨by omega, hk⟩
    rw [List.pairwise_cons] at hp
    rcases List.mem_cons.1 h2 with h3 | h3
    · omega
    · have := hp.1 c h3; omega
theorem fst_eq (K : Nat → Lit) (b c : Nat) (h2 : K c = K b) (h3 : ∀ d, d < c → K d ≠ K b) : fst K b = c := by
  obtain ⟨_, a2, a3⟩ := fst_spec K b
  rcases Nat.lt_trichotomy (fst K b) c with h | h | h
  · exact absurd a2 (h3 _ h)
  · exact h
  · exact absurd h2 (a3 _ h)
theorem fst_same (K : Nat → Lit) (b c : Nat) (h : K c = K b) : fst K b = fst K c := by
  obtain ⟨_, a2, a3⟩ := fst_spec K c
  exact fst_eq K b (fst K c) (a2.trans h) (fun d hd => by rw [← h]; exact a3 d hd)
theorem fst_fst (K : Nat → Lit) (b : Nat) : fst K (fst K b) = fst K b := by
  obtain ⟨_, a2, _⟩ := fst_spec K b
  exact (fst_same K b (fst K b) a2).symm

/-- How many numbers below k are the first of their class. -/
noncomputable def nrep (K : Nat → Lit) : Nat → Nat
  | 0 => 0
  | k + 1 => nrep K k + if fst K k = k then 1 else 0
theorem nrep_le (K : Nat → Lit) (k : Nat) : nrep K k ≤ k := by
  induction k with
  | zero => simp [nrep]
  | succ k ih => simp only [nrep]; split <;> omega
theorem nrep_mono (K : Nat → Lit) {a b : Nat} (h : a ≤ b) : nrep K a ≤ nrep K b := by
  induction b with
  | zero => have : a = 0 := by omega
            subst this; exact Nat.le_refl _
  | succ b ih =>
    by_cases e : a = b + 1
    · subst e; exact Nat.le_refl _
    · have := ih (by omega)
      simp only [nrep]; split <;> omega
/-- The class of a number. -/
noncomputable def cls (K : Nat → Lit) (b : Nat) : Nat := nrep K (fst K b)
theorem cls_le (K : Nat → Lit) (b : Nat) : cls K b ≤ b := Nat.le_trans (nrep_le K _) (fst_spec K b).1
theorem cls_lt (K : Nat → Lit) (b k : Nat) (h : b < k) : cls K b + 1 ≤ nrep K k := by
  have h1 := (fst_spec K b).1
  have h2 : nrep K (fst K b + 1) = nrep K (fst K b) + 1 := by simp only [nrep]; rw [if_pos (fst_fst K b)]
  have h3 := nrep_mono K (show fst K b + 1 ≤ k by omega)
  unfold cls; omega
/-- The greatest class is reached. -/
theorem cls_top (K : Nat → Lit) (k : Nat) (h : 0 < k) : ∃ b, b < k ∧ cls K b + 1 = nrep K k := by
  induction k with
  | zero => omega
  | succ k ih =>
    by_cases e : fst K k = k
    · refine ⟨k, by omega, ?_⟩
      unfold cls
      rw [e]
      simp only [nrep, e, if_true]
    · rcases Nat.eq_zero_or_pos k with h0 | h0
      · subst h0
        have := (fst_spec K 0).1
        exact absurd (by omega) e
      · obtain ⟨b, hb, hc⟩ := ih h0
        exact ⟨b, by omega, by simp only [nrep, e, if_false]; omega⟩

/-- The map of the classes after k numbers. -/
structure Good {H : Type} (K : Nat → Lit) (k : Nat) (D : DataW H) : Prop where
  tidy : Tidy D
  size : size D = nrep K k
  has : ∀ b, b < k → has D (K b) = true
  only : ∀ kl, Maps.has D kl = true → ∃ b, b < k ∧ K b = kl
  at_ : ∀ b, b < k → ∀ z, D.atKey (K b) z = .lit (.int .u8 ((cls K b : Nat) : Int))
theorem Good.start {H : Type} (K : Nat → Lit) : Good (H := H) K 0 (.map []) :=
  ⟨tidy_empty, rfl, fun b hb => absurd hb (by omega), (fun kl h => by cases h), fun b hb => absurd hb (by omega)⟩
theorem Good.old {H : Type} {K : Nat → Lit} {k : Nat} {D : DataW H} (h : Good K k D) (hh : Maps.has D (K k) = true) : Good K (k + 1) D ∧ D.atKey (K k) (.lit (.int .u8 0)) = .lit (.int .u8 ((cls K k : Nat) : Int)) := by
  obtain ⟨c, hc, hk⟩ := h.only _ hh
  have hf := fst_same K k c hk
  have hn : fst K k ≠ k := by have := (fst_spec K c).1; omega
  have hcl : cls K k = cls K c := by unfold cls; rw [hf]
  have hat : ∀ z, D.atKey (K k) z = .lit (.int .u8 ((cls K k : Nat) : Int)) := fun z => by rw [hcl, ← hk]; exact h.at_ c hc z
  refine ⟨⟨h.tidy, ?_, fun b hb => ?_, fun kl hkl => ?_, fun b hb z => ?_⟩, hat _⟩
  · rw [h.size]; simp only [nrep, hn, if_false]; rfl
  · by_cases e : b = k
    · subst e; exact hh
    · exact h.has b (by omega)
  · obtain ⟨b, hb, e⟩ := h.only kl hkl
    exact ⟨b, by omega, e⟩
  · by_cases e : b = k
    · subst e; exact hat z
    · exact h.at_ b (by omega) z
theorem Good.new {H : Type} {K : Nat → Lit} {k : Nat} {D : DataW H} (h : Good K k D) (hK : ∀ b, WideAt.IsKeyLit (K b)) (hh : Maps.has D (K k) = false) :
    Good K (k + 1) (D.put (K k) (.lit (.int .u8 ((nrep K k : Nat) : Int)))) ∧ cls K k = nrep K k := by
  have hne : ∀ b, b < k → K b ≠ K k := fun b hb e => by
    have := h.has b hb
    rw [e, hh] at this; simp at this
  have hf : fst K k = k := fst_eq K k k rfl hne
  have hcl : cls K k = nrep K k := by unfold cls; rw [hf]
  refine ⟨⟨h.tidy.put (hK k) _, ?_, fun b hb => ?_, fun kl hkl => ?_, fun b hb z => ?_⟩, hcl⟩
  · rw [size_put h.tidy, hh, h.size]; simp [nrep, hf]
  · by_cases e : b = k
    · subst e; exact has_put_same h.tidy.isMap (hK b) _
    · rw [has_put_other (hne b (by omega))]; exact h.has b (by omega)
  · by_cases e : kl = K k
    · exact ⟨k, by omega, e.symm⟩
    · rw [has_put_other e] at hkl
      obtain ⟨b, hb, e⟩ := h.only kl hkl
      exact ⟨b, by omega, e⟩
  · by_cases e : b = k
    · subst e; rw [atKey_put_same h.tidy.isMap (hK b), hcl]
    · rw [atKey_put_other (hne b (by omega))]; exact h.at_ b (by omega) z

/-- The key of a number among n sets. -/
def keyLit (s : Nat → Nat → Bool) (n b : Nat) : Lit := .string ((keyL (fun i => s i b) n).map UInt8.ofNat)
theorem keyLit_is (s : Nat → Nat → Bool) (n b : Nat) : WideAt.IsKeyLit (keyLit s n b) := by simp [keyLit, WideAt.IsKeyLit]
theorem keyL_small (f : Nat → Bool) (n : Nat) : ∀ m ∈ keyL f n, m < 256 := by
  intro m hm
  simp only [keyL, List.mem_map] at hm
  obtain ⟨j, _, rfl⟩ := hm
  exact by8_lt _ _
theorem keyLit_eq (s : Nat → Nat → Bool) (n b c : Nat) : keyLit s n b = keyLit s n c ↔ ∀ i, i < n → s i b = s i c := by
  unfold keyLit
  constructor
  · intro h
    injection h with h
    exact (keyL_eq _ _ n).1 (bytes_inj (keyL_small _ _) (keyL_small _ _) h)
  · intro h
    rw [(keyL_eq (fun i => s i b) (fun i => s i c) n).2 h]
end Go.Proofs.Ytlnndkilaklifaa
