import Derived.Lib.ItoaNum
import Derived.Lib.AtoiAll
import Derived.Laws.Wrap64
namespace Go.Proofs.YtbacgnhkapancaaDoor
open Go.Lib

/-! Decimal numbers as lists of bytes: what is written is read back, by the library's way and by the reference's. -/
def w64 (x : Int) : Int := (x + 9223372036854775808) % 18446744073709551616 - 9223372036854775808
theorem w64_in (x : Int) (h0 : -9223372036854775808 ≤ x) (h1 : x ≤ 9223372036854775807) : w64 x = x := by unfold w64; omega
theorem w64_bounds (x : Int) : -9223372036854775808 ≤ w64 x ∧ w64 x ≤ 9223372036854775807 := by unfold w64; omega

set_option linter.unusedVariables false
theorem dd_small {u : Nat} (h : u < 10) : decDigits u = [UInt8.ofNat (48 + u)] := by rw [decDigits, dif_pos h]
theorem dd_big {u : Nat} (h : ¬ u < 10) : decDigits u = decDigits (u / 10) ++ [UInt8.ofNat (48 + u % 10)] := by rw [decDigits, dif_neg h]
theorem dd_step {u : Nat} (h : u ≠ 0) : decDigits u = (if u / 10 = 0 then [] else decDigits (u / 10)) ++ [UInt8.ofNat (48 + u % 10)] := by
  by_cases e : u < 10
  · rw [dd_small e, if_pos (by omega), Nat.mod_eq_of_lt e]; rfl
  · rw [dd_big e, if_neg (by omega)]
theorem dd_nat (u : Nat) (h : u < 10) : (UInt8.ofNat (48 + u)).toNat = 48 + u := by simp; omega
theorem dd_head (u : Nat) : ∃ c r, decDigits u = c :: r ∧ 48 ≤ c.toNat ∧ c.toNat ≤ 57 := by
  induction u using Nat.strongRecOn with
  | _ u ih =>
    by_cases h : u < 10
    · exact ⟨_, _, dd_small h, by rw [dd_nat u h]; omega, by rw [dd_nat u h]; omega⟩
    · obtain ⟨c, r, hc, h1, h2⟩ := ih (u / 10) (by omega)
      exact ⟨c, r ++ [UInt8.ofNat (48 + u % 10)], by rw [dd_big h, hc]; rfl, h1, h2⟩

/-! The library's way. -/
def puS (c : UInt8) : NumEnd Nat → NumEnd Nat
  | .ok acc => parseUint10 acc [c]
  | e => e
theorem pu_snoc (c : UInt8) : ∀ (l : List UInt8) (acc : Nat), parseUint10 acc (l ++ [c]) = puS c (parseUint10 acc l)
  | [], acc => by simp only [List.nil_append, parseUint10, puS]
  | b :: r, acc => by
    have ih := pu_snoc c r (acc * 10 + (b.toNat - 48))
    simp only [List.cons_append]
    rw [parseUint10.eq_2, parseUint10.eq_2]
    split
    · split
      · rfl
      · split
        · rfl
        · exact ih
    · rfl
theorem pu_dd (u : Nat) (h : u < 18446744073709551616) : parseUint10 0 (decDigits u) = .ok u := by
  induction u using Nat.strongRecOn with
  | _ u ih =>
    by_cases e : u < 10
    · rw [dd_small e]
      simp only [parseUint10, dd_nat u e]
      rw [if_pos (by omega), if_neg (by omega), if_neg (by omega)]
      congr 1; omega
    · rw [dd_big e, pu_snoc, ih (u / 10) (by omega) (by omega)]
      simp only [puS, parseUint10, dd_nat (u % 10) (by omega)]
      rw [if_pos (by omega), if_neg (by omega), if_neg (by omega)]
      congr 1; omega
theorem atoi_itoa (n : Int) (h0 : -9223372036854775808 ≤ n) (h1 : n ≤ 9223372036854775807) : atoiAll (itoa n) = .ok n := by
  unfold itoa
  by_cases hn : n < 0
  · rw [if_pos hn]
    obtain ⟨c, r, hc, _, _⟩ := dd_head n.natAbs
    have e1 : parseMag (decDigits n.natAbs) = .ok n.natAbs := by
      unfold parseMag
      rw [if_neg (by rw [hc]; simp), pu_dd _ (by omega)]
    have e2 : (45 : UInt8).toNat = 45 := rfl
    simp only [atoiAll, e2]
    rw [if_pos (by decide), e1]
    dsimp only
    rw [if_neg (fun h => h.1 trivial), if_neg (fun h => by have := h.2; omega), if_pos trivial]
    congr 1; omega
  · rw [if_neg hn]
    obtain ⟨c, r, hc, h2, h3⟩ := dd_head n.toNat
    have e1 : parseMag (decDigits n.toNat) = .ok n.toNat := by
      unfold parseMag
      rw [if_neg (by rw [hc]; simp), pu_dd _ (by omega)]
    rw [hc] at e1 ⊢
    simp only [atoiAll]
    rw [if_neg (by omega), e1]
    simp
    rw [if_neg (by omega), if_neg (by omega), if_neg (by omega)]
    congr 1; omega
theorem itoa_inj {n m : Int} (h0 : -9223372036854775808 ≤ n) (h1 : n ≤ 9223372036854775807) (k0 : -9223372036854775808 ≤ m) (k1 : m ≤ 9223372036854775807) (h : itoa n = itoa m) : n = m := by
  have a := atoi_itoa n h0 h1
  rw [h, atoi_itoa m k0 k1] at a
  injection a with a
  exact a.symm
theorem atoi_bounds {l : List UInt8} {v : Int} (h : atoiAll l = .ok v) : -9223372036854775808 ≤ v ∧ v ≤ 9223372036854775807 := by
  unfold atoiAll at h
  split at h
  · cases h
  · rename_i c r
    dsimp only at h
    split at h
    · cases h
    · cases h
    · split at h
      · cases h
      · split at h
        · cases h
        · injection h with h
          subst h
          split <;> omega

/-! The reference's way. -/
def rpS (acc : Int) (b : Nat) : Int := if 48 ≤ b ∧ b ≤ 57 then w64 (w64 (acc * 10) - ((b : Int) - 48)) else acc
def rpF (z : Nat → Nat) : Nat → Int
  | 0 => 0
  | k + 1 => rpS (rpF z k) (z k)
theorem rpF_in (z : Nat → Nat) : ∀ k, -9223372036854775808 ≤ rpF z k ∧ rpF z k ≤ 9223372036854775807
  | 0 => by simp [rpF]
  | k + 1 => by
    simp only [rpF, rpS]
    split
    · exact w64_bounds _
    · exact rpF_in z k
def rpL (l : List UInt8) : Int := l.foldl (fun a b => rpS a b.toNat) 0
theorem rpF_list (z : Nat → Nat) (l : List UInt8) (h : ∀ i (hi : i < l.length), (l[i]).toNat = z i) : ∀ k, k ≤ l.length → rpF z k = rpL (l.take k)
  | 0, _ => by simp [rpF, rpL]
  | k + 1, hk => by
    have e : l.take (k + 1) = l.take k ++ [l[k]'(by omega)] := by rw [List.take_add_one, List.getElem?_eq_getElem (by omega)]; rfl
    rw [rpF, rpF_list z l h k (by omega), e, rpL, rpL, List.foldl_append, ← h k (by omega)]
    rfl
theorem rp_dd (u : Nat) (h : u ≤ 9223372036854775808) : (decDigits u).foldl (fun a b => rpS a b.toNat) 0 = -(u : Int) := by
  induction u using Nat.strongRecOn with
  | _ u ih =>
    by_cases e : u < 10
    · rw [dd_small e]
      simp only [List.foldl_cons, List.foldl_nil, rpS, dd_nat u e]
      rw [if_pos (by omega), w64_in (0 * 10) (by omega) (by omega), w64_in _ (by omega) (by omega)]
      omega
    · rw [dd_big e, List.foldl_append, ih (u / 10) (by omega) (by omega)]
      simp only [List.foldl_cons, List.foldl_nil, rpS, dd_nat (u % 10) (by omega)]
      rw [if_pos (by omega), w64_in (-((u / 10 : Nat) : Int) * 10) (by omega) (by omega), w64_in _ (by omega) (by omega)]
      omega
/-- The number that the reference makes of a text. -/
def rnF (l : List UInt8) : Int := if l.head? = some 45 then rpL (l.take 20) else w64 (-(rpL (l.take 20)))
theorem rp_in (l : List UInt8) : -9223372036854775808 ≤ rpL l ∧ rpL l ≤ 9223372036854775807 := by
  have := rpF_in (fun i => (l.getD i 0).toNat) l.length
  rw [rpF_list _ l (fun i hi => by simp [hi]) l.length (Nat.le_refl _), List.take_length] at this
  exact this
theorem rn_in (l : List UInt8) : -9223372036854775808 ≤ rnF l ∧ rnF l ≤ 9223372036854775807 := by
  unfold rnF
  split
  · exact rp_in _
  · exact w64_bounds _
theorem dd_len (u : Nat) (h : u ≤ 9223372036854775808) : (decDigits u).length ≤ 19 := by
  rw [decDigits_length]
  by_cases e : nDigits u ≤ 19
  · exact e
  · have : nDigits u = 18 + 1 := by
      by_cases h2 : 10 ^ 18 ≤ u
      · exact nDigits_unique 18 u h2 (by omega)
      · have h4 : ∀ k v, v < 10 ^ (k + 1) → nDigits v ≤ k + 1 := by
          intro k
          induction k with
          | zero => intro v hv; rw [nDigits_small (by simpa using hv)]; omega
          | succ k ih =>
            intro v hv
            by_cases hv1 : v < 10
            · rw [nDigits_small hv1]; omega
            · rw [nDigits_big hv1]
              have := ih (v / 10) (by rw [Nat.pow_succ] at hv; omega)
              omega
        have := h4 17 u (by omega)
        omega
    omega
theorem rn_itoa (n : Int) (h0 : -9223372036854775808 ≤ n) (h1 : n ≤ 9223372036854775807) : rnF (itoa n) = n := by
  unfold rnF itoa
  by_cases hn : n < 0
  · rw [if_pos hn]
    have hl := dd_len n.natAbs (by omega)
    rw [if_pos (by rfl), List.take_of_length_le (by simp; omega)]
    show (decDigits n.natAbs).foldl (fun a b => rpS a b.toNat) (rpS 0 (45 : UInt8).toNat) = n
    have : rpS 0 (45 : UInt8).toNat = 0 := by decide
    rw [this, rp_dd _ (by omega)]
    omega
  · rw [if_neg hn]
    have hl := dd_len n.toNat (by omega)
    obtain ⟨c, r, hc, h2, h3⟩ := dd_head n.toNat
    rw [if_neg (by
      rw [hc]; simp
      intro e; rw [e] at h2; simp at h2), List.take_of_length_le (by omega)]
    show w64 (-((decDigits n.toNat).foldl (fun a b => rpS a b.toNat) 0)) = n
    rw [rp_dd _ (by omega), w64_in _ (by omega) (by omega)]
    omega

/-- The number that a text is, and whether it is one: by the library, and by the reference. -/
def nuF (l : List UInt8) : Int × Bool := if itoa (rnF l) = l then (rnF l, true) else (0, false)
theorem nu_ok {l : List UInt8} {v : Int} (h : atoiAll l = .ok v) (e : itoa v = l) : nuF l = (v, true) := by
  have hb := atoi_bounds h
  have : rnF l = v := by rw [← e]; exact rn_itoa v hb.1 hb.2
  unfold nuF
  rw [this, if_pos e]
theorem nu_no {l : List UInt8} (h : ∀ v, atoiAll l = .ok v → itoa v ≠ l) : nuF l = (0, false) := by
  unfold nuF
  rw [if_neg]
  intro e
  have hb := rn_in l
  have := atoi_itoa (rnF l) hb.1 hb.2
  rw [e] at this
  exact h _ this e
theorem nu_itoa (n : Int) (h0 : -9223372036854775808 ≤ n) (h1 : n ≤ 9223372036854775807) : nuF (itoa n) = (n, true) := nu_ok (atoi_itoa n h0 h1) rfl
theorem nu_in (l : List UInt8) : -9223372036854775808 ≤ (nuF l).1 ∧ (nuF l).1 ≤ 9223372036854775807 := by
  unfold nuF
  split
  · exact rn_in l
  · simp
end Go.Proofs.YtbacgnhkapancaaDoor
