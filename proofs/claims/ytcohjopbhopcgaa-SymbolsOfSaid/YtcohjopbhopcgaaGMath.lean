import Derived.Test.YtcohjopbhopcgaaEscName
import Derived.Test.YtcohjopbhopcgaaSs
namespace Go.Proofs.Ytcohjopbhopcgaa
open Go.RowKit
set_option linter.unusedVariables false
set_option linter.unusedSimpArgs false

/-! ### Numbered names -/
/-- The place of the first text that is s, or the count. -/
def plS (s : ByteArray) : List ByteArray → Nat
  | [] => 0
  | a :: l => if a = s then 0 else plS s l + 1
theorem plS_le (s : ByteArray) (l : List ByteArray) : plS s l ≤ l.length := by
  induction l with
  | nil => simp [plS]
  | cons a l ih => simp only [plS, List.length_cons]; split <;> omega
theorem plS_at {s : ByteArray} {l : List ByteArray} {k : Nat} (hk : k < l.length) (h : l[k] = s) (hn : ∀ j (h : j < l.length), j < k → l[j] ≠ s) : plS s l = k := by
  induction l generalizing k with
  | nil => simp at hk
  | cons a l ih =>
    cases k with
    | zero => simp at h; simp [plS, h]
    | succ k =>
      have h0 := hn 0 (by simp) (by omega)
      simp at h0 h hk
      simp only [plS, if_neg h0]
      rw [ih hk h (fun j hj hjk => by have := hn (j + 1) (by simp; omega) (by omega); simpa using this)]
theorem plS_no {s : ByteArray} {l : List ByteArray} (hn : ∀ j (h : j < l.length), l[j] ≠ s) : plS s l = l.length := by
  induction l with
  | nil => rfl
  | cons a l ih =>
    have h0 := hn 0 (by simp)
    simp at h0
    simp only [plS, if_neg h0, List.length_cons]
    rw [ih (fun j hj => by have := hn (j + 1) (by simp; omega); simpa using this)]
/-- The number of a name; -1. -/
def fdS (l : List ByteArray) (s : ByteArray) : Int := if plS s l < l.length then ((plS s l : Nat) : Int) else -1
theorem fdS_at {s : ByteArray} {l : List ByteArray} {k : Nat} (hk : k < l.length) (h : l[k] = s) (hn : ∀ j (h : j < l.length), j < k → l[j] ≠ s) : fdS l s = ((k : Nat) : Int) := by
  unfold fdS
  rw [plS_at hk h hn, if_pos hk]
theorem fdS_no {s : ByteArray} {l : List ByteArray} (hn : ∀ j (h : j < l.length), l[j] ≠ s) : fdS l s = -1 := by
  unfold fdS
  rw [plS_no hn, if_neg (by omega)]
theorem fdS_or (l : List ByteArray) (s : ByteArray) : fdS l s = -1 ∨ ∃ k : Nat, fdS l s = k ∧ k < l.length := by
  unfold fdS
  split
  · exact Or.inr ⟨_, rfl, by assumption⟩
  · exact Or.inl rfl
/-- The names with one more, if it may be added. -/
def adN (l : List ByteArray) (s : ByteArray) : List ByteArray := if nameT s = true ∧ fdS l s = -1 ∧ l.length < 300 then l ++ [s] else l
/-- Its number. -/
def adI (l : List ByteArray) (s : ByteArray) : Int := if nameT s = true then if fdS l s = -1 then if l.length < 300 then ((l.length : Nat) : Int) else 0 else fdS l s else 0
/-- What is wrong. -/
def adE (l : List ByteArray) (s : ByteArray) : Int := if nameT s = true then if fdS l s = -1 then if l.length < 300 then 0 else 6 else 9 else 8
theorem ad_name {l : List ByteArray} {s : ByteArray} (h : nameT s = false) : adN l s = l ∧ adI l s = 0 ∧ adE l s = 8 := by simp [adN, adI, adE, h]
theorem ad_twice {l : List ByteArray} {s : ByteArray} (h : nameT s = true) (h1 : fdS l s ≠ -1) : adN l s = l ∧ adI l s = fdS l s ∧ adE l s = 9 := by simp [adN, adI, adE, h, h1]
theorem ad_big {l : List ByteArray} {s : ByteArray} (h : nameT s = true) (h1 : fdS l s = -1) (h2 : ¬ l.length < 300) : adN l s = l ∧ adI l s = 0 ∧ adE l s = 6 := by simp [adN, adI, adE, h, h1, h2]
theorem ad_yes {l : List ByteArray} {s : ByteArray} (h : nameT s = true) (h1 : fdS l s = -1) (h2 : l.length < 300) : adN l s = l ++ [s] ∧ adI l s = ((l.length : Nat) : Int) ∧ adE l s = 0 := by simp [adN, adI, adE, h, h1, h2]
theorem adN_len {l : List ByteArray} (s : ByteArray) (h : l.length ≤ 300) : (adN l s).length ≤ 300 := by
  unfold adN
  split
  · simp; omega
  · exact h
theorem adE_or (l : List ByteArray) (s : ByteArray) : adE l s = 0 ∨ adE l s = 6 ∨ adE l s = 8 ∨ adE l s = 9 := by
  unfold adE
  repeat' split
  all_goals simp
theorem adE_zero {l : List ByteArray} {s : ByteArray} (h : adE l s = 0) : adN l s = l ++ [s] ∧ adI l s = ((l.length : Nat) : Int) := by
  unfold adE at h
  repeat' split at h
  all_goals (first | (exact absurd h (by decide)) | skip)
  rename_i h1 h2 h3
  exact ⟨(ad_yes h1 h2 h3).1, (ad_yes h1 h2 h3).2.1⟩
/-- The table behind the first k of some names. -/
def adU (l : List ByteArray) : Nat → List ByteArray
  | 0 => []
  | k + 1 => if h : k < l.length then adN (adU l k) l[k] else adU l k
theorem adU_succ {l : List ByteArray} {k : Nat} (h : k < l.length) : adU l (k + 1) = adN (adU l k) l[k] := by simp [adU, h]
theorem adU_len (l : List ByteArray) (k : Nat) : (adU l k).length ≤ 300 := by
  induction k with
  | zero => simp [adU]
  | succ k ih => unfold adU; split; · exact adN_len _ ih
                 · exact ih
/-- Are all texts of l at most 100 bytes, and are there at most 400? -/
structure FewS (l : List ByteArray) : Prop where
  n : l.length ≤ 400
  s : ∀ j (h : j < l.length), l[j].size ≤ 100
theorem adN_s {l : List ByteArray} {s : ByteArray} (h : ∀ j (h : j < l.length), l[j].size ≤ 100) (hs : s.size ≤ 100) : ∀ j (h : j < (adN l s).length), (adN l s)[j].size ≤ 100 := by
  unfold adN
  split
  · intro j hj
    rw [List.getElem_append]
    split
    · exact h _ _
    · simpa using hs
  · exact h
theorem adU_s {l : List ByteArray} (h : FewS l) (k : Nat) : ∀ j (h : j < (adU l k).length), (adU l k)[j].size ≤ 100 := by
  induction k with
  | zero => intro j hj; simp [adU] at hj
  | succ k ih =>
    unfold adU
    split
    · exact adN_s ih (h.s _ _)
    · exact ih
theorem sss_length (l : List ByteArray) : (sss l).length = l.length := by simp [sss]
theorem sss_append (a b : List ByteArray) : sss (a ++ b) = sss a ++ sss b := by simp [sss]
theorem sss_one (l : List ByteArray) : ∀ u ∈ sss l, u.oneCell' = true := by
  intro u hu
  simp only [sss, List.mem_map] at hu
  obtain ⟨j, _, rfl⟩ := hu
  rfl
theorem own_emptyS (W : World) : (W.alloc (.cells #[] 9)).ownsRow W.heap.size 9 1 (.slice (some ⟨W.heap.size, 0, none⟩) 0 0) 0 [] :=
  ⟨rfl, Or.inr ⟨W.heap.size, 0, #[], rfl, Nat.le_refl _, by show (W.heap.push _)[W.heap.size]? = _; rw [Array.getElem?_push, if_pos rfl], Nat.le_refl _, by unfold maxLen; omega, rfl, rfl⟩⟩
theorem ss_news {w : World} {g off : Nat} {l : List ByteArray} (h : ∀ j (h : j < l.length), w.cell? ⟨g, off + j, none⟩ = some (.string l[j])) : ∀ j u, (sss l)[j]? = some u → w.cell? ((⟨g, off, none⟩ : Addr).add j) = some u := fun j u hj => by
  have h1 : j < l.length := by
    have := (List.getElem?_eq_some_iff.1 hj).1
    simpa [sss] using this
  rw [show (⟨g, off, none⟩ : Addr).add j = ⟨g, off + j, none⟩ by unfold Addr.add; split <;> simp_all, h j h1, ← hj]
  simp [sss, h1]
end Go.Proofs.Ytcohjopbhopcgaa
