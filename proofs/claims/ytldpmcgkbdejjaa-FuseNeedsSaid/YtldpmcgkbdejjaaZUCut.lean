import Derived.Test.YtldpmcgkbdejjaaZClasses
import Derived.Test.YtldpmcgkbdejjaaZTFrame
namespace Go.Proofs.Ytldpmcgkbdejjaa
open Go.RowKit
set_option linter.unusedVariables false
set_option linter.unusedSimpArgs false

/-- The mark behind k bytes from a place on. -/
def mkA (D : Dd) (z : Nat → Nat) (p k : Nat) : Int := markF D (runF D 0 (fun i => z (p + i)) k)
theorem mkA_lo {D : Dd} {C : Nat} (h : DR D C) (z : Nat → Nat) (p k : Nat) : -1 ≤ mkA D z p k := by
  unfold mkA markF
  split
  · rename_i h1
    exact (h.q _ (by omega)).1
  · omega
/-- The longest token among the first r bytes from a place on: its mark and how many bytes. -/
def longF (D : Dd) (z : Nat → Nat) (p : Nat) : Nat → Int × Nat
  | 0 => (-1, 0)
  | r + 1 => if mkA D z p (r + 1) = -1 then longF D z p r else (mkA D z p (r + 1), r + 1)
theorem longF_yes {D : Dd} {z : Nat → Nat} {p r : Nat} (h : mkA D z p (r + 1) ≠ -1) : longF D z p (r + 1) = (mkA D z p (r + 1), r + 1) := if_neg h
theorem longF_no {D : Dd} {z : Nat → Nat} {p r : Nat} (h : mkA D z p (r + 1) = -1) : longF D z p (r + 1) = longF D z p r := if_pos h
theorem longF_le (D : Dd) (z : Nat → Nat) (p r : Nat) : (longF D z p r).2 ≤ r := by
  induction r with
  | zero => exact Nat.le_refl 0
  | succ r ih =>
    unfold longF
    split
    · omega
    · exact Nat.le_refl _
/-- What has no mark adds nothing. -/
theorem longF_skip (D : Dd) (z : Nat → Nat) (p r : Nat) : ∀ d, (∀ k, r < k → k ≤ r + d → mkA D z p k = -1) → longF D z p (r + d) = longF D z p r := by
  intro d
  induction d with
  | zero => intro _; rfl
  | succ d ih =>
    intro h
    rw [← Nat.add_assoc, longF_no (h _ (by omega) (by omega))]
    exact ih (fun k h1 h2 => h k h1 (by omega))
theorem mkA_dead {D : Dd} {z : Nat → Nat} {p k : Nat} (h : runF D 0 (fun i => z (p + i)) k = -1) (m : Nat) (hm : k ≤ m) : mkA D z p m = -1 := by
  unfold mkA
  rw [runF_dead D 0 _ h m hm]
  unfold markF
  rw [if_neg (by omega)]
theorem longF_dead {D : Dd} {z : Nat → Nat} {p k r : Nat} (h : runF D 0 (fun i => z (p + i)) k = -1) (hk : 0 < k) (hr : k ≤ r) : longF D z p r = longF D z p (k - 1) := by
  have := longF_skip D z p (k - 1) (r - (k - 1)) (fun j h1 h2 => mkA_dead h j (by omega))
  rwa [show k - 1 + (r - (k - 1)) = r by omega] at this
theorem runF_congr (D : Dd) (st : Int) {z z' : Nat → Nat} {k : Nat} (h : ∀ i, i < k → z i = z' i) : runF D st z k = runF D st z' k := by
  induction k with
  | zero => rfl
  | succ k ih =>
    show stepF D (runF D st z k) (z k) = stepF D (runF D st z' k) (z' k)
    rw [ih (fun i hi => h i (by omega)), h k (by omega)]

/-! ### Tokens one behind the other -/
/-- After k tokens: their marks, places and lengths; where they end. -/
def tkN (D : Dd) (z : Nat → Nat) (m : Nat) : Nat → List (Int × Nat × Nat) × Nat
  | 0 => ([], 0)
  | k + 1 => ((tkN D z m k).1 ++ [((longF D z (tkN D z m k).2 (m - (tkN D z m k).2)).1, (tkN D z m k).2, (longF D z (tkN D z m k).2 (m - (tkN D z m k).2)).2)],
      (tkN D z m k).2 + (longF D z (tkN D z m k).2 (m - (tkN D z m k).2)).2)
theorem tkN_len (D : Dd) (z : Nat → Nat) (m k : Nat) : (tkN D z m k).1.length = k := by
  induction k with
  | zero => rfl
  | succ k ih => simp [tkN, ih]
theorem tkN_end (D : Dd) (z : Nat → Nat) (m k : Nat) : (tkN D z m k).2 ≤ m := by
  induction k with
  | zero => exact Nat.zero_le _
  | succ k ih =>
    have := longF_le D z (tkN D z m k).2 (m - (tkN D z m k).2)
    simp only [tkN]
    omega
/-- No token follows. -/
def StopN (D : Dd) (z : Nat → Nat) (m k : Nat) : Prop := m ≤ (tkN D z m k).2 ∨ (longF D z (tkN D z m k).2 (m - (tkN D z m k).2)).2 = 0
theorem tkN_grows {D : Dd} {z : Nat → Nat} {m k : Nat} (h : ∀ j, j < k → ¬ StopN D z m j) : k ≤ (tkN D z m k).2 := by
  induction k with
  | zero => exact Nat.zero_le _
  | succ k ih =>
    have h1 := ih (fun j hj => h j (by omega))
    have h2 := h k (by omega)
    unfold StopN at h2
    simp only [tkN]
    omega
theorem stopN_uniq {D : Dd} {z : Nat → Nat} {m k k' : Nat} (h : ∀ j, j < k → ¬ StopN D z m j) (s : StopN D z m k) (h' : ∀ j, j < k' → ¬ StopN D z m j) (s' : StopN D z m k') : k = k' := by
  rcases Nat.lt_trichotomy k k' with e | e | e
  · exact absurd s (h' k e)
  · exact e
  · exact absurd s' (h k' e)
end Go.Proofs.Ytldpmcgkbdejjaa

namespace Go.Proofs.Ytldpmcgkbdejjaa
open Go.RowKit Go.Maps Go.WideElems Go.ChangeMaps Go.MapKept
set_option linter.unusedVariables false
set_option linter.unusedSimpArgs false

/-- A store of what lies there already. -/
theorem setCell_same {w : World} {t g i : Nat} {cs : Array Value} {v : Value} (h : St w t g cs) (hv : cs[i]? = some v) : w.setCell ⟨g, i, none⟩ v = w := by
  have h1 : cs.setIfInBounds i v = cs := by
    apply Array.ext_getElem?
    intro j
    obtain ⟨hi, e⟩ := Array.getElem?_eq_some_iff.1 hv
    by_cases hj : i = j
    · subst hj
      rw [Array.getElem?_setIfInBounds_self_of_lt hi, hv]
    · rw [Array.getElem?_setIfInBounds_ne hj]
  have h2 := h.set i v
  rw [h1] at h2
  have h3 : (w.setCell ⟨g, i, none⟩ v).heap = w.heap := by
    apply Array.ext_getElem?
    intro k
    by_cases e : k = g
    · subst e
      exact h2.trans h.symm
    · exact Below.heap_setCell w ⟨g, i, none⟩ v k e
  have h4 : ∀ w' : World, w' = { w with heap := w'.heap } → w'.heap = w.heap → w' = w := by
    intro w' e1 e2
    rw [e1, e2]
  exact h4 _ rfl h3

/-- The cutter: an automaton, a text, nothing remembered. -/
def cutC (cD : Array Value) (s : ByteArray) : Array Value := cD ++ #[.string s, .map none, .slice none 0 0]
theorem cutC_size {cD : Array Value} (h : cD.size = 258) (s : ByteArray) : (cutC cD s).size = 261 := by simp [cutC, h]
theorem cutC_lo {cD : Array Value} (h : cD.size = 258) (s : ByteArray) (j : Nat) (hj : j < 258) : (cutC cD s)[j]? = cD[j]? := by
  unfold cutC
  rw [Array.getElem?_append_left (by omega)]
theorem cutC_s {cD : Array Value} (h : cD.size = 258) (s : ByteArray) : (cutC cD s)[258]? = some (.string s) := by
  unfold cutC
  rw [Array.getElem?_append_right (by omega), h]
  rfl
theorem cutC_m {cD : Array Value} (h : cD.size = 258) (s : ByteArray) : (cutC cD s)[259]? = some (.map none) := by
  unfold cutC
  rw [Array.getElem?_append_right (by omega), h]
  rfl
theorem cutC_p {cD : Array Value} (h : cD.size = 258) (s : ByteArray) : (cutC cD s)[260]? = some (.slice none 0 0) := by
  unfold cutC
  rw [Array.getElem?_append_right (by omega), h]
  rfl
theorem cutC_one {cD : Array Value} (h : ∀ v ∈ cD.toList, v.oneCell' = true) (s : ByteArray) : ∀ v ∈ (cutC cD s).toList, v.oneCell' = true := by
  intro v hv
  unfold cutC at hv
  rw [Array.toList_append, List.mem_append] at hv
  rcases hv with hv | hv
  · exact h v hv
  · simp at hv
    rcases hv with rfl | rfl | rfl <;> rfl
theorem zCut_size : (zC 77).size = 261 := by kernel_rfl
theorem zCut_tail : (zC 77)[259]? = some (.map none) ∧ (zC 77)[260]? = some (.slice none 0 0) := ⟨by kernel_rfl, by kernel_rfl⟩
theorem zCut_run (w : World) : (zeroValue 77).run Try.prog w = .ok (.agg (zC 77)) w := by kernel_rfl
theorem info_cut9 : (Try.prog.info? 77).map (·.size) = some 261 := by kernel_rfl
theorem cut_built (cD : Array Value) (hs : cD.size = 258) (s : ByteArray) (W : World) : (Instr.build 77 #[(0, .agg cD), (1, .string s)]).run Try.prog W = .ok (.agg (cutC cD s)) W := by
  have e : Try.prog.built 77 [(0, .agg cD), (1, .string s)] = Instr.fill (fun i => #[(0, 258), (258, 1), (259, 1), (260, 1)][i]?) (zC 77) [(0, .agg cD), (1, .string s)] := by kernel_rfl
  have hz := zCut_size
  obtain ⟨d1, d2⟩ := zCut_tail
  obtain ⟨p1, p2⟩ := putAt_get (zC 77) cD 0 (by rw [hz]; omega)
  rw [fill_put _ _ 0 0 258 (.agg cD) _ (by rfl) (by show cD.size = 258; exact hs) (by rw [hz]; omega)] at e
  rw [show (Value.agg cD).cells = cD from rfl] at e
  generalize putAt (zC 77) cD 0 = c1 at p1 p2 e
  obtain ⟨q1, q2⟩ := putAt_get c1 #[.string s] 258 (by rw [p1, hz]; simp)
  rw [fill_put _ _ 1 258 1 (.string s) [] (by rfl) (by rfl) (by rw [p1, hz]; omega)] at e
  rw [show (Value.string s).cells = #[.string s] from rfl] at e
  simp only [List.size_toArray, List.length_cons, List.length_nil] at p2 q2
  have e4 : putAt c1 #[.string s] 258 = cutC cD s := by
    apply Array.ext_getElem?
    intro i
    rw [q2]
    by_cases h1 : i < 258
    · rw [if_neg (by omega), p2, if_pos (by omega), cutC_lo hs s i h1]
      rfl
    · rw [p2]
      by_cases h2 : i = 258
      · subst h2
        rw [if_pos (by omega), cutC_s hs]; rfl
      · rw [if_neg (by omega), if_neg (by omega)]
        by_cases h3 : i = 259
        · subst h3; rw [d1, cutC_m hs]
        · by_cases h4 : i = 260
          · subst h4; rw [d2, cutC_p hs]
          · rw [Array.getElem?_eq_none (by rw [hz]; omega), Array.getElem?_eq_none (by rw [cutC_size hs]; omega)]
  rw [e4] at e
  exact run_build W _ _ _ e
/-- The cutter's box. -/
structure CBx (w : World) (b : Nat) (D : Dd) (s : ByteArray) : Prop where
  st : St w 77 b (cutC D.cD s)
  dm : DM w D
theorem CBx.keep {w w' : World} {b : Nat} {D : Dd} {s : ByteArray} (h : CBx w b D s) (k : Below w.heap.size w w') : CBx w' b D s := ⟨h.st.keep k, h.dm.below k⟩
theorem CBx.fs {w : World} {b : Nat} {D : Dd} {s : ByteArray} (h : CBx w b D s) : w.cell? ⟨b, 258, none⟩ = some (.string s) := by rw [h.st.at_, cutC_s h.dm.sz]
theorem CBx.fp {w : World} {b : Nat} {D : Dd} {s : ByteArray} (h : CBx w b D s) : w.cell? ⟨b, 260, none⟩ = some (.slice none 0 0) := by rw [h.st.at_, cutC_p h.dm.sz]
theorem CBx.same {w : World} {b : Nat} {D : Dd} {s : ByteArray} (h : CBx w b D s) : w.setCell ⟨b, 260, none⟩ (.slice none 0 0) = w := setCell_same h.st (cutC_p h.dm.sz s)
theorem CBx.part {w : World} {b : Nat} {D : Dd} {s : ByteArray} (h : CBx w b D s) : ∀ j v, D.cD.toList[j]? = some v → w.cell? ((⟨b, 0, none⟩ : Addr).add j) = some v := fun j v hj => by
  have hl : j < 258 := by
    have := (List.getElem?_eq_some_iff.1 hj).1
    have h2 := h.dm.sz
    have h3 : D.cD.toList.length = D.cD.size := rfl
    omega
  refine h.st.part j v ?_
  rw [Array.getElem?_toList] at hj ⊢
  rw [cutC_lo h.dm.sz s j hl, hj]

set_option maxHeartbeats 1000000 in
set_option maxRecDepth 100000 in
theorem pass_any (b : Nat) (i : Nat) (hi : i < 255) (st : Int) (w : World) :
    Calls Try.prog 56 #[.pointer (some ⟨b, 0, none⟩), .agg #[.int .i64 ((i : Nat) : Int), .int .i64 st]] w fun e w' => e = .returned (.bool true) ∧ Below w.heap.size w w' := by
  have HB := Lib.hid (al w (.cells #[.int .i64 ((i : Nat) : Int), .int .i64 st] 102))
  have h1 : ((i : Nat) : Int) % 256 = i := by omega
  have h2 : ((i : Nat) : Int).tmod 256 = i := by rw [Int.tmod_eq_emod_of_nonneg (by omega)]; omega
  have h3 : (((i : Nat) : Int) != 255) = true := by rw [bne_iff_ne]; omega
  go_enter Try.func56, Try.ntmps56
  go_wp2_with fail
  go_ret
  exact ⟨rfl, HB.out⟩

set_option maxHeartbeats 1000000 in
set_option maxRecDepth 100000 in
theorem remember_any (b : Nat) (D : Dd) (s : ByteArray) (w : World) (hC : CBx w b D s) :
    Calls Try.prog 57 #[.pointer (some ⟨b, 0, none⟩)] w fun e w' => e = .returned (.tuple #[]) ∧ w' = w := by
  have f1 := hC.fp
  have HB := Lib.hid hC
  clear hC
  go_enter Try.func57, Try.ntmps57
  go_wp2_with fail
  go_loopw [26] (fun v wr => v = .int .i64 0 ∧ wr = w) (fun _ _ => 0)
  case atStart => exact ⟨rfl, rfl⟩
  case round =>
    obtain ⟨rfl, rfl⟩ := hrel
    go_wp2_with fail
    go_end0
    exact ⟨rfl, rfl⟩
end Go.Proofs.Ytldpmcgkbdejjaa
