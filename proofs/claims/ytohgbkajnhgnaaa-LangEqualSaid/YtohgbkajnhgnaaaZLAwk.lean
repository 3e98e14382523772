import Derived.Test.YtohgbkajnhgnaaaZLAcc
import Derived.Test.YtohgbkajnhgnaaaZLExT
import Derived.Test.YtohgbkajnhgnaaaZLTnew
import Derived.Test.YtohgbkajnhgnaaaZTLaw
namespace Go.Proofs.Ytohgbkajnhgnaaa
open Go.RowKit Go.Maps Go.WideElems Go.ChangeMaps Go.MapKept
set_option linter.unusedVariables false
set_option linter.unusedSimpArgs false

/-! ### Count and Finite of the example -/
set_option maxHeartbeats 2000000 in
set_option maxRecDepth 100000 in
theorem count_ex (D : Dd) (h : Ex10 D) (hR : DR D 4) (w : World) (hD : DM w D) :
    Calls Try.prog 11 #[.agg D.cD, .int .i64 2, .int .i64 9] w fun e w' => e = .returned (.int .i64 1) ∧ Below w.heap.size w w' := by
  have HR := Lib.hid (And.intro h hR)
  have kb := al w (.cells D.cD 26)
  have HB : Hid (DBx (w.alloc (.cells D.cD 26)) w.heap.size D ∧ Below w.heap.size w (w.alloc (.cells D.cD 26))) := ⟨DBx.new hD, kb⟩
  clear kb h hR hD
  go_enter Try.func11, Try.ntmps11
  go_upto_region 1 with fail
  generalize w.alloc (.cells D.cD 26) = W1 at HB ⊢
  obtain ⟨b0, hb0⟩ : ∃ b0, w.heap.size = b0 := ⟨_, rfl⟩
  have Hb0 := Lib.hid hb0
  rw [hb0] at HB
  rw [hb0]
  clear hb0
  have HRy := Lib.hid (right_yes D 4 HR.out.2 W1 HB.out.1.dm)
  go_wp2_with (refine wpList_load_any9 (by rfl) 26 _ rfl ⟨b0, 0, none⟩ rfl D.cD _ HB.out.1.st.part Try.underlying26 rfl HB.out.1.dm.info ?_)
  refine HRy.out.mono ?_
  rintro e w2 ⟨rfl, k2⟩
  have H2 : Hid (DBx w2 b0 D ∧ Below b0 w w2 ∧ b0 ≤ w2.heap.size) := ⟨HB.out.1.keep k2, HB.out.2.trans (k2.mono (by have := HB.out.2.size; have := Hb0.out; omega)), by have := HB.out.2.size; have := Hb0.out; have := k2.size; omega⟩
  clear HRy k2 HB
  have HTr := Lib.hid (trim_any D 4 w2 H2.out.1.dm HR.out.2)
  go_wp2_with (refine wpList_load_any9 (by rfl) 26 _ rfl ⟨b0, 0, none⟩ rfl D.cD _ H2.out.1.st.part Try.underlying26 rfl H2.out.1.dm.info ?_)
  refine HTr.out.mono ?_
  rintro e w3 ⟨D1, rfl, hd1, q1, q2, q3, q4, q5, q6, k3, _⟩
  have hF : DfF D 4 D.n (trF D) D.q D1 := ⟨q1, q2, q3, q4, q5, q6⟩
  have H3 : Hid (Ex10 D1 ∧ DR D1 4 ∧ DM w3 D1 ∧ Below b0 w w3 ∧ b0 ≤ w3.heap.size) := ⟨HR.out.1.trim HR.out.2 hF, hF.trim_right HR.out.2, hd1, H2.out.2.1.trans (k3.mono H2.out.2.2), Nat.le_trans H2.out.2.2 k3.size⟩
  clear hF q1 q2 q3 q4 q5 q6 hd1 k3 HTr H2
  have HNt := Lib.hid (newTally_ex D1 H3.out.1 H3.out.2.1 w3 H3.out.2.2.1)
  go_wp2_with fail
  refine HNt.out.mono ?_
  rintro e w4 ⟨bt, cs, gz, gc, gh, gs, rfl, hC, hT⟩
  have H4 := Lib.hid (And.intro hC hT)
  clear hC hT HNt
  have HAv := Lib.hid (advance_ex D1 H3.out.1 H3.out.2.1 w3 H3.out.2.2.1 bt cs gz gc gh gs H4.out.1 w4 H4.out.2)
  go_wp2_with fail
  refine HAv.out.mono ?_
  rintro e w5 ⟨rfl, hT⟩
  have H5 := Lib.hid hT
  clear hT HAv
  have HAc := Lib.hid (accepted_ex D1 H3.out.1 H3.out.2.1 w3 H3.out.2.2.1 bt cs gz gc gh gs H4.out.1 _ _ w5 H5.out)
  go_wp2_with fail
  refine HAc.out.mono ?_
  rintro e w6 ⟨rfl, k6⟩
  have HF : Hid (Below w.heap.size w w6) := by
    have h1 := H5.out.bel
    have h2 := h1.size
    have h3 := H3.out.2.2.2.2
    rw [Hb0.out]
    exact (H3.out.2.2.2.1.trans (h1.mono h3)).trans (k6.mono (by omega))
  clear HAc k6
  go_wp2_with fail
  go_ret
  exact ⟨rfl, HF.out⟩

set_option maxHeartbeats 2000000 in
set_option maxRecDepth 100000 in
theorem finite_ex (D : Dd) (h : Ex10 D) (hR : DR D 4) (w : World) (hD : DM w D) :
    Calls Try.prog 12 #[.agg D.cD] w fun e w' => e = .returned (.bool true) ∧ Below w.heap.size w w' := by
  have HR := Lib.hid (And.intro h hR)
  have kb := al w (.cells D.cD 26)
  have HB : Hid (DBx (w.alloc (.cells D.cD 26)) w.heap.size D ∧ Below w.heap.size w (w.alloc (.cells D.cD 26))) := ⟨DBx.new hD, kb⟩
  clear kb h hR hD
  go_enter Try.func12, Try.ntmps12
  go_upto_region 1 with fail
  generalize w.alloc (.cells D.cD 26) = W1 at HB ⊢
  obtain ⟨b0, hb0⟩ : ∃ b0, w.heap.size = b0 := ⟨_, rfl⟩
  have Hb0 := Lib.hid hb0
  rw [hb0] at HB
  rw [hb0]
  clear hb0
  have HRy := Lib.hid (right_yes D 4 HR.out.2 W1 HB.out.1.dm)
  go_wp2_with (refine wpList_load_any9 (by rfl) 26 _ rfl ⟨b0, 0, none⟩ rfl D.cD _ HB.out.1.st.part Try.underlying26 rfl HB.out.1.dm.info ?_)
  refine HRy.out.mono ?_
  rintro e w2 ⟨rfl, k2⟩
  have H2 : Hid (DBx w2 b0 D ∧ Below b0 w w2 ∧ b0 ≤ w2.heap.size) := ⟨HB.out.1.keep k2, HB.out.2.trans (k2.mono (by have := HB.out.2.size; have := Hb0.out; omega)), by have := HB.out.2.size; have := Hb0.out; have := k2.size; omega⟩
  clear HRy k2 HB
  have HTr := Lib.hid (trim_any D 4 w2 H2.out.1.dm HR.out.2)
  go_wp2_with (refine wpList_load_any9 (by rfl) 26 _ rfl ⟨b0, 0, none⟩ rfl D.cD _ H2.out.1.st.part Try.underlying26 rfl H2.out.1.dm.info ?_)
  refine HTr.out.mono ?_
  rintro e w3 ⟨D1, rfl, hd1, q1, q2, q3, q4, q5, q6, k3, _⟩
  have hF : DfF D 4 D.n (trF D) D.q D1 := ⟨q1, q2, q3, q4, q5, q6⟩
  have H3 : Hid (Ex10 D1 ∧ DR D1 4 ∧ DM w3 D1 ∧ Below b0 w w3 ∧ b0 ≤ w3.heap.size) := ⟨HR.out.1.trim HR.out.2 hF, hF.trim_right HR.out.2, hd1, H2.out.2.1.trans (k3.mono H2.out.2.2), Nat.le_trans H2.out.2.2 k3.size⟩
  clear hF q1 q2 q3 q4 q5 q6 hd1 k3 HTr H2
  obtain ⟨k, hk, hkn⟩ := wk_ends H3.out.2.1
  have HK := Lib.hid hk
  have HOr := Lib.hid (order_any D1 4 _ k rfl hk hkn w3 H3.out.2.2.1 H3.out.2.1)
  clear hk hkn
  go_wp2_with fail
  refine HOr.out.mono ?_
  rintro e w4 ⟨D2, rfl, hd1, q1, q2, q3, q4, q5, q6, k4, _⟩
  have hF : DfF D1 4 k (ordF D1 (wkN (rowsF D1.len D1.nx) [0] k)) (fun i => D1.q ((wkN (rowsF D1.len D1.nx) [0] k).getD i 0)) D2 := ⟨q1, q2, q3, q4, q5, q6⟩
  have hkn := ((H3.out.1).wk H3.out.2.1 HK.out).1
  have H4 : Hid (Ex10 D2 ∧ DR D2 4 ∧ DM w4 D2 ∧ Below b0 w w4 ∧ b0 ≤ w4.heap.size) := ⟨H3.out.1.order H3.out.2.1 HK.out hF, hF.ord_right H3.out.2.1 HK.out (by have := H3.out.1.n; omega), hd1, H3.out.2.2.2.1.trans (k4.mono H3.out.2.2.2.2), Nat.le_trans H3.out.2.2.2.2 k4.size⟩
  clear hF q1 q2 q3 q4 q5 q6 hd1 k4 HOr hkn
  have HCi := Lib.hid (circ_ex D2 H4.out.1 H4.out.2.1 w4 H4.out.2.2.1)
  go_wp2_with fail
  refine HCi.out.mono ?_
  rintro e w5 ⟨rfl, k5⟩
  have HF : Hid (Below w.heap.size w w5) := by
    rw [Hb0.out]
    exact H4.out.2.2.2.1.trans (k5.mono H4.out.2.2.2.2)
  clear HCi k5
  go_wp2_with fail
  go_ret
  exact ⟨rfl, HF.out⟩
end Go.Proofs.Ytohgbkajnhgnaaa

namespace Go.Proofs.Ytohgbkajnhgnaaa
open Go.RowKit Go.Maps Go.WideElems Go.ChangeMaps Go.MapKept
set_option linter.unusedVariables false
set_option linter.unusedSimpArgs false

/-! ### The example of law 10 is made -/
noncomputable def exC1 : Array Value := (((zC 26).setIfInBounds 97 (.int .u8 1)).setIfInBounds 98 (.int .u8 2)).setIfInBounds 99 (.int .u8 3)
noncomputable def exCs (n0 m0 : Nat) : Array Value := (exC1.setIfInBounds 256 (.slice (some ⟨n0 + 1 + 1 + 1, 0, none⟩) 3 3)).setIfInBounds 257 (.slice (some ⟨m0, 0, none⟩) 3 3)
theorem exC1_size : exC1.size = 258 := by unfold exC1; simp [zDfa_size]
theorem exCs_size (n0 m0 : Nat) : (exCs n0 m0).size = 258 := by unfold exCs; simp [exC1_size]
theorem exC1_cl (j : Nat) (hj : j < 256) : exC1[j]? = some (.int .u8 ((exK10 j : Nat) : Int)) := by
  unfold exC1 exK10
  have hz := zDfa_size
  by_cases e1 : j = 97
  · subst e1
    rw [Array.getElem?_setIfInBounds_ne (by omega), Array.getElem?_setIfInBounds_ne (by omega), Array.getElem?_setIfInBounds_self_of_lt (by rw [hz]; omega)]
    rfl
  · by_cases e2 : j = 98
    · subst e2
      rw [Array.getElem?_setIfInBounds_ne (by omega), Array.getElem?_setIfInBounds_self_of_lt (by simp [hz])]
      rfl
    · by_cases e3 : j = 99
      · subst e3
        rw [Array.getElem?_setIfInBounds_self_of_lt (by simp [hz])]
        rfl
      · rw [Array.getElem?_setIfInBounds_ne (by omega), Array.getElem?_setIfInBounds_ne (by omega), Array.getElem?_setIfInBounds_ne (by omega), zDfa_cls10 j hj, if_neg e1, if_neg e2, if_neg e3]
        rfl
theorem exCs_cl (n0 m0 j : Nat) (hj : j < 256) : (exCs n0 m0)[j]? = some (.int .u8 ((exK10 j : Nat) : Int)) := by
  unfold exCs
  rw [Array.getElem?_setIfInBounds_ne (by omega), Array.getElem?_setIfInBounds_ne (by omega), exC1_cl j hj]
theorem exCs_n (n0 m0 : Nat) : (exCs n0 m0)[256]? = some (.slice (some ⟨n0 + 1 + 1 + 1, 0, none⟩) 3 3) := by
  unfold exCs
  rw [Array.getElem?_setIfInBounds_ne (by omega), Array.getElem?_setIfInBounds_self_of_lt (by rw [exC1_size]; omega)]
theorem exCs_m (n0 m0 : Nat) : (exCs n0 m0)[257]? = some (.slice (some ⟨m0, 0, none⟩) 3 3) := by
  unfold exCs
  rw [Array.getElem?_setIfInBounds_self_of_lt (by simp [exC1_size])]
noncomputable def exD (n0 m0 : Nat) : Dd := ⟨exCs n0 m0, exK10, some ⟨n0 + 1 + 1 + 1, 0, none⟩, 3, 3, fun i => some ⟨n0 + i, 0, none⟩, fun _ => 4, fun _ => 4, exN10, some ⟨m0, 0, none⟩, 3, 3, fun i => if i = 1 then 5 else -1⟩
theorem exD_ex (n0 m0 : Nat) : Ex10 (exD n0 m0) := ⟨fun _ _ => rfl, rfl, fun _ _ _ _ => rfl, fun _ _ => rfl⟩
theorem exN10_lo : ∀ i, i < 3 → ∀ c, c < 4 → -1 ≤ exN10 i c ∧ exN10 i c < 3 := by decide
theorem exQ_lo : ∀ i, i < 3 → -1 ≤ (if i = 1 then (5 : Int) else -1) ∧ (if i = 1 then (5 : Int) else -1) < 32768 := by decide
theorem exD_dr (n0 m0 : Nat) : DR (exD n0 m0) 4 := by
  refine ⟨(exD_ex n0 m0).isC, by show 1 ≤ 3; omega, by show 3 ≤ 32768; omega, rfl, fun c hc => ?_, fun i _ => rfl, fun i hi => exQ_lo i hi, fun i c hi hc => exN10_lo i hi c hc⟩
  match c, hc with
  | 0, _ => exact ⟨0, by omega, rfl⟩
  | 1, _ => exact ⟨97, by omega, rfl⟩
  | 2, _ => exact ⟨98, by omega, rfl⟩
  | 3, _ => exact ⟨99, by omega, rfl⟩
theorem exCs_one (n0 m0 : Nat) : ∀ v ∈ (exCs n0 m0).toList, v.oneCell' = true := by
  intro v hv
  obtain ⟨j, hj, rfl⟩ := List.getElem_of_mem hv
  have hs := exCs_size n0 m0
  have hj' : j < 258 := by simpa [hs] using hj
  simp only [Array.getElem_toList]
  by_cases h1 : j < 256
  · have := exCs_cl n0 m0 j h1
    rw [Array.getElem?_eq_getElem (by omega)] at this
    rw [Option.some.inj this]
    rfl
  · by_cases h2 : j = 256
    · subst h2
      have := exCs_n n0 m0
      rw [Array.getElem?_eq_getElem (by omega)] at this
      rw [Option.some.inj this]
      rfl
    · obtain rfl : j = 257 := by omega
      have := exCs_m n0 m0
      rw [Array.getElem?_eq_getElem (by omega)] at this
      rw [Option.some.inj this]
      rfl
set_option maxRecDepth 100000 in
theorem row_cell9 (w : World) (g : Nat) (a b c d : Int) (h : St w 3 g #[.int .i64 a, .int .i64 b, .int .i64 c, .int .i64 d]) : ∀ j, j < 4 → w.cell? ⟨g, 0 + j, none⟩ = some (.int .i64 (if j = 0 then a else if j = 1 then b else if j = 2 then c else d)) := by
  intro j hj
  rw [Nat.zero_add]
  match j, hj with
  | 0, _ => exact h.at_ 0
  | 1, _ => exact h.at_ 1
  | 2, _ => exact h.at_ 2
  | 3, _ => exact h.at_ 3
set_option maxRecDepth 100000 in
theorem exD_dm {w : World} {n0 m0 : Nat} (h0 : St w 3 n0 #[.int .i64 (-1), .int .i64 1, .int .i64 2, .int .i64 (-1)]) (h1 : St w 3 (n0 + 1) #[.int .i64 (-1), .int .i64 (-1), .int .i64 (-1), .int .i64 (-1)]) (h2 : St w 3 (n0 + 1 + 1) #[.int .i64 (-1), .int .i64 (-1), .int .i64 (-1), .int .i64 1])
    (h3 : St w 24 (n0 + 1 + 1 + 1) #[.slice (some ⟨n0, 0, none⟩) 4 4, .slice (some ⟨n0 + 1, 0, none⟩) 4 4, .slice (some ⟨n0 + 1 + 1, 0, none⟩) 4 4]) (h4 : St w 3 m0 #[.int .i64 (-1), .int .i64 5, .int .i64 (-1)]) : DM w (exD n0 m0) := by
  refine ⟨exCs_size n0 m0, exCs_one n0 m0, fun j hj => exCs_cl n0 m0 j hj, fun j _ => by have := exK10_lt j; show exK10 j < 256; omega, exCs_n n0 m0, exCs_m n0 m0, fun _ => ⟨n0 + 1 + 1 + 1, 0, rfl, h3.lt, fun i hi => ?_⟩, fun _ => ⟨m0, 0, rfl, h4.lt, fun j hj => ?_⟩⟩
  · match i, hi with
    | 0, _ => exact ⟨h3.at_ 0, fun _ => ⟨n0, 0, rfl, h0.lt, fun j hj => by rw [row_cell9 w _ _ _ _ _ h0 j hj]; match j, hj with | 0, _ => rfl | 1, _ => rfl | 2, _ => rfl | 3, _ => rfl⟩⟩
    | 1, _ => exact ⟨h3.at_ 1, fun _ => ⟨n0 + 1, 0, rfl, h1.lt, fun j hj => by rw [row_cell9 w _ _ _ _ _ h1 j hj]; match j, hj with | 0, _ => rfl | 1, _ => rfl | 2, _ => rfl | 3, _ => rfl⟩⟩
    | 2, _ => exact ⟨h3.at_ 2, fun _ => ⟨n0 + 1 + 1, 0, rfl, h2.lt, fun j hj => by rw [row_cell9 w _ _ _ _ _ h2 j hj]; match j, hj with | 0, _ => rfl | 1, _ => rfl | 2, _ => rfl | 3, _ => rfl⟩⟩
  · match j, hj with
    | 0, _ => exact h4.at_ 0
    | 1, _ => exact h4.at_ 1
    | 2, _ => exact h4.at_ 2
set_option maxHeartbeats 4000000 in
set_option maxRecDepth 100000 in
theorem awake10_any (w : World) : Calls Try.prog 4 #[] w fun e w' => e = .returned (.bool true) ∧ Below w.heap.size w w' := by
  have HB := Lib.hid (And.intro (al w (.cells (zC 26) 26)) (St.new w 26 (zC 26)))
  go_enter Try.func4, Try.ntmps4
  go_upto_region 2 with (refine wpList_alloc9 rfl 26 rfl (zC 26) (zero_run9 _) ?_)
  try simp only [Act.put, List.setIfInBounds_toArray, List.set_cons_zero, List.set_cons_succ]
  generalize w.alloc (.cells (zC 26) 26) = W1 at HB ⊢
  obtain ⟨g, hg⟩ : ∃ g, w.heap.size = g := ⟨_, rfl⟩
  have Hg := Lib.hid hg
  rw [hg] at HB
  rw [hg]
  clear hg
  have z0 := HB.out.2.thaw_ 97
  have z1 := HB.out.2.thaw_ 98
  have z2 := HB.out.2.thaw_ 99
  have y0 : W1.cell? ⟨g, 97, none⟩ = some (.int .u8 0) := by rw [HB.out.2.at_]; exact zDfa_cls10 97 (by omega)
  have y1 : W1.cell? ⟨g, 98, none⟩ = some (.int .u8 0) := by rw [HB.out.2.at_]; exact zDfa_cls10 98 (by omega)
  have y2 : W1.cell? ⟨g, 99, none⟩ = some (.int .u8 0) := by rw [HB.out.2.at_]; exact zDfa_cls10 99 (by omega)
  go_upto_region 3 with fail
  have H2 : Hid (St (((W1.setCell ⟨g, 97, none⟩ (.int .u8 1)).setCell ⟨g, 98, none⟩ (.int .u8 2)).setCell ⟨g, 99, none⟩ (.int .u8 3)) 26 g exC1 ∧ Below g w (((W1.setCell ⟨g, 97, none⟩ (.int .u8 1)).setCell ⟨g, 98, none⟩ (.int .u8 2)).setCell ⟨g, 99, none⟩ (.int .u8 3))) :=
    ⟨((HB.out.2.set 97 _).set 98 _).set 99 _, ((HB.out.1.setCell (p := ⟨g, 97, none⟩) (Nat.le_refl _) _).setCell (p := ⟨g, 98, none⟩) (Nat.le_refl _) _).setCell (p := ⟨g, 99, none⟩) (Nat.le_refl _) _⟩
  generalize ((W1.setCell ⟨g, 97, none⟩ (.int .u8 1)).setCell ⟨g, 98, none⟩ (.int .u8 2)).setCell ⟨g, 99, none⟩ (.int .u8 3) = W2 at H2 ⊢
  clear z0 z1 z2 y0 y1 y2
  have k0 := al W2 (.cells #[.int .i64 (-1), .int .i64 1, .int .i64 2, .int .i64 (-1)] 3)
  have k1 := al (W2.alloc (.cells #[.int .i64 (-1), .int .i64 1, .int .i64 2, .int .i64 (-1)] 3)) (.cells #[.int .i64 (-1), .int .i64 (-1), .int .i64 (-1), .int .i64 (-1)] 3)
  have k2 := al ((W2.alloc (.cells #[.int .i64 (-1), .int .i64 1, .int .i64 2, .int .i64 (-1)] 3)).alloc (.cells #[.int .i64 (-1), .int .i64 (-1), .int .i64 (-1), .int .i64 (-1)] 3)) (.cells #[.int .i64 (-1), .int .i64 (-1), .int .i64 (-1), .int .i64 1] 3)
  have k3 := al (((W2.alloc (.cells #[.int .i64 (-1), .int .i64 1, .int .i64 2, .int .i64 (-1)] 3)).alloc (.cells #[.int .i64 (-1), .int .i64 (-1), .int .i64 (-1), .int .i64 (-1)] 3)).alloc (.cells #[.int .i64 (-1), .int .i64 (-1), .int .i64 (-1), .int .i64 1] 3)) (.cells #[.slice (some ⟨W2.heap.size, 0, none⟩) 4 4, .slice (some ⟨W2.heap.size + 1, 0, none⟩) 4 4, .slice (some ⟨W2.heap.size + 1 + 1, 0, none⟩) 4 4] 24)
  have s0 : St ((((W2.alloc (.cells #[.int .i64 (-1), .int .i64 1, .int .i64 2, .int .i64 (-1)] 3)).alloc (.cells #[.int .i64 (-1), .int .i64 (-1), .int .i64 (-1), .int .i64 (-1)] 3)).alloc (.cells #[.int .i64 (-1), .int .i64 (-1), .int .i64 (-1), .int .i64 1] 3)).alloc (.cells #[.slice (some ⟨W2.heap.size, 0, none⟩) 4 4, .slice (some ⟨W2.heap.size + 1, 0, none⟩) 4 4, .slice (some ⟨W2.heap.size + 1 + 1, 0, none⟩) 4 4] 24)) 3 W2.heap.size #[.int .i64 (-1), .int .i64 1, .int .i64 2, .int .i64 (-1)] := (((St.new W2 _ _).keep k1).keep k2).keep k3
  have s1 : St ((((W2.alloc (.cells #[.int .i64 (-1), .int .i64 1, .int .i64 2, .int .i64 (-1)] 3)).alloc (.cells #[.int .i64 (-1), .int .i64 (-1), .int .i64 (-1), .int .i64 (-1)] 3)).alloc (.cells #[.int .i64 (-1), .int .i64 (-1), .int .i64 (-1), .int .i64 1] 3)).alloc (.cells #[.slice (some ⟨W2.heap.size, 0, none⟩) 4 4, .slice (some ⟨W2.heap.size + 1, 0, none⟩) 4 4, .slice (some ⟨W2.heap.size + 1 + 1, 0, none⟩) 4 4] 24)) 3 (W2.heap.size + 1) #[.int .i64 (-1), .int .i64 (-1), .int .i64 (-1), .int .i64 (-1)] := by
    have := ((St.new (W2.alloc (.cells #[.int .i64 (-1), .int .i64 1, .int .i64 2, .int .i64 (-1)] 3)) 3 #[.int .i64 (-1), .int .i64 (-1), .int .i64 (-1), .int .i64 (-1)]).keep k2).keep k3
    simpa using this
  have s2 : St ((((W2.alloc (.cells #[.int .i64 (-1), .int .i64 1, .int .i64 2, .int .i64 (-1)] 3)).alloc (.cells #[.int .i64 (-1), .int .i64 (-1), .int .i64 (-1), .int .i64 (-1)] 3)).alloc (.cells #[.int .i64 (-1), .int .i64 (-1), .int .i64 (-1), .int .i64 1] 3)).alloc (.cells #[.slice (some ⟨W2.heap.size, 0, none⟩) 4 4, .slice (some ⟨W2.heap.size + 1, 0, none⟩) 4 4, .slice (some ⟨W2.heap.size + 1 + 1, 0, none⟩) 4 4] 24)) 3 (W2.heap.size + 1 + 1) #[.int .i64 (-1), .int .i64 (-1), .int .i64 (-1), .int .i64 1] := by
    have := (St.new ((W2.alloc (.cells #[.int .i64 (-1), .int .i64 1, .int .i64 2, .int .i64 (-1)] 3)).alloc (.cells #[.int .i64 (-1), .int .i64 (-1), .int .i64 (-1), .int .i64 (-1)] 3)) 3 #[.int .i64 (-1), .int .i64 (-1), .int .i64 (-1), .int .i64 1]).keep k3
    simpa using this
  have s3 : St ((((W2.alloc (.cells #[.int .i64 (-1), .int .i64 1, .int .i64 2, .int .i64 (-1)] 3)).alloc (.cells #[.int .i64 (-1), .int .i64 (-1), .int .i64 (-1), .int .i64 (-1)] 3)).alloc (.cells #[.int .i64 (-1), .int .i64 (-1), .int .i64 (-1), .int .i64 1] 3)).alloc (.cells #[.slice (some ⟨W2.heap.size, 0, none⟩) 4 4, .slice (some ⟨W2.heap.size + 1, 0, none⟩) 4 4, .slice (some ⟨W2.heap.size + 1 + 1, 0, none⟩) 4 4] 24)) 24 (W2.heap.size + 1 + 1 + 1) #[.slice (some ⟨W2.heap.size, 0, none⟩) 4 4, .slice (some ⟨W2.heap.size + 1, 0, none⟩) 4 4, .slice (some ⟨W2.heap.size + 1 + 1, 0, none⟩) 4 4] := by
    have := St.new (((W2.alloc (.cells #[.int .i64 (-1), .int .i64 1, .int .i64 2, .int .i64 (-1)] 3)).alloc (.cells #[.int .i64 (-1), .int .i64 (-1), .int .i64 (-1), .int .i64 (-1)] 3)).alloc (.cells #[.int .i64 (-1), .int .i64 (-1), .int .i64 (-1), .int .i64 1] 3)) 24 #[.slice (some ⟨W2.heap.size, 0, none⟩) 4 4, .slice (some ⟨W2.heap.size + 1, 0, none⟩) 4 4, .slice (some ⟨W2.heap.size + 1 + 1, 0, none⟩) 4 4]
    simpa using this
  have s4 : St ((((W2.alloc (.cells #[.int .i64 (-1), .int .i64 1, .int .i64 2, .int .i64 (-1)] 3)).alloc (.cells #[.int .i64 (-1), .int .i64 (-1), .int .i64 (-1), .int .i64 (-1)] 3)).alloc (.cells #[.int .i64 (-1), .int .i64 (-1), .int .i64 (-1), .int .i64 1] 3)).alloc (.cells #[.slice (some ⟨W2.heap.size, 0, none⟩) 4 4, .slice (some ⟨W2.heap.size + 1, 0, none⟩) 4 4, .slice (some ⟨W2.heap.size + 1 + 1, 0, none⟩) 4 4] 24)) 26 g exC1 := (((H2.out.1.keep k0).keep k1).keep k2).keep k3
  have hB : Below W2.heap.size W2 ((((W2.alloc (.cells #[.int .i64 (-1), .int .i64 1, .int .i64 2, .int .i64 (-1)] 3)).alloc (.cells #[.int .i64 (-1), .int .i64 (-1), .int .i64 (-1), .int .i64 (-1)] 3)).alloc (.cells #[.int .i64 (-1), .int .i64 (-1), .int .i64 (-1), .int .i64 1] 3)).alloc (.cells #[.slice (some ⟨W2.heap.size, 0, none⟩) 4 4, .slice (some ⟨W2.heap.size + 1, 0, none⟩) 4 4, .slice (some ⟨W2.heap.size + 1 + 1, 0, none⟩) 4 4] 24)) := k0.trans ((k1.trans ((k2.trans (k3.mono k2.size)).mono k1.size)).mono k0.size)
  have x0 := s4.thaw_ 256
  have x1 : ((((W2.alloc (.cells #[.int .i64 (-1), .int .i64 1, .int .i64 2, .int .i64 (-1)] 3)).alloc (.cells #[.int .i64 (-1), .int .i64 (-1), .int .i64 (-1), .int .i64 (-1)] 3)).alloc (.cells #[.int .i64 (-1), .int .i64 (-1), .int .i64 (-1), .int .i64 1] 3)).alloc (.cells #[.slice (some ⟨W2.heap.size, 0, none⟩) 4 4, .slice (some ⟨W2.heap.size + 1, 0, none⟩) 4 4, .slice (some ⟨W2.heap.size + 1 + 1, 0, none⟩) 4 4] 24)).cell? ⟨g, 256, none⟩ = some (.slice none 0 0) := by
    rw [s4.at_]
    unfold exC1
    rw [Array.getElem?_setIfInBounds_ne (by omega), Array.getElem?_setIfInBounds_ne (by omega), Array.getElem?_setIfInBounds_ne (by omega)]
    exact zDfa_tail.1
  have HS := Lib.hid (And.intro s0 (And.intro s1 (And.intro s2 (And.intro s3 (And.intro s4 hB)))))
  clear s0 s1 s2 s3 s4 hB k0 k1 k2 k3
  go_upto_region 4 with fail
  have hgl : g < W2.heap.size := H2.out.1.lt
  have H5 : Hid (St (((((W2.alloc (.cells #[.int .i64 (-1), .int .i64 1, .int .i64 2, .int .i64 (-1)] 3)).alloc (.cells #[.int .i64 (-1), .int .i64 (-1), .int .i64 (-1), .int .i64 (-1)] 3)).alloc (.cells #[.int .i64 (-1), .int .i64 (-1), .int .i64 (-1), .int .i64 1] 3)).alloc (.cells #[.slice (some ⟨W2.heap.size, 0, none⟩) 4 4, .slice (some ⟨W2.heap.size + 1, 0, none⟩) 4 4, .slice (some ⟨W2.heap.size + 1 + 1, 0, none⟩) 4 4] 24)).setCell ⟨g, 256, none⟩ (.slice (some ⟨W2.heap.size + 1 + 1 + 1, 0, none⟩) 3 3)) 3 W2.heap.size #[.int .i64 (-1), .int .i64 1, .int .i64 2, .int .i64 (-1)] ∧ St (((((W2.alloc (.cells #[.int .i64 (-1), .int .i64 1, .int .i64 2, .int .i64 (-1)] 3)).alloc (.cells #[.int .i64 (-1), .int .i64 (-1), .int .i64 (-1), .int .i64 (-1)] 3)).alloc (.cells #[.int .i64 (-1), .int .i64 (-1), .int .i64 (-1), .int .i64 1] 3)).alloc (.cells #[.slice (some ⟨W2.heap.size, 0, none⟩) 4 4, .slice (some ⟨W2.heap.size + 1, 0, none⟩) 4 4, .slice (some ⟨W2.heap.size + 1 + 1, 0, none⟩) 4 4] 24)).setCell ⟨g, 256, none⟩ (.slice (some ⟨W2.heap.size + 1 + 1 + 1, 0, none⟩) 3 3)) 3 (W2.heap.size + 1) #[.int .i64 (-1), .int .i64 (-1), .int .i64 (-1), .int .i64 (-1)] ∧ St (((((W2.alloc (.cells #[.int .i64 (-1), .int .i64 1, .int .i64 2, .int .i64 (-1)] 3)).alloc (.cells #[.int .i64 (-1), .int .i64 (-1), .int .i64 (-1), .int .i64 (-1)] 3)).alloc (.cells #[.int .i64 (-1), .int .i64 (-1), .int .i64 (-1), .int .i64 1] 3)).alloc (.cells #[.slice (some ⟨W2.heap.size, 0, none⟩) 4 4, .slice (some ⟨W2.heap.size + 1, 0, none⟩) 4 4, .slice (some ⟨W2.heap.size + 1 + 1, 0, none⟩) 4 4] 24)).setCell ⟨g, 256, none⟩ (.slice (some ⟨W2.heap.size + 1 + 1 + 1, 0, none⟩) 3 3)) 3 (W2.heap.size + 1 + 1) #[.int .i64 (-1), .int .i64 (-1), .int .i64 (-1), .int .i64 1] ∧
      St (((((W2.alloc (.cells #[.int .i64 (-1), .int .i64 1, .int .i64 2, .int .i64 (-1)] 3)).alloc (.cells #[.int .i64 (-1), .int .i64 (-1), .int .i64 (-1), .int .i64 (-1)] 3)).alloc (.cells #[.int .i64 (-1), .int .i64 (-1), .int .i64 (-1), .int .i64 1] 3)).alloc (.cells #[.slice (some ⟨W2.heap.size, 0, none⟩) 4 4, .slice (some ⟨W2.heap.size + 1, 0, none⟩) 4 4, .slice (some ⟨W2.heap.size + 1 + 1, 0, none⟩) 4 4] 24)).setCell ⟨g, 256, none⟩ (.slice (some ⟨W2.heap.size + 1 + 1 + 1, 0, none⟩) 3 3)) 24 (W2.heap.size + 1 + 1 + 1) #[.slice (some ⟨W2.heap.size, 0, none⟩) 4 4, .slice (some ⟨W2.heap.size + 1, 0, none⟩) 4 4, .slice (some ⟨W2.heap.size + 1 + 1, 0, none⟩) 4 4] ∧ St (((((W2.alloc (.cells #[.int .i64 (-1), .int .i64 1, .int .i64 2, .int .i64 (-1)] 3)).alloc (.cells #[.int .i64 (-1), .int .i64 (-1), .int .i64 (-1), .int .i64 (-1)] 3)).alloc (.cells #[.int .i64 (-1), .int .i64 (-1), .int .i64 (-1), .int .i64 1] 3)).alloc (.cells #[.slice (some ⟨W2.heap.size, 0, none⟩) 4 4, .slice (some ⟨W2.heap.size + 1, 0, none⟩) 4 4, .slice (some ⟨W2.heap.size + 1 + 1, 0, none⟩) 4 4] 24)).setCell ⟨g, 256, none⟩ (.slice (some ⟨W2.heap.size + 1 + 1 + 1, 0, none⟩) 3 3)) 26 g (exC1.setIfInBounds 256 (.slice (some ⟨W2.heap.size + 1 + 1 + 1, 0, none⟩) 3 3)) ∧ Below g w (((((W2.alloc (.cells #[.int .i64 (-1), .int .i64 1, .int .i64 2, .int .i64 (-1)] 3)).alloc (.cells #[.int .i64 (-1), .int .i64 (-1), .int .i64 (-1), .int .i64 (-1)] 3)).alloc (.cells #[.int .i64 (-1), .int .i64 (-1), .int .i64 (-1), .int .i64 1] 3)).alloc (.cells #[.slice (some ⟨W2.heap.size, 0, none⟩) 4 4, .slice (some ⟨W2.heap.size + 1, 0, none⟩) 4 4, .slice (some ⟨W2.heap.size + 1 + 1, 0, none⟩) 4 4] 24)).setCell ⟨g, 256, none⟩ (.slice (some ⟨W2.heap.size + 1 + 1 + 1, 0, none⟩) 3 3))) :=
    ⟨HS.out.1.far (p := ⟨g, 256, none⟩) (by show _ ≠ g; omega) _, HS.out.2.1.far (p := ⟨g, 256, none⟩) (by show _ ≠ g; omega) _, HS.out.2.2.1.far (p := ⟨g, 256, none⟩) (by show _ ≠ g; omega) _, HS.out.2.2.2.1.far (p := ⟨g, 256, none⟩) (by show _ ≠ g; omega) _, HS.out.2.2.2.2.1.set 256 _, (H2.out.2.trans (HS.out.2.2.2.2.2.mono (by omega))).setCell (p := ⟨g, 256, none⟩) (Nat.le_refl _) _⟩
  clear HS x0 x1 HB
  obtain ⟨W5, hW5⟩ : ∃ W5, ((((W2.alloc (.cells #[.int .i64 (-1), .int .i64 1, .int .i64 2, .int .i64 (-1)] 3)).alloc (.cells #[.int .i64 (-1), .int .i64 (-1), .int .i64 (-1), .int .i64 (-1)] 3)).alloc (.cells #[.int .i64 (-1), .int .i64 (-1), .int .i64 (-1), .int .i64 1] 3)).alloc (.cells #[.slice (some ⟨W2.heap.size, 0, none⟩) 4 4, .slice (some ⟨W2.heap.size + 1, 0, none⟩) 4 4, .slice (some ⟨W2.heap.size + 1 + 1, 0, none⟩) 4 4] 24)).setCell ⟨g, 256, none⟩ (.slice (some ⟨W2.heap.size + 1 + 1 + 1, 0, none⟩) 3 3) = W5 := ⟨_, rfl⟩
  rw [hW5] at H5
  rw [hW5]
  clear hW5
  obtain ⟨n0, hn0⟩ : ∃ n0, W2.heap.size = n0 := ⟨_, rfl⟩
  rw [hn0] at H5 hgl
  try rw [hn0]
  clear hn0 H2
  have k4 := al W5 (.cells #[.int .i64 (-1), .int .i64 5, .int .i64 (-1)] 3)
  have s4 := H5.out.2.2.2.2.1.keep k4
  have x0 := s4.thaw_ 257
  have x1 : (W5.alloc (.cells #[.int .i64 (-1), .int .i64 5, .int .i64 (-1)] 3)).cell? ⟨g, 257, none⟩ = some (.slice none 0 0) := by
    rw [s4.at_, Array.getElem?_setIfInBounds_ne (by omega)]
    unfold exC1
    rw [Array.getElem?_setIfInBounds_ne (by omega), Array.getElem?_setIfInBounds_ne (by omega), Array.getElem?_setIfInBounds_ne (by omega)]
    exact zDfa_tail.2
  clear s4
  have hgl5 : g < W5.heap.size := H5.out.2.2.2.2.1.lt
  have H6 : Hid (DBx ((W5.setCell ⟨g, 257, none⟩ (.slice (some ⟨W5.heap.size, 0, none⟩) 3 3)).alloc (.cells #[.int .i64 (-1), .int .i64 5, .int .i64 (-1)] 3)) g (exD n0 W5.heap.size) ∧ Below g w ((W5.setCell ⟨g, 257, none⟩ (.slice (some ⟨W5.heap.size, 0, none⟩) 3 3)).alloc (.cells #[.int .i64 (-1), .int .i64 5, .int .i64 (-1)] 3))) := by
    obtain ⟨s0, s1, s2, s3, s4, hB⟩ := H5.out
    have kk := al (W5.setCell ⟨g, 257, none⟩ (.slice (some ⟨W5.heap.size, 0, none⟩) 3 3)) (.cells #[.int .i64 (-1), .int .i64 5, .int .i64 (-1)] 3)
    have hz : (W5.setCell ⟨g, 257, none⟩ (.slice (some ⟨W5.heap.size, 0, none⟩) 3 3)).heap.size = W5.heap.size := by simp
    have s5 := St.new (W5.setCell ⟨g, 257, none⟩ (.slice (some ⟨W5.heap.size, 0, none⟩) 3 3)) 3 #[.int .i64 (-1), .int .i64 5, .int .i64 (-1)]
    rw [hz] at s5
    have hB1 : Below g w (W5.setCell ⟨g, 257, none⟩ (.slice (some ⟨W5.heap.size, 0, none⟩) 3 3)) := hB.setCell (p := ⟨g, 257, none⟩) (Nat.le_refl _) _
    exact ⟨⟨(s4.set 257 _).keep kk, exD_dm ((s0.far (p := ⟨g, 257, none⟩) (by show _ ≠ g; omega) _).keep kk) ((s1.far (p := ⟨g, 257, none⟩) (by show _ ≠ g; omega) _).keep kk) ((s2.far (p := ⟨g, 257, none⟩) (by show _ ≠ g; omega) _).keep kk) ((s3.far (p := ⟨g, 257, none⟩) (by show _ ≠ g; omega) _).keep kk) s5⟩, hB1.trans (kk.mono (by rw [hz]; omega))⟩
  clear k4
  go_upto_region 5 with fail
  clear x0 x1 H5
  generalize (W5.setCell ⟨g, 257, none⟩ (.slice (some ⟨W5.heap.size, 0, none⟩) 3 3)).alloc (.cells #[.int .i64 (-1), .int .i64 5, .int .i64 (-1)] 3) = V at H6 ⊢
  obtain ⟨D, hD⟩ : ∃ D, exD n0 W5.heap.size = D := ⟨_, rfl⟩
  have HX : Hid (Ex10 D ∧ DR D 4) := by rw [← hD]; exact ⟨exD_ex _ _, exD_dr _ _⟩
  rw [hD] at H6
  have hg0 : Hid (g ≤ V.heap.size) := by have := H6.out.1.st.lt; exact (by omega : g ≤ V.heap.size)
  clear hD hgl hgl5
  have HSh := Lib.hid (shortest_any D 4 HX.out.2 (by have := HX.out.1.n; omega) V H6.out.1.dm)
  go_wp2_with (refine wpList_load_any9 (by rfl) 26 _ rfl ⟨g, 0, none⟩ rfl D.cD _ H6.out.1.st.part Try.underlying26 rfl H6.out.1.dm.info ?_)
  refine HSh.out.mono ?_
  rintro e w2 ⟨hcase, k2⟩
  have H7 : Hid (DBx w2 g D ∧ Below g w w2 ∧ g ≤ w2.heap.size) := ⟨H6.out.1.keep k2, H6.out.2.trans (k2.mono hg0.out), Nat.le_trans hg0.out k2.size⟩
  clear HSh k2
  rcases hcase with ⟨l, rfl, h1, h2⟩ | ⟨rfl, h1⟩
  rotate_left
  · exact absurd HX.out.1.a_in (h1 [97] (by simp))
  · have hl := HX.out.1.short h1
    subst hl
    have hs : strOf [97] = ⟨#[97]⟩ := by rfl
    rw [hs]
    clear h1 h2 hs
    have HCo := Lib.hid (count_ex D HX.out.1 HX.out.2 w2 H7.out.1.dm)
    go_wp2_with (refine wpList_load_any9 (by rfl) 26 _ rfl ⟨g, 0, none⟩ rfl D.cD _ H7.out.1.st.part Try.underlying26 rfl H7.out.1.dm.info ?_)
    refine HCo.out.mono ?_
    rintro e w3 ⟨rfl, k3⟩
    have H8 : Hid (DBx w3 g D ∧ Below g w w3 ∧ g ≤ w3.heap.size) := ⟨H7.out.1.keep k3, H7.out.2.1.trans (k3.mono H7.out.2.2), Nat.le_trans H7.out.2.2 k3.size⟩
    clear HCo k3
    have HFi := Lib.hid (finite_ex D HX.out.1 HX.out.2 w3 H8.out.1.dm)
    go_wp2_with (refine wpList_load_any9 (by rfl) 26 _ rfl ⟨g, 0, none⟩ rfl D.cD _ H8.out.1.st.part Try.underlying26 rfl H8.out.1.dm.info ?_)
    refine HFi.out.mono ?_
    rintro e w4 ⟨rfl, k4⟩
    have HF : Hid (Below w.heap.size w w4) := by
      rw [Hg.out]
      exact H8.out.2.1.trans (k4.mono H8.out.2.2)
    clear HFi k4
    go_wp2_with fail
    go_ret
    exact ⟨rfl, HF.out⟩
end Go.Proofs.Ytohgbkajnhgnaaa
