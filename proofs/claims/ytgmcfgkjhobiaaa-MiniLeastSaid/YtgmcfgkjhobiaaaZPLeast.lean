import Derived.Test.YtgmcfgkjhobiaaaZPAwk9
import Derived.Test.YtgmcfgkjhobiaaaZPCls
import Derived.Test.YtgmcfgkjhobiaaaZPRef8
import Derived.Test.YtgmcfgkjhobiaaaZPSm8
import Derived.Test.YtgmcfgkjhobiaaaZTLaw
import Derived.Test.YtgmcfgkjhobiaaaZTTrim
namespace Go.Proofs.Ytgmcfgkjhobiaaa
open Go.RowKit Go.Maps Go.WideElems Go.ChangeMaps Go.MapKept
set_option linter.unusedVariables false
set_option linter.unusedSimpArgs false

theorem mrk8_markF {D : Dd} (hm : D.m = D.n) (i : Int) : mrk8 D i = markF D i := by unfold mrk8 markF; rw [hm]
/-- What is in order, and trimmed, is alike when that is done again. -/
theorem Mn.alkO {X Y : Dd} {C : Nat} (h : Mn X C) (hY : DfF X C X.n (ordF X (List.range X.n)) (fun i => X.q ((List.range X.n).getD i 0)) Y) : Alk Y X C := by
  have hlk : (wkN (rowsF X.len X.nx) [0] X.n).length = X.n := by have := h.ord; unfold Ordd at this; rw [this]; simp
  have hY' : DfF X C X.n (ordF X (wkN (rowsF X.len X.nx) [0] X.n)) (fun i => X.q ((wkN (rowsF X.len X.nx) [0] X.n).getD i 0)) Y := by have := h.ord; unfold Ordd at this; rw [this]; exact hY
  refine ⟨hY'.ord_right h.r hlk (Nat.le_refl _), h.r, fun b _ => by rw [hY.1], hY.2.1, fun i hi => ?_, fun i c hi hc => ?_⟩
  · have hi : i < X.n := by rw [hY.2.1] at hi; exact hi
    rw [hY.2.2.2.2.2 i hi]
    simp [List.getD_eq_getElem?_getD, hi]
  · have hi : i < X.n := by rw [hY.2.1] at hi; exact hi
    rw [hY.2.2.2.2.1 i hi c hc]
    exact Ordd.ord h.r hi hc
theorem Mn.alkT {X Y : Dd} {C : Nat} (h : Mn X C) (hY : DfF X C X.n (trF X) X.q Y) : Alk Y X C := by
  refine ⟨hY.trim_right h.r, h.r, fun b _ => by rw [hY.1], hY.2.1, fun i hi => ?_, fun i c hi hc => ?_⟩
  · rw [hY.2.1] at hi
    exact hY.2.2.2.2.2 i hi
  · rw [hY.2.1] at hi
    rw [hY.2.2.2.2.1 i hi c hc]
    exact h.tgt.trim h.r hi hc
theorem Mn.eqv1 {X : Dd} {C : Nat} (h : Mn X C) : ∀ i k, i < X.n → k < i → ¬ Eqv C (tD X) (mD X) i k := fun i k hi hk he => by
  rw [eqv_beh h.r, toI_at hi, toI_at (by omega)] at he
  have := h.apart i k hi (by omega) he
  omega
theorem Mn.eqv2 {X : Dd} {C : Nat} (h : Mn X C) : 1 < X.n → ∀ i, i < X.n → ¬ Eqv C (tD X) (mD X) i X.n := fun h1 i hi he => by
  rw [eqv_beh h.r, toI_at hi, toI_end] at he
  have key : ∀ j, 1 ≤ j → j < X.n → ¬ Beh X j X (-1) := fun j hj1 hj hb => by
    have h2 := h.ord.rch h.r hj
    cases h2 with
    | base e => omega
    | @step x y hx e =>
      obtain ⟨hxn, c, hc, e2⟩ := e
      rw [h.r.len x hxn] at hc
      exact h.tgt x c hxn hc (by rw [e2]; omega) (by rw [e2]; exact hb)
  by_cases e : i = 0
  · subst e
    -- something leads on from 0
    have h2 := h.ord.rch h.r h1
    have key2 : ∀ y, Rch (Ed X) (fun y => y = 0) y → y < X.n → y = 0 ∨ ∃ c, c < C ∧ X.nx 0 c ≠ -1 := by
      intro y hy
      induction hy with
      | base e => exact fun _ => Or.inl e
      | @step x y _ e ih =>
        intro _
        rcases ih e.1 with h3 | h3
        · subst h3
          obtain ⟨hxn, c, hc, e2⟩ := e
          rw [h.r.len 0 hxn] at hc
          exact Or.inr ⟨c, hc, by rw [e2]; omega⟩
        · exact Or.inr h3
    rcases key2 1 h2 h1 with h3 | ⟨c, hc, hne⟩
    · omega
    · obtain ⟨b, hb, rfl⟩ := h.r.gap c hc
      have h4 := he.step hb
      rw [stepF_at _ hi, stepF_dead] at h4
      exact h.tgt 0 _ hi hc hne h4
  · exact key i (by omega) hi he

set_option maxHeartbeats 4000000 in
set_option maxRecDepth 100000 in
theorem miniLeast_any (D : Dd) (s : ByteArray) (hn : D.n ≤ 9223372036854775807) (hm : D.m ≤ 9223372036854775807) (hl : ∀ i, i < D.n → D.len i ≤ 9223372036854775807) (w : World) (hD : DM w D) :
    Calls Try.prog 4 #[.agg D.cD, .string s] w fun e w' => e = .returned (.bool true) ∧ Below w.heap.size w w' := by
  have HB := Lib.hid (And.intro (DBx.new hD) (al w (.cells D.cD 26)))
  have HSm := Lib.hid (fun (W : World) (h : DM W D) => small_any D hn hm hl W h)
  clear hD hn hm hl
  go_enter Try.func4, Try.ntmps4
  go_upto_region 1 with fail
  generalize w.alloc (.cells D.cD 26) = W0 at HB ⊢
  obtain ⟨b0, hb0⟩ : ∃ b0, w.heap.size = b0 := ⟨_, rfl⟩
  have Hb0 := Lib.hid hb0
  rw [hb0] at HB
  rw [hb0]
  clear hb0
  have HAw := Lib.hid (awake09_any W0)
  go_wp2_with fail
  refine HAw.out.mono ?_
  rintro e w1 ⟨rfl, b1⟩
  have H1 := Lib.hid (And.intro (HB.out.1.keep b1) (And.intro (HB.out.2.trans (b1.mono (by have := HB.out.2.size; have := Hb0.out; omega))) (show b0 ≤ w1.heap.size by have := HB.out.2.size; have := Hb0.out; have := b1.size; omega)))
  clear b1 HAw
  have HSm1 := Lib.hid (HSm.out w1 H1.out.1.dm)
  clear HSm
  go_wp2_with (refine wpList_load_any9 (by rfl) 26 _ rfl ⟨b0, 0, none⟩ rfl D.cD _ H1.out.1.st.part Try.underlying26 rfl H1.out.1.dm.info ?_)
  refine HSm1.out.mono ?_
  rintro e w2 ⟨bo, rfl, hbo, b2⟩
  have H2 := Lib.hid (And.intro (H1.out.1.keep b2) (And.intro (H1.out.2.1.trans (b2.mono (by have := H1.out.2.2; omega))) (show b0 ≤ w2.heap.size by have := H1.out.2.2; have := b2.size; omega)))
  have HF2 : Hid (Below w.heap.size w w2) := by rw [Hb0.out]; exact H2.out.2.1
  clear b2 HSm1
  rcases bo with _ | _
  · clear hbo
    go_wp2_with fail
    go_ret
    exact ⟨rfl, HF2.out⟩
  obtain ⟨s1, s2, s3⟩ := hbo rfl
  have HS := Lib.hid (And.intro s1 (And.intro s2 s3))
  have HRt := Lib.hid (rright8_iff D w2 H2.out.1.dm s1 s2 s3)
  clear hbo s1 s2 s3 HF2
  obtain ⟨m, hsm⟩ : ∃ m, s.size = m := ⟨_, rfl⟩
  by_cases h30 : 30 < m
  · go_wp2_with (refine wpList_load_any9 (by rfl) 26 _ rfl ⟨b0, 0, none⟩ rfl D.cD _ H2.out.1.st.part Try.underlying26 rfl H2.out.1.dm.info ?_)
    refine HRt.out.mono ?_
    rintro e w3 ⟨bo, rfl, hbo, v1⟩
    have HF : Hid (Below w.heap.size w w3) := by rw [Hb0.out]; exact H2.out.2.1.trans (v1.mono H2.out.2.2)
    clear hbo v1 HRt
    have i1 : (30 : Int) < (m : Int) := by omega
    rcases bo with _ | _
    · go_wp2_with fail
      go_ret
      exact ⟨rfl, HF.out⟩
    · go_wp2_with fail
      go_ret
      exact ⟨rfl, HF.out⟩
  have i1 : ¬ ((30 : Int) < (m : Int)) := by omega
  go_wp2_with (refine wpList_load_any9 (by rfl) 26 _ rfl ⟨b0, 0, none⟩ rfl D.cD _ H2.out.1.st.part Try.underlying26 rfl H2.out.1.dm.info ?_)
  refine HRt.out.mono ?_
  rintro e w3 ⟨bo, rfl, hbo, b3⟩
  have H3 := Lib.hid (And.intro (H2.out.1.keep b3) (And.intro (H2.out.2.1.trans (b3.mono (by have := H2.out.2.2; omega))) (show b0 ≤ w3.heap.size by have := H2.out.2.2; have := b3.size; omega)))
  have HFw3 : Hid (∀ W', Below w3.heap.size w3 W' → Below w.heap.size w W') := fun W' h => by
    rw [Hb0.out]
    exact H3.out.2.1.trans (h.mono H3.out.2.2)
  clear b3 HRt
  rcases bo with _ | _
  · have HF := Lib.hid (HFw3.out w3 (Below.refl _ _))
    clear hbo
    go_wp2_with fail
    go_ret
    exact ⟨rfl, HF.out⟩
  obtain ⟨C, hR⟩ := hbo.1 rfl
  have HR := Lib.hid hR
  have Hsm := Lib.hid (And.intro hsm h30)
  have HOf := Lib.hid (of_least D C hR w3 H3.out.1.dm)
  clear hbo hR h30
  go_wp2_with (refine wpList_load_any9 (by rfl) 26 _ rfl ⟨b0, 0, none⟩ rfl D.cD _ H3.out.1.st.part Try.underlying26 rfl H3.out.1.dm.info ?_)
  refine HOf.out.mono ?_
  rintro e w4 ⟨X, C', rfl, hdX, hMn, hBe, hXn, b4⟩
  have HX := Lib.hid (And.intro hMn (And.intro hBe hXn))
  have HdX := Lib.hid hdX
  have HSt := Lib.hid (St.new w4 26 (zC 26))
  have H5 : Hid (DBx ((w4.alloc (.cells (zC 26) 26)).setRow w4.heap.size X.cD) w4.heap.size X ∧ Below w3.heap.size w3 ((w4.alloc (.cells (zC 26) 26)).setRow w4.heap.size X.cD)) :=
    ⟨DBx.stored hMn.r (hdX.below (al _ _)) (St.new _ _ _), b4.trans ((below_setRow9 (al _ _) (Nat.le_refl _) _).mono b4.size)⟩
  clear hdX hMn hBe hXn b4 HOf
  go_upto_region 6 with (first
    | (refine wpList_alloc9 rfl 26 rfl (zC 26) (zero_run9 _) ?_)
    | (refine wpList_store_var9 rfl 26 _ _ rfl w4.heap.size 26 (zC 26) X.cD rfl rfl HSt.out (by rw [zDfa_size, HdX.out.sz]) (by rw [info_dfa9, HdX.out.sz]) HdX.out.one ?_))
  try simp only [Act.put, List.setIfInBounds_toArray, List.set_cons_zero, List.set_cons_succ]
  obtain ⟨b5, hb5⟩ : ∃ b5, w4.heap.size = b5 := ⟨_, rfl⟩
  rw [hb5] at H5
  try rw [hb5]
  generalize (w4.alloc (.cells (zC 26) 26)).setRow b5 X.cD = V at H5 ⊢
  clear hb5 HSt
  have HSo : Hid (∀ W', Below V.heap.size V W' → Below V.heap.size V W' ∧ DBx W' b0 D ∧ DBx W' b5 X) := fun W' h => ⟨h, (H3.out.1.keep H5.out.2).keep h, H5.out.1.keep h⟩
  have HFw : Hid (∀ W', Below V.heap.size V W' → Below w.heap.size w W') := fun W' h => HFw3.out W' (H5.out.2.trans (h.mono H5.out.2.size))
  have hx20 : X.n ≤ 20 := Nat.le_trans HX.out.2.2 HS.out.1
  obtain ⟨mv, hmv⟩ : ∃ mv, mrk8 D (runF D 0 (zof s) m) = mv := ⟨_, rfl⟩
  have HmD := Lib.hid hmv
  have HmX : Hid (mrk8 X (runF X 0 (zof s) m) = mv) := by
    have h := HX.out.2.1 (zof s) m (fun j => zof_lt s j)
    rw [← mrk8_markF HX.out.1.r.m, ← mrk8_markF HR.out.m, hmv] at h
    exact h
  clear hmv
  refine wp_region_held_drew (S := fun W' => Below V.heap.size V W' ∧ DBx W' b0 D ∧ DBx W' b5 X) (by kernel_rfl) (HSo.out _ (Below.refl _ _).drew) (fun hHeld => ?_)
  (refine wpAnyH_take (i := 0) (oi := ?_) (v := ?_) ?_ (by kernel_rfl) (by kernel_rfl) (by kernel_rfl) ?_ (Or.inl ⟨?_, ?_⟩) (by assumption) ?_; rotate_left 2; (focus ((simp only [List.getElem?_toArray, List.getElem?_cons_zero]); first | done | rfl)); (focus (exact fun _ _ _ h => h)); (focus rfl); (focus (intro wz hSw; (try dsimp only at hSw); go_simp; first | done | with_reducible rfl)); try simp only [Act.put, List.setIfInBounds_toArray, List.set_cons_zero, List.set_cons_succ])
  (refine wpAnyH_take (i := 1) (oi := ?_) (v := ?_) ?_ (by kernel_rfl) (by kernel_rfl) (by kernel_rfl) ?_ (Or.inl ⟨?_, ?_⟩) (by assumption) ?_; rotate_left 2; (focus ((simp only [List.getElem?_toArray, List.getElem?_cons_succ, List.getElem?_cons_zero]); first | done | rfl)); (focus (exact fun _ _ _ h => h)); (focus rfl); (focus (intro wz hSw; (try dsimp only at hSw); go_simp; first | done | with_reducible rfl)); try simp only [Act.put, List.setIfInBounds_toArray, List.set_cons_zero, List.set_cons_succ])
  (refine wpAnyH_take (i := 2) (oi := ?_) (v := ?_) ?_ (by kernel_rfl) (by kernel_rfl) (by kernel_rfl) ?_ (Or.inl ⟨?_, ?_⟩) (by assumption) ?_; rotate_left 2; (focus ((simp only [List.getElem?_toArray, List.getElem?_cons_succ, List.getElem?_cons_zero]); first | done | rfl)); (focus (exact fun _ _ _ h => h)); (focus rfl); (focus (intro wz hSw; (try dsimp only at hSw); go_simp; first | done | with_reducible rfl)); try simp only [Act.put, List.setIfInBounds_toArray, List.set_cons_zero, List.set_cons_succ])
  (refine wpAnyH_take (i := 3) (oi := ?_) (v := .agg X.cD) ?_ (by kernel_rfl) (by kernel_rfl) (by kernel_rfl) ?_ (Or.inl ⟨?_, ?_⟩) (by assumption) ?_; rotate_left; (focus ((simp only [List.getElem?_toArray, List.getElem?_cons_succ, List.getElem?_cons_zero]); first | done | rfl)); (focus (exact fun _ _ _ h => h)); (focus rfl); (focus (intro wz hSw; exact exec_load_any9 (o := _) (ρ := _) wz 26 (.tmp 5) rfl ⟨b5, 0, none⟩ rfl X.cD _ (DBx.st (And.right (And.right hSw))).part Try.underlying26 rfl (DBx.dm (And.right (And.right hSw))).info)); try simp only [Act.put, List.setIfInBounds_toArray, List.set_cons_zero, List.set_cons_succ])
  refine wpAnyH_ready (rs := [4]) (by kernel_rfl) (by simp) ?_
  refine AllReadyH.cons (o := ?_) ?_ (fun K hK => ?_) ?_
  rotate_left
  (focus ((simp only [List.getElem?_toArray, List.getElem?_cons_succ, List.getElem?_cons_zero]); first | done | rfl))
  · skip
    go_simp
    go_at_call 9
    refine (rright8_iff X _ hHeld.2.2.dm hx20 (by have := HX.out.1.r.m; omega) (fun i hi => by rw [HX.out.1.r.len i hi]; exact (HX.out.1.r.c256 hHeld.2.2.dm.kl).2)).mono ?_
    rintro e w5 ⟨bo, rfl, hbo, vv⟩
    have hbt : bo = true := hbo.2 ⟨C', HX.out.1.r⟩
    subst hbt
    clear hbo
    have hbn : Below V.heap.size V w5 := hHeld.1.trans (vv.mono hHeld.1.size)
    clear vv
    try go_wp2_with fail
    refine hK.out _ _ (HSo.out _ hbn) (fun hHeld => ?_)
    clear hK K
    try simp only [Act.put, List.setIfInBounds_toArray, List.set_cons_zero, List.set_cons_succ]
    clear hbn
    (refine wpAnyH_take (i := 5) (oi := ?_) (v := ?_) ?_ (by kernel_rfl) (by kernel_rfl) (by kernel_rfl) ?_ (Or.inl ⟨?_, ?_⟩) (by assumption) ?_; rotate_left 2; (focus ((simp only [List.getElem?_toArray, List.getElem?_cons_succ, List.getElem?_cons_zero]); first | done | rfl)); (focus (exact fun _ _ _ h => h)); (focus rfl); (focus (intro wz hSw; (try dsimp only at hSw); go_simp; first | done | with_reducible rfl)); try simp only [Act.put, List.setIfInBounds_toArray, List.set_cons_zero, List.set_cons_succ])
    (refine wpAnyH_take (i := 6) (oi := ?_) (v := ?_) ?_ (by kernel_rfl) (by kernel_rfl) (by kernel_rfl) ?_ (Or.inl ⟨?_, ?_⟩) (by assumption) ?_; rotate_left 2; (focus ((simp only [List.getElem?_toArray, List.getElem?_cons_succ, List.getElem?_cons_zero]); first | done | rfl)); (focus (exact fun _ _ _ h => h)); (focus rfl); (focus (intro wz hSw; (try dsimp only at hSw); go_simp; first | done | with_reducible rfl)); try simp only [Act.put, List.setIfInBounds_toArray, List.set_cons_zero, List.set_cons_succ])
    (refine wpAnyH_take (i := 7) (oi := ?_) (v := ?_) ?_ (by kernel_rfl) (by kernel_rfl) (by kernel_rfl) ?_ (Or.inl ⟨?_, ?_⟩) (by assumption) ?_; rotate_left 2; (focus ((simp only [List.getElem?_toArray, List.getElem?_cons_succ, List.getElem?_cons_zero]); first | done | rfl)); (focus (exact fun _ _ _ h => h)); (focus rfl); (focus (intro wz hSw; (try dsimp only at hSw); go_simp; first | done | with_reducible rfl)); try simp only [Act.put, List.setIfInBounds_toArray, List.set_cons_zero, List.set_cons_succ])
    (refine wpAnyH_take (i := 8) (oi := ?_) (v := .agg X.cD) ?_ (by kernel_rfl) (by kernel_rfl) (by kernel_rfl) ?_ (Or.inl ⟨?_, ?_⟩) (by assumption) ?_; rotate_left; (focus ((simp only [List.getElem?_toArray, List.getElem?_cons_succ, List.getElem?_cons_zero]); first | done | rfl)); (focus (exact fun _ _ _ h => h)); (focus rfl); (focus (intro wz hSw; exact exec_load_any9 (o := _) (ρ := _) wz 26 (.tmp 5) rfl ⟨b5, 0, none⟩ rfl X.cD _ (DBx.st (And.right (And.right hSw))).part Try.underlying26 rfl (DBx.dm (And.right (And.right hSw))).info)); try simp only [Act.put, List.setIfInBounds_toArray, List.set_cons_zero, List.set_cons_succ])
    (refine wpAnyH_take (i := 10) (oi := ?_) (v := .agg X.cD) ?_ (by kernel_rfl) (by kernel_rfl) (by kernel_rfl) ?_ (Or.inl ⟨?_, ?_⟩) (by assumption) ?_; rotate_left; (focus ((simp only [List.getElem?_toArray, List.getElem?_cons_succ, List.getElem?_cons_zero]); first | done | rfl)); (focus (exact fun _ _ _ h => h)); (focus rfl); (focus (intro wz hSw; exact exec_load_any9 (o := _) (ρ := _) wz 26 (.tmp 5) rfl ⟨b5, 0, none⟩ rfl X.cD _ (DBx.st (And.right (And.right hSw))).part Try.underlying26 rfl (DBx.dm (And.right (And.right hSw))).info)); try simp only [Act.put, List.setIfInBounds_toArray, List.set_cons_zero, List.set_cons_succ])
    refine wpAnyH_ready (rs := [9]) (by kernel_rfl) (by simp) ?_
    refine AllReadyH.cons (o := ?_) ?_ (fun K hK => ?_) ?_
    rotate_left
    (focus ((simp only [List.getElem?_toArray, List.getElem?_cons_succ, List.getElem?_cons_zero]); first | done | rfl))
    · skip
      go_simp
      go_at_call 15
      have hord : List.range X.n = wkN (rowsF X.len X.nx) [0] X.n := HX.out.1.ord.symm
      refine (rorder_any X C' (List.range X.n) X.n hord (by simp) (Nat.le_refl _) _ hHeld.2.2.dm HX.out.1.r).mono ?_
      rintro e w6 ⟨Y, rfl, hdY, t1, t2, t3, t4, t5, t6, vv, _⟩
      have HY := Lib.hid (And.intro hdY (HX.out.1.alkO (Y := Y) ⟨t1, t2, t3, t4, t5, t6⟩))
      clear hdY t1 t2 t3 t4 t5 t6 hord
      have hbn : Below V.heap.size V w6 := hHeld.1.trans (vv.mono hHeld.1.size)
      clear vv
      try go_wp2_with fail
      refine hK.out _ _ (HSo.out _ hbn) (fun hHeld => ?_)
      clear hK K
      try simp only [Act.put, List.setIfInBounds_toArray, List.set_cons_zero, List.set_cons_succ]
      clear hbn
      refine wpAnyH_ready (rs := [11]) (by kernel_rfl) (by simp) ?_
      refine AllReadyH.cons (o := ?_) ?_ (fun K hK => ?_) ?_
      rotate_left
      (focus ((simp only [List.getElem?_toArray, List.getElem?_cons_succ, List.getElem?_cons_zero]); first | done | rfl))
      · skip
        go_simp
        go_at_call 14
        refine (rsame8_yes Y X C' HY.out.2 _ HY.out.1 hHeld.2.2.dm).mono ?_
        rintro e w7 ⟨rfl, vv⟩
        clear HY
        have hbn : Below V.heap.size V w7 := hHeld.1.trans (vv.mono hHeld.1.size)
        clear vv
        try go_wp2_with fail
        refine hK.out _ _ (HSo.out _ hbn) (fun hHeld => ?_)
        clear hK K
        try simp only [Act.put, List.setIfInBounds_toArray, List.set_cons_zero, List.set_cons_succ]
        clear hbn
        (refine wpAnyH_take (i := 12) (oi := ?_) (v := ?_) ?_ (by kernel_rfl) (by kernel_rfl) (by kernel_rfl) ?_ (Or.inl ⟨?_, ?_⟩) (by assumption) ?_; rotate_left 2; (focus ((simp only [List.getElem?_toArray, List.getElem?_cons_succ, List.getElem?_cons_zero]); first | done | rfl)); (focus (exact fun _ _ _ h => h)); (focus rfl); (focus (intro wz hSw; (try dsimp only at hSw); go_simp; first | done | with_reducible rfl)); try simp only [Act.put, List.setIfInBounds_toArray, List.set_cons_zero, List.set_cons_succ])
        (refine wpAnyH_take (i := 13) (oi := ?_) (v := ?_) ?_ (by kernel_rfl) (by kernel_rfl) (by kernel_rfl) ?_ (Or.inl ⟨?_, ?_⟩) (by assumption) ?_; rotate_left 2; (focus ((simp only [List.getElem?_toArray, List.getElem?_cons_succ, List.getElem?_cons_zero]); first | done | rfl)); (focus (exact fun _ _ _ h => h)); (focus rfl); (focus (intro wz hSw; (try dsimp only at hSw); go_simp; first | done | with_reducible rfl)); try simp only [Act.put, List.setIfInBounds_toArray, List.set_cons_zero, List.set_cons_succ])
        (refine wpAnyH_take (i := 14) (oi := ?_) (v := ?_) ?_ (by kernel_rfl) (by kernel_rfl) (by kernel_rfl) ?_ (Or.inl ⟨?_, ?_⟩) (by assumption) ?_; rotate_left 2; (focus ((simp only [List.getElem?_toArray, List.getElem?_cons_succ, List.getElem?_cons_zero]); first | done | rfl)); (focus (exact fun _ _ _ h => h)); (focus rfl); (focus (intro wz hSw; (try dsimp only at hSw); go_simp; first | done | with_reducible rfl)); try simp only [Act.put, List.setIfInBounds_toArray, List.set_cons_zero, List.set_cons_succ])
        (refine wpAnyH_take (i := 15) (oi := ?_) (v := .agg X.cD) ?_ (by kernel_rfl) (by kernel_rfl) (by kernel_rfl) ?_ (Or.inl ⟨?_, ?_⟩) (by assumption) ?_; rotate_left; (focus ((simp only [List.getElem?_toArray, List.getElem?_cons_succ, List.getElem?_cons_zero]); first | done | rfl)); (focus (exact fun _ _ _ h => h)); (focus rfl); (focus (intro wz hSw; exact exec_load_any9 (o := _) (ρ := _) wz 26 (.tmp 5) rfl ⟨b5, 0, none⟩ rfl X.cD _ (DBx.st (And.right (And.right hSw))).part Try.underlying26 rfl (DBx.dm (And.right (And.right hSw))).info)); try simp only [Act.put, List.setIfInBounds_toArray, List.set_cons_zero, List.set_cons_succ])
        (refine wpAnyH_take (i := 17) (oi := ?_) (v := .agg X.cD) ?_ (by kernel_rfl) (by kernel_rfl) (by kernel_rfl) ?_ (Or.inl ⟨?_, ?_⟩) (by assumption) ?_; rotate_left; (focus ((simp only [List.getElem?_toArray, List.getElem?_cons_succ, List.getElem?_cons_zero]); first | done | rfl)); (focus (exact fun _ _ _ h => h)); (focus rfl); (focus (intro wz hSw; exact exec_load_any9 (o := _) (ρ := _) wz 26 (.tmp 5) rfl ⟨b5, 0, none⟩ rfl X.cD _ (DBx.st (And.right (And.right hSw))).part Try.underlying26 rfl (DBx.dm (And.right (And.right hSw))).info)); try simp only [Act.put, List.setIfInBounds_toArray, List.set_cons_zero, List.set_cons_succ])
        refine wpAnyH_ready (rs := [16]) (by kernel_rfl) (by simp) ?_
        refine AllReadyH.cons (o := ?_) ?_ (fun K hK => ?_) ?_
        rotate_left
        (focus ((simp only [List.getElem?_toArray, List.getElem?_cons_succ, List.getElem?_cons_zero]); first | done | rfl))
        · skip
          go_simp
          go_at_call 16
          refine (rtrim_any X C' _ hHeld.2.2.dm HX.out.1.r).mono ?_
          rintro e w8 ⟨Y, rfl, hdY, t1, t2, t3, t4, t5, t6, vv, _⟩
          have HY := Lib.hid (And.intro hdY (HX.out.1.alkT (Y := Y) ⟨t1, t2, t3, t4, t5, t6⟩))
          clear hdY t1 t2 t3 t4 t5 t6
          have hbn : Below V.heap.size V w8 := hHeld.1.trans (vv.mono hHeld.1.size)
          clear vv
          try go_wp2_with fail
          refine hK.out _ _ (HSo.out _ hbn) (fun hHeld => ?_)
          clear hK K
          try simp only [Act.put, List.setIfInBounds_toArray, List.set_cons_zero, List.set_cons_succ]
          clear hbn
          refine wpAnyH_ready (rs := [18]) (by kernel_rfl) (by simp) ?_
          refine AllReadyH.cons (o := ?_) ?_ (fun K hK => ?_) ?_
          rotate_left
          (focus ((simp only [List.getElem?_toArray, List.getElem?_cons_succ, List.getElem?_cons_zero]); first | done | rfl))
          · skip
            go_simp
            go_at_call 14
            refine (rsame8_yes Y X C' HY.out.2 _ HY.out.1 hHeld.2.2.dm).mono ?_
            rintro e w9 ⟨rfl, vv⟩
            clear HY
            have hbn : Below V.heap.size V w9 := hHeld.1.trans (vv.mono hHeld.1.size)
            clear vv
            try go_wp2_with fail
            refine hK.out _ _ (HSo.out _ hbn) (fun hHeld => ?_)
            clear hK K
            try simp only [Act.put, List.setIfInBounds_toArray, List.set_cons_zero, List.set_cons_succ]
            clear hbn
            (refine wpAnyH_take (i := 19) (oi := ?_) (v := ?_) ?_ (by kernel_rfl) (by kernel_rfl) (by kernel_rfl) ?_ (Or.inl ⟨?_, ?_⟩) (by assumption) ?_; rotate_left 2; (focus ((simp only [List.getElem?_toArray, List.getElem?_cons_succ, List.getElem?_cons_zero]); first | done | rfl)); (focus (exact fun _ _ _ h => h)); (focus rfl); (focus (intro wz hSw; (try dsimp only at hSw); go_simp; first | done | with_reducible rfl)); try simp only [Act.put, List.setIfInBounds_toArray, List.set_cons_zero, List.set_cons_succ])
            (refine wpAnyH_take (i := 20) (oi := ?_) (v := ?_) ?_ (by kernel_rfl) (by kernel_rfl) (by kernel_rfl) ?_ (Or.inl ⟨?_, ?_⟩) (by assumption) ?_; rotate_left 2; (focus ((simp only [List.getElem?_toArray, List.getElem?_cons_succ, List.getElem?_cons_zero]); first | done | rfl)); (focus (exact fun _ _ _ h => h)); (focus rfl); (focus (intro wz hSw; (try dsimp only at hSw); go_simp; first | done | with_reducible rfl)); try simp only [Act.put, List.setIfInBounds_toArray, List.set_cons_zero, List.set_cons_succ])
            refine wpAnyH_done (by kernel_rfl) ?_ _
            have HF6 := Lib.hid hHeld
            clear hHeld
            go_upto_region 8 with fail
            refine wp_region_held_drew (S := fun W' => Below V.heap.size V W' ∧ DBx W' b0 D ∧ DBx W' b5 X) (by kernel_rfl) (HSo.out _ HF6.out.1.drew) (fun hHeld => ?_)
            (refine wpAnyH_take (i := 0) (oi := ?_) (v := .agg X.cD) ?_ (by kernel_rfl) (by kernel_rfl) (by kernel_rfl) ?_ (Or.inl ⟨?_, ?_⟩) (by assumption) ?_; rotate_left; (focus ((simp only [List.getElem?_toArray, List.getElem?_cons_zero]); first | done | rfl)); (focus (exact fun _ _ _ h => h)); (focus rfl); (focus (intro wz hSw; exact exec_load_any9 (o := _) (ρ := _) wz 26 (.tmp 5) rfl ⟨b5, 0, none⟩ rfl X.cD _ (DBx.st (And.right (And.right hSw))).part Try.underlying26 rfl (DBx.dm (And.right (And.right hSw))).info)); try simp only [Act.put, List.setIfInBounds_toArray, List.set_cons_zero, List.set_cons_succ])
            refine wpAnyH_ready (rs := [1]) (by kernel_rfl) (by simp) ?_
            refine AllReadyH.cons (o := ?_) ?_ (fun K hK => ?_) ?_
            rotate_left
            (focus ((simp only [List.getElem?_toArray, List.getElem?_cons_succ, List.getElem?_cons_zero]); first | done | rfl))
            · skip
              go_simp
              go_at_call 17
              refine (apartness_yes X C' HX.out.1.r HX.out.1.eqv1 HX.out.1.eqv2 _ hHeld.2.2.dm).mono ?_
              rintro e w10 ⟨rfl, vv⟩
              have hbn : Below V.heap.size V w10 := hHeld.1.trans (vv.mono hHeld.1.size)
              clear vv
              try go_wp2_with fail
              refine hK.out _ _ (HSo.out _ hbn) (fun hHeld => ?_)
              clear hK K
              try simp only [Act.put, List.setIfInBounds_toArray, List.set_cons_zero, List.set_cons_succ]
              clear hbn
              (refine wpAnyH_take (i := 2) (oi := ?_) (v := ?_) ?_ (by kernel_rfl) (by kernel_rfl) (by kernel_rfl) ?_ (Or.inl ⟨?_, ?_⟩) (by assumption) ?_; rotate_left 2; (focus ((simp only [List.getElem?_toArray, List.getElem?_cons_succ, List.getElem?_cons_zero]); first | done | rfl)); (focus (exact fun _ _ _ h => h)); (focus rfl); (focus (intro wz hSw; (try dsimp only at hSw); go_simp; first | done | with_reducible rfl)); try simp only [Act.put, List.setIfInBounds_toArray, List.set_cons_zero, List.set_cons_succ])
              (refine wpAnyH_take (i := 3) (oi := ?_) (v := .agg X.cD) ?_ (by kernel_rfl) (by kernel_rfl) (by kernel_rfl) ?_ (Or.inl ⟨?_, ?_⟩) (by assumption) ?_; rotate_left; (focus ((simp only [List.getElem?_toArray, List.getElem?_cons_succ, List.getElem?_cons_zero]); first | done | rfl)); (focus (exact fun _ _ _ h => h)); (focus rfl); (focus (intro wz hSw; exact exec_load_any9 (o := _) (ρ := _) wz 26 (.tmp 5) rfl ⟨b5, 0, none⟩ rfl X.cD _ (DBx.st (And.right (And.right hSw))).part Try.underlying26 rfl (DBx.dm (And.right (And.right hSw))).info)); try simp only [Act.put, List.setIfInBounds_toArray, List.set_cons_zero, List.set_cons_succ])
              refine wpAnyH_ready (rs := [4]) (by kernel_rfl) (by simp) ?_
              refine AllReadyH.cons (o := ?_) ?_ (fun K hK => ?_) ?_
              rotate_left
              (focus ((simp only [List.getElem?_toArray, List.getElem?_cons_succ, List.getElem?_cons_zero]); first | done | rfl))
              · skip
                go_simp
                go_at_call 18
                refine (classes_yes X C' HX.out.1.r HX.out.1.cls _ hHeld.2.2.dm).mono ?_
                rintro e w11 ⟨rfl, vv⟩
                have hbn : Below V.heap.size V w11 := hHeld.1.trans (vv.mono hHeld.1.size)
                clear vv
                try go_wp2_with fail
                refine hK.out _ _ (HSo.out _ hbn) (fun hHeld => ?_)
                clear hK K
                try simp only [Act.put, List.setIfInBounds_toArray, List.set_cons_zero, List.set_cons_succ]
                clear hbn
                (refine wpAnyH_take (i := 5) (oi := ?_) (v := ?_) ?_ (by kernel_rfl) (by kernel_rfl) (by kernel_rfl) ?_ (Or.inl ⟨?_, ?_⟩) (by assumption) ?_; rotate_left 2; (focus ((simp only [List.getElem?_toArray, List.getElem?_cons_succ, List.getElem?_cons_zero]); first | done | rfl)); (focus (exact fun _ _ _ h => h)); (focus rfl); (focus (intro wz hSw; (try dsimp only at hSw); go_simp; first | done | with_reducible rfl)); try simp only [Act.put, List.setIfInBounds_toArray, List.set_cons_zero, List.set_cons_succ])
                (refine wpAnyH_take (i := 6) (oi := ?_) (v := ?_) ?_ (by kernel_rfl) (by kernel_rfl) (by kernel_rfl) ?_ (Or.inl ⟨?_, ?_⟩) (by assumption) ?_; rotate_left 2; (focus ((simp only [List.getElem?_toArray, List.getElem?_cons_succ, List.getElem?_cons_zero]); first | done | rfl)); (focus (exact fun _ _ _ h => h)); (focus rfl); (focus (intro wz hSw; (try dsimp only at hSw); go_simp; first | done | with_reducible rfl)); try simp only [Act.put, List.setIfInBounds_toArray, List.set_cons_zero, List.set_cons_succ])
                (refine wpAnyH_take (i := 7) (oi := ?_) (v := .agg X.cD) ?_ (by kernel_rfl) (by kernel_rfl) (by kernel_rfl) ?_ (Or.inl ⟨?_, ?_⟩) (by assumption) ?_; rotate_left; (focus ((simp only [List.getElem?_toArray, List.getElem?_cons_succ, List.getElem?_cons_zero]); first | done | rfl)); (focus (exact fun _ _ _ h => h)); (focus rfl); (focus (intro wz hSw; exact exec_load_any9 (o := _) (ρ := _) wz 26 (.tmp 5) rfl ⟨b5, 0, none⟩ rfl X.cD _ (DBx.st (And.right (And.right hSw))).part Try.underlying26 rfl (DBx.dm (And.right (And.right hSw))).info)); try simp only [Act.put, List.setIfInBounds_toArray, List.set_cons_zero, List.set_cons_succ])
                (refine wpAnyH_take (i := 8) (oi := ?_) (v := .agg X.cD) ?_ (by kernel_rfl) (by kernel_rfl) (by kernel_rfl) ?_ (Or.inl ⟨?_, ?_⟩) (by assumption) ?_; rotate_left; (focus ((simp only [List.getElem?_toArray, List.getElem?_cons_succ, List.getElem?_cons_zero]); first | done | rfl)); (focus (exact fun _ _ _ h => h)); (focus rfl); (focus (intro wz hSw; exact exec_load_any9 (o := _) (ρ := _) wz 26 (.tmp 5) rfl ⟨b5, 0, none⟩ rfl X.cD _ (DBx.st (And.right (And.right hSw))).part Try.underlying26 rfl (DBx.dm (And.right (And.right hSw))).info)); try simp only [Act.put, List.setIfInBounds_toArray, List.set_cons_zero, List.set_cons_succ])
                (refine wpAnyH_take (i := 9) (oi := ?_) (v := ?_) ?_ (by kernel_rfl) (by kernel_rfl) (by kernel_rfl) ?_ (Or.inl ⟨?_, ?_⟩) (by assumption) ?_; rotate_left 2; (focus ((simp only [List.getElem?_toArray, List.getElem?_cons_succ, List.getElem?_cons_zero]); first | done | rfl)); (focus (exact fun _ _ _ h => h)); (focus rfl); (focus (intro wz hSw; (try dsimp only at hSw); go_simp; first | done | with_reducible rfl)); try simp only [Act.put, List.setIfInBounds_toArray, List.set_cons_zero, List.set_cons_succ])
                (refine wpAnyH_take (i := 12) (oi := ?_) (v := .agg D.cD) ?_ (by kernel_rfl) (by kernel_rfl) (by kernel_rfl) ?_ (Or.inl ⟨?_, ?_⟩) (by assumption) ?_; rotate_left; (focus ((simp only [List.getElem?_toArray, List.getElem?_cons_succ, List.getElem?_cons_zero]); first | done | rfl)); (focus (exact fun _ _ _ h => h)); (focus rfl); (focus (intro wz hSw; exact exec_load_any9 (o := _) (ρ := _) wz 26 (.tmp 2) rfl ⟨b0, 0, none⟩ rfl D.cD _ (DBx.st (And.left (And.right hSw))).part Try.underlying26 rfl (DBx.dm (And.left (And.right hSw))).info)); try simp only [Act.put, List.setIfInBounds_toArray, List.set_cons_zero, List.set_cons_succ])
                (refine wpAnyH_take (i := 13) (oi := ?_) (v := .agg D.cD) ?_ (by kernel_rfl) (by kernel_rfl) (by kernel_rfl) ?_ (Or.inl ⟨?_, ?_⟩) (by assumption) ?_; rotate_left; (focus ((simp only [List.getElem?_toArray, List.getElem?_cons_succ, List.getElem?_cons_zero]); first | done | rfl)); (focus (exact fun _ _ _ h => h)); (focus rfl); (focus (intro wz hSw; exact exec_load_any9 (o := _) (ρ := _) wz 26 (.tmp 2) rfl ⟨b0, 0, none⟩ rfl D.cD _ (DBx.st (And.left (And.right hSw))).part Try.underlying26 rfl (DBx.dm (And.left (And.right hSw))).info)); try simp only [Act.put, List.setIfInBounds_toArray, List.set_cons_zero, List.set_cons_succ])
                (refine wpAnyH_take (i := 14) (oi := ?_) (v := ?_) ?_ (by kernel_rfl) (by kernel_rfl) (by kernel_rfl) ?_ (Or.inl ⟨?_, ?_⟩) (by assumption) ?_; rotate_left 2; (focus ((simp only [List.getElem?_toArray, List.getElem?_cons_succ, List.getElem?_cons_zero]); first | done | rfl)); (focus (exact fun _ _ _ h => h)); (focus rfl); (focus (intro wz hSw; (try dsimp only at hSw); go_simp; first | done | with_reducible rfl)); try simp only [Act.put, List.setIfInBounds_toArray, List.set_cons_zero, List.set_cons_succ])
                refine wpAnyH_ready (rs := [10]) (by kernel_rfl) (by simp) ?_
                refine AllReadyH.cons (o := ?_) ?_ (fun K hK => ?_) ?_
                rotate_left
                (focus ((simp only [List.getElem?_toArray, List.getElem?_cons_succ, List.getElem?_cons_zero]); first | done | rfl))
                · skip
                  go_simp
                  go_at_call 20
                  refine (rrun8_any X C' HX.out.1.r 0 s m Hsm.out.1 (by have := Hsm.out.2; omega) _ hHeld.2.2.dm).mono ?_
                  rintro e w12 ⟨rfl, vv⟩
                  have hbn : Below V.heap.size V w12 := hHeld.1.trans (vv.mono hHeld.1.size)
                  clear vv
                  try go_wp2_with fail
                  refine hK.out _ _ (HSo.out _ hbn) (fun hHeld => ?_)
                  clear hK K
                  try simp only [Act.put, List.setIfInBounds_toArray, List.set_cons_zero, List.set_cons_succ]
                  clear hbn
                  refine wpAnyH_ready (rs := [11]) (by kernel_rfl) (by simp) ?_
                  refine AllReadyH.cons (o := ?_) ?_ (fun K hK => ?_) ?_
                  rotate_left
                  (focus ((simp only [List.getElem?_toArray, List.getElem?_cons_succ, List.getElem?_cons_zero]); first | done | rfl))
                  · skip
                    go_simp
                    go_at_call 19
                    refine (rmark8_any X _ _ hHeld.2.2.dm (by have := HX.out.1.r.m; omega)).mono ?_
                    rintro e w14 ⟨rfl, vv⟩
                    rw [HmX.out]
                    have hbn : Below V.heap.size V w14 := hHeld.1.trans (vv.mono hHeld.1.size)
                    clear vv
                    try go_wp2_with fail
                    refine hK.out _ _ (HSo.out _ hbn) (fun hHeld => ?_)
                    clear hK K
                    try simp only [Act.put, List.setIfInBounds_toArray, List.set_cons_zero, List.set_cons_succ]
                    clear hbn
                    refine wpAnyH_ready (rs := [15]) (by kernel_rfl) (by simp) ?_
                    refine AllReadyH.cons (o := ?_) ?_ (fun K hK => ?_) ?_
                    rotate_left
                    (focus ((simp only [List.getElem?_toArray, List.getElem?_cons_succ, List.getElem?_cons_zero]); first | done | rfl))
                    · skip
                      go_simp
                      go_at_call 20
                      refine (rrun8_any D C HR.out 0 s m Hsm.out.1 (by have := Hsm.out.2; omega) _ hHeld.2.1.dm).mono ?_
                      rintro e w13 ⟨rfl, vv⟩
                      have hbn : Below V.heap.size V w13 := hHeld.1.trans (vv.mono hHeld.1.size)
                      clear vv
                      try go_wp2_with fail
                      refine hK.out _ _ (HSo.out _ hbn) (fun hHeld => ?_)
                      clear hK K
                      try simp only [Act.put, List.setIfInBounds_toArray, List.set_cons_zero, List.set_cons_succ]
                      clear hbn
                      refine wpAnyH_ready (rs := [16]) (by kernel_rfl) (by simp) ?_
                      refine AllReadyH.cons (o := ?_) ?_ (fun K hK => ?_) ?_
                      rotate_left
                      (focus ((simp only [List.getElem?_toArray, List.getElem?_cons_succ, List.getElem?_cons_zero]); first | done | rfl))
                      · skip
                        go_simp
                        go_at_call 19
                        refine (rmark8_any D _ _ hHeld.2.1.dm (by have := HR.out.m; have := HS.out.1; omega)).mono ?_
                        rintro e w15 ⟨rfl, vv⟩
                        rw [HmD.out]
                        have hbn : Below V.heap.size V w15 := hHeld.1.trans (vv.mono hHeld.1.size)
                        clear vv
                        try go_wp2_with fail
                        refine hK.out _ _ (HSo.out _ hbn) (fun hHeld => ?_)
                        clear hK K
                        try simp only [Act.put, List.setIfInBounds_toArray, List.set_cons_zero, List.set_cons_succ]
                        clear hbn
                        (refine wpAnyH_take (i := 17) (oi := ?_) (v := ?_) ?_ (by kernel_rfl) (by kernel_rfl) (by kernel_rfl) ?_ (Or.inl ⟨?_, ?_⟩) (by assumption) ?_; rotate_left 2; (focus ((simp only [List.getElem?_toArray, List.getElem?_cons_succ, List.getElem?_cons_zero]); first | done | rfl)); (focus (exact fun _ _ _ h => h)); (focus rfl); (focus (intro wz hSw; (try dsimp only at hSw); go_simp; first | done | with_reducible rfl)); try simp only [Act.put, List.setIfInBounds_toArray, List.set_cons_zero, List.set_cons_succ])
                        (refine wpAnyH_take (i := 18) (oi := ?_) (v := ?_) ?_ (by kernel_rfl) (by kernel_rfl) (by kernel_rfl) ?_ (Or.inl ⟨?_, ?_⟩) (by assumption) ?_; rotate_left 2; (focus ((simp only [List.getElem?_toArray, List.getElem?_cons_succ, List.getElem?_cons_zero]); first | done | rfl)); (focus (exact fun _ _ _ h => h)); (focus rfl); (focus (intro wz hSw; (try dsimp only at hSw); go_simp; first | done | with_reducible rfl)); try simp only [Act.put, List.setIfInBounds_toArray, List.set_cons_zero, List.set_cons_succ])
                        (refine wpAnyH_take (i := 19) (oi := ?_) (v := ?_) ?_ (by kernel_rfl) (by kernel_rfl) (by kernel_rfl) ?_ (Or.inl ⟨?_, ?_⟩) (by assumption) ?_; rotate_left 2; (focus ((simp only [List.getElem?_toArray, List.getElem?_cons_succ, List.getElem?_cons_zero]); first | done | rfl)); (focus (exact fun _ _ _ h => h)); (focus rfl); (focus (intro wz hSw; (try dsimp only at hSw); go_simp; first | done | with_reducible rfl)); try simp only [Act.put, List.setIfInBounds_toArray, List.set_cons_zero, List.set_cons_succ])
                        refine wpAnyH_done (by kernel_rfl) ?_ _
                        have HF := Lib.hid (HFw.out _ hHeld.1)
                        clear hHeld
                        go_wp2_with fail
                        go_ret
                        exact ⟨rfl, HF.out⟩
                      exact AllReadyH.nil
                    exact AllReadyH.nil
                  exact AllReadyH.nil
                exact AllReadyH.nil
              exact AllReadyH.nil
            exact AllReadyH.nil
          exact AllReadyH.nil
        exact AllReadyH.nil
      exact AllReadyH.nil
    exact AllReadyH.nil
  exact AllReadyH.nil
end Go.Proofs.Ytgmcfgkjhobiaaa
