import Derived.Test.YtgmcfgkjhobiaaaZPBad
import Derived.Test.YtgmcfgkjhobiaaaZTLaw
import Derived.Deep.RegionHeld
import Derived.Deep.RegionHeld3
import Derived.OrdersHeld
namespace Go.Proofs.Ytgmcfgkjhobiaaa
open Go.RowKit Go.Maps Go.WideElems Go.ChangeMaps Go.MapKept
set_option linter.unusedVariables false
set_option linter.unusedSimpArgs false

theorem blk_zat {w : World} {B n c : Nat} {a : Option Addr} {f : Nat → Nat} (h : w.ownsRow B 3 1 (.slice a n c) n (nums64 ((List.range n).map f))) : ZAt w a n (fun i => ((f i : Nat) : Int)) := by
  intro h0
  obtain ⟨g, e, h1, h2, h3⟩ := ownsRow_read h h0
  refine ⟨g, 0, e, h2, fun j hj => ?_⟩
  have := (h3 j (by omega)).1
  rw [Nat.zero_add, this]
  simp [nums64, hj]

set_option maxHeartbeats 4000000 in
set_option maxRecDepth 100000 in
theorem miniBlocks_of (HAw0 : ∀ W : World, Calls Try.prog 7 #[] W fun e w' => e = .returned (.bool true) ∧ Below W.heap.size W w') (D : Dd) (hn : D.n ≤ 9223372036854775807) (hm : D.m ≤ 9223372036854775807) (hl : ∀ i, i < D.n → D.len i ≤ 9223372036854775807) (w : World) (hD : DM w D) :
    Calls Try.prog 3 #[.agg D.cD] w fun e w' => e = .returned (.bool true) ∧ Below w.heap.size w w' := by
  have HB := Lib.hid (And.intro (DBx.new hD) (al w (.cells D.cD 26)))
  have HSm := Lib.hid (fun (W : World) (h : DM W D) => small_any D hn hm hl W h)
  clear hD hn hm hl
  go_enter Try.func3, Try.ntmps3
  go_upto_region 1 with fail
  generalize w.alloc (.cells D.cD 26) = W0 at HB ⊢
  obtain ⟨b0, hb0⟩ : ∃ b0, w.heap.size = b0 := ⟨_, rfl⟩
  have Hb0 := Lib.hid hb0
  rw [hb0] at HB
  rw [hb0]
  clear hb0
  have HAw := Lib.hid (HAw0 W0)
  clear HAw0
  go_wp2_with fail
  refine HAw.out.mono ?_
  rintro e w1 ⟨rfl, b1⟩
  have H1 := Lib.hid (And.intro (HB.out.1.keep b1) (And.intro (HB.out.2.trans (b1.mono (by have := HB.out.2.size; have := Hb0.out; omega))) (show b0 ≤ w1.heap.size by have := HB.out.2.size; have := Hb0.out; have := b1.size; omega)))
  clear b1 HAw
  have HSm1 := Lib.hid (HSm.out w1 H1.out.1.dm)
  clear HSm
  go_wp2_with (refine wpList_load_any9 (by rfl) 26 _ rfl ⟨b0, 0, none⟩ rfl D.cD _ H1.out.1.st.part Try.underlying26 rfl H1.out.1.dm.info ?_)
  refine HSm1.out.mono ?_
  rintro e w2 ⟨bo, rfl, hbo, b2⟩
  have H2 := Lib.hid (And.intro (H1.out.1.keep b2) (And.intro (H1.out.2.1.trans (b2.mono (by have := H1.out.2.2; omega))) (show b0 ≤ w2.heap.size by have := H1.out.2.2; have := b2.size; omega)))
  have HF2 : Hid (Below w.heap.size w w2) := by rw [Hb0.out]; exact H2.out.2.1
  clear b2 HSm1
  rcases bo with _ | _
  · clear hbo
    go_wp2_with fail
    go_ret
    exact ⟨rfl, HF2.out⟩
  obtain ⟨s1, s2, s3⟩ := hbo rfl
  have HS := Lib.hid (And.intro s1 (And.intro s2 s3))
  have HRt := Lib.hid (rright8_iff D w2 H2.out.1.dm s1 s2 s3)
  clear hbo s1 s2 s3
  go_wp2_with (refine wpList_load_any9 (by rfl) 26 _ rfl ⟨b0, 0, none⟩ rfl D.cD _ H2.out.1.st.part Try.underlying26 rfl H2.out.1.dm.info ?_)
  refine HRt.out.mono ?_
  rintro e w3 ⟨bo, rfl, hbo, b3⟩
  have H3 := Lib.hid (And.intro (H2.out.1.keep b3) (And.intro (H2.out.2.1.trans (b3.mono (by have := H2.out.2.2; omega))) (show b0 ≤ w3.heap.size by have := H2.out.2.2; have := b3.size; omega)))
  have HFw : Hid (∀ W', Below w3.heap.size w3 W' → Below w.heap.size w W') := fun W' h => by
    rw [Hb0.out]
    exact H3.out.2.1.trans (h.mono H3.out.2.2)
  clear b3 HRt HF2
  rcases bo with _ | _
  · have HNo : Hid (¬ ∃ C, DR D C) := fun h => by
      have := hbo.2 h
      cases this
    have HOf := Lib.hid (mof_bad D (by have := HS.out.1; omega) (by have := HS.out.2.1; omega) (fun i hi => by have := HS.out.2.2 i hi; omega) HNo.out w3 H3.out.1.dm)
    clear hbo
    go_wp2_with (refine wpList_load_any9 (by rfl) 26 _ rfl ⟨b0, 0, none⟩ rfl D.cD _ H3.out.1.st.part Try.underlying26 rfl H3.out.1.dm.info ?_)
    refine HOf.out.mono ?_
    rintro e w4 ⟨rfl, b4⟩
    have k5 := al w4 (.cells (zC 26) 26)
    have hst5 : St (w4.alloc (.cells (zC 26) 26)) 26 w4.heap.size (zC 26) := St.new _ _ _
    have HSt5 := Lib.hid hst5
    have hB5 : Below w3.heap.size w3 ((w4.alloc (.cells (zC 26) 26)).setRow w4.heap.size (zC 26)) := below_setRow9 (b4.trans (k5.mono b4.size)) b4.size _
    have H5 := Lib.hid (And.intro (H3.out.1.keep hB5) hB5)
    have HBb := Lib.hid (blocks_bad D (by have := HS.out.1; omega) (by have := HS.out.2.1; omega) (fun i hi => by have := HS.out.2.2 i hi; omega) HNo.out _ H5.out.1.dm)
    clear b4 k5 hst5 hB5 HOf
    go_upto_region 7 with (first | (refine wpList_alloc9 rfl 26 rfl (zC 26) (zero_run9 _) ?_) | (refine wpList_store_var9 rfl 26 _ _ rfl w4.heap.size 26 (zC 26) (zC 26) rfl rfl HSt5.out rfl (by rw [info_dfa9, zDfa_size]) zDfa_one ?_))
    generalize (w4.alloc (.cells (zC 26) 26)).setRow w4.heap.size (zC 26) = W5 at H5 HBb ⊢
    go_wp2_with (refine wpList_load_any9 (by rfl) 26 _ rfl ⟨b0, 0, none⟩ rfl D.cD _ H5.out.1.st.part Try.underlying26 rfl H5.out.1.dm.info ?_)
    refine HBb.out.mono ?_
    rintro e w6 ⟨rfl, b6⟩
    have HF := Lib.hid (HFw.out w6 (H5.out.2.trans (b6.mono H5.out.2.size)))
    clear b6 HBb
    go_wp2_with fail
    go_ret
    exact ⟨rfl, HF.out⟩
  obtain ⟨C, hR⟩ := hbo.1 rfl
  have hn20 := HS.out.1
  have HR := Lib.hid hR
  clear hbo hR
  have HSo : Hid (∀ W', Below w3.heap.size w3 W' → Below w3.heap.size w3 W' ∧ DBx W' b0 D) := fun W' h => ⟨h, H3.out.1.keep h⟩
  go_upto_region 8 with fail
  refine wp_region_held_drew (S := fun W' => Below w3.heap.size w3 W' ∧ DBx W' b0 D) (by kernel_rfl) (HSo.out _ (Below.refl _ _).drew) (fun hHeld => ?_)
  (refine wpAnyH_take (i := 0) (oi := ?_) (v := .agg D.cD) ?_ (by kernel_rfl) (by kernel_rfl) (by kernel_rfl) ?_ (Or.inl ⟨?_, ?_⟩) (by assumption) ?_; rotate_left; (focus ((simp only [List.getElem?_toArray, List.getElem?_cons_zero]); first | done | rfl)); (focus (exact fun _ _ _ h => h)); (focus rfl); (focus (intro wz hSw; exact exec_load_any9 (o := _) (ρ := _) wz 26 (.tmp 1) rfl ⟨b0, 0, none⟩ rfl D.cD _ (DBx.st (And.right hSw)).part Try.underlying26 rfl (DBx.dm (And.right hSw)).info)); try simp only [Act.put, List.setIfInBounds_toArray, List.set_cons_zero, List.set_cons_succ])
  (refine wpAnyH_take (i := 2) (oi := ?_) (v := .agg D.cD) ?_ (by kernel_rfl) (by kernel_rfl) (by kernel_rfl) ?_ (Or.inl ⟨?_, ?_⟩) (by assumption) ?_; rotate_left; (focus ((simp only [List.getElem?_toArray, List.getElem?_cons_succ, List.getElem?_cons_zero]); first | done | rfl)); (focus (exact fun _ _ _ h => h)); (focus rfl); (focus (intro wz hSw; exact exec_load_any9 (o := _) (ρ := _) wz 26 (.tmp 1) rfl ⟨b0, 0, none⟩ rfl D.cD _ (DBx.st (And.right hSw)).part Try.underlying26 rfl (DBx.dm (And.right hSw)).info)); try simp only [Act.put, List.setIfInBounds_toArray, List.set_cons_zero, List.set_cons_succ])
  refine wpAnyH_ready (rs := [1]) (by kernel_rfl) (by simp) ?_
  refine AllReadyH.cons (o := ?_) ?_ (fun K hK => ?_) ?_
  rotate_left
  (focus ((simp only [List.getElem?_toArray, List.getElem?_cons_succ, List.getElem?_cons_zero]); first | done | rfl))
  · skip
    go_simp
    go_at_call 11
    refine (blocks_any D C HR.out _ hHeld.2.dm).mono ?_
    rintro e w8 ⟨f1, Bf1, af1, cf1, rfl, ho, hNm, vv⟩
    have hbn : Below w3.heap.size w3 w8 := hHeld.1.trans (vv.mono hHeld.1.size)
    have HK1 := Lib.hid (And.intro (blk_zat ho) hNm)
    clear ho hNm vv
    try go_wp2_with fail
    refine hK.out _ _ (HSo.out _ hbn) (fun hHeld => ?_)
    clear hK K
    try simp only [Act.put, List.setIfInBounds_toArray, List.set_cons_zero, List.set_cons_succ]
    clear hbn
    refine wpAnyH_ready (rs := [3]) (by kernel_rfl) (by simp) ?_
    refine AllReadyH.cons (o := ?_) ?_ (fun K hK => ?_) ?_
    rotate_left
    (focus ((simp only [List.getElem?_toArray, List.getElem?_cons_succ, List.getElem?_cons_zero]); first | done | rfl))
    · skip
      go_simp
      go_at_call 13
      refine (rblocks9_any D C HR.out _ hHeld.2.dm).mono ?_
      rintro e w9 ⟨f2, Bf2, af2, cf2, rfl, ho, hNm, vv⟩
      have hbn : Below w3.heap.size w3 w9 := hHeld.1.trans (vv.mono hHeld.1.size)
      have HK2 := Lib.hid (And.intro (blk_zat ho) hNm)
      have HK1 := Lib.hid (And.intro (HK1.out.1.below vv) HK1.out.2)
      clear ho hNm vv
      try go_wp2_with fail
      refine hK.out _ _ (HSo.out _ hbn) (fun hHeld => ?_)
      clear hK K
      try simp only [Act.put, List.setIfInBounds_toArray, List.set_cons_zero, List.set_cons_succ]
      clear hbn
      refine wpAnyH_ready (rs := [4]) (by kernel_rfl) (by simp) ?_
      refine AllReadyH.cons (o := ?_) ?_ (fun K hK => ?_) ?_
      rotate_left
      (focus ((simp only [List.getElem?_toArray, List.getElem?_cons_succ, List.getElem?_cons_zero]); first | done | rfl))
      · skip
        go_simp
        go_at_call 12
        refine (rsame01_any D.n D.n cf1 cf2 af1 af2 (fun i => ((f1 i : Nat) : Int)) (fun i => ((f2 i : Nat) : Int)) (by omega) (by omega) _ HK1.out.1 HK2.out.1).mono ?_
        rintro e w10 ⟨bo, rfl, hbo, vv⟩
        have hbt : bo = true := hbo.2 ⟨rfl, fun x hx => congrArg (fun n : Nat => (n : Int)) ((HK1.out.2.uniq HK2.out.2).1 x hx)⟩
        subst hbt
        have hbn : Below w3.heap.size w3 w10 := hHeld.1.trans (vv.mono hHeld.1.size)
        clear hbo vv HK1 HK2
        try go_wp2_with fail
        refine hK.out _ _ (HSo.out _ hbn) (fun hHeld => ?_)
        clear hK K
        try simp only [Act.put, List.setIfInBounds_toArray, List.set_cons_zero, List.set_cons_succ]
        clear hbn
        (refine wpAnyH_take (i := 5) (oi := ?_) (v := ?_) ?_ (by kernel_rfl) (by kernel_rfl) (by kernel_rfl) ?_ (Or.inl ⟨?_, ?_⟩) (by assumption) ?_; rotate_left 2; (focus ((simp only [List.getElem?_toArray, List.getElem?_cons_succ, List.getElem?_cons_zero]); first | done | rfl)); (focus (exact fun _ _ _ h => h)); (focus rfl); (focus (intro wz hSw; (try dsimp only at hSw); go_simp; first | done | with_reducible rfl)); try simp only [Act.put, List.setIfInBounds_toArray, List.set_cons_zero, List.set_cons_succ])
        refine wpAnyH_done (by kernel_rfl) ?_ _
        have HF := Lib.hid (HFw.out _ hHeld.1)
        clear hHeld
        go_wp2_with fail
        go_ret
        exact ⟨rfl, HF.out⟩
      exact AllReadyH.nil
    exact AllReadyH.nil
  exact AllReadyH.nil
end Go.Proofs.Ytgmcfgkjhobiaaa
