import Derived.Test.YtldpmcgkbdejjaaZJFew
import Derived.Test.YtldpmcgkbdejjaaZShelf
import Derived.Test.YtldpmcgkbdejjaaZTFrame
import Derived.Deep.OwnRows
namespace Go.Proofs.Ytldpmcgkbdejjaa
open Go.RowKit Go.Maps Go.WideElems Go.ChangeMaps Go.MapKept
set_option linter.unusedVariables false
set_option linter.unusedSimpArgs false

def errO (b : Bool) : Value := .int .i64 (if b then 0 else 7)
set_option maxHeartbeats 1000000 in
set_option maxRecDepth 100000 in
theorem strClone_any (s : ByteArray) (h : s.size ≤ 100000) (w : World) : Calls Try.prog 36 #[.string s] w fun e w' => e = .returned (.string s) ∧ Below w.heap.size w w' := by
  have HC := Lib.hid (Try.stringslite_Clone s w (by omega))
  go_enter Try.func36, Try.ntmps36
  go_wp2_with (go_at_call 55; refine HC.out.mono ?_; rintro e w2 ⟨rfl, b2⟩)
  go_ret
  exact ⟨rfl, b2⟩

set_option maxHeartbeats 4000000 in
set_option maxRecDepth 100000 in
theorem mall_own (D : Dd) (C : Nat) (hR : DR D C) (s : ByteArray) (m : Nat) (hs : s.size = m) (hm : m ≤ 255) (w : World) (hD : DM w D) :
    Calls Try.prog 22 #[.agg D.cD, .string s] w (AllO D s errO w) := by
  have kb := al w (.cells D.cD 26)
  have HB : Hid (DBx (w.alloc (.cells D.cD 26)) w.heap.size D ∧ Below w.heap.size w (w.alloc (.cells D.cD 26))) := ⟨DBx.new hD, kb⟩
  have HR := Lib.hid hR
  have hss := hs
  have hsz := hD.sz
  have ho := hD.one
  have hbd := Lib.hid (cut_built D.cD hsz s)
  have HS1 := Lib.hid (And.intro hsz ho)
  clear kb hR hD hsz ho hs
  go_enter Try.func22, Try.ntmps22
  go_upto_region 1 with fail
  generalize w.alloc (.cells D.cD 26) = W0 at HB ⊢
  obtain ⟨b, hb0⟩ : ∃ b0, w.heap.size = b0 := ⟨_, rfl⟩
  have Hb0 := Lib.hid hb0
  rw [hb0] at HB
  rw [hb0]
  clear hb0
  have HFw : Hid (∀ W', Below W0.heap.size W0 W' → Below w.heap.size w W') := fun W' h => by
    have hz := HB.out.2.size
    rw [Hb0.out]
    exact HB.out.2.trans (h.mono (by have := Hb0.out; omega))
  have HSo : Hid (∀ W', Below W0.heap.size W0 W' → Below W0.heap.size W0 W' ∧ DBx W' b D ∧ True) := fun W' h => ⟨h, HB.out.1.keep h, trivial⟩
  go_upto_region 3 with fail
  go_cut [7] from 15 to 19 (fun v wx => ∃ b7 : Nat, v = .pointer (some ⟨b7, 0, none⟩) ∧ CBx wx b7 D s ∧ Below W0.heap.size W0 wx)
  case first =>
    refine wp_region_held_drew (S := fun W' => Below W0.heap.size W0 W' ∧ DBx W' b D ∧ True) (by kernel_rfl) (HSo.out _ (Below.refl _ _).drew) (fun hHeld => ?_)
    (refine wpAnyH_take (i := 0) (oi := ?_) (v := .agg D.cD) ?_ (by kernel_rfl) (by kernel_rfl) (by kernel_rfl) ?_ (Or.inl ⟨?_, ?_⟩) (by assumption) ?_; rotate_left; (focus ((simp only [List.getElem?_toArray, List.getElem?_cons_zero]); first | done | rfl)); (focus (exact fun _ _ _ h => h)); (focus rfl); (focus (intro wz hSw; exact exec_load_any9 (o := _) (ρ := _) wz 26 (.tmp 2) rfl ⟨b, 0, none⟩ rfl D.cD _ (DBx.st (And.left (And.right hSw))).part Try.underlying26 rfl (DBx.dm (And.left (And.right hSw))).info)); try simp only [Act.put, List.setIfInBounds_toArray, List.set_cons_zero, List.set_cons_succ])
    (refine wpAnyH_take (i := 1) (oi := ?_) (v := ?_) ?_ (by kernel_rfl) (by kernel_rfl) (by kernel_rfl) ?_ (Or.inl ⟨?_, ?_⟩) (by assumption) ?_; rotate_left 2; (focus ((simp only [List.getElem?_toArray, List.getElem?_cons_succ, List.getElem?_cons_zero]); first | done | rfl)); (focus (exact fun _ _ _ h => h)); (focus rfl); (focus (intro wz hSw; (try dsimp only at hSw); go_simp; first | done | with_reducible rfl)); try simp only [Act.put, List.setIfInBounds_toArray, List.set_cons_zero, List.set_cons_succ])
    refine wpAnyH_ready (rs := [2, 4]) (by kernel_rfl) (by simp) ?_
    refine AllReadyH.cons (o := ?_) ?_ (fun K hK => ?_) ?_
    rotate_left
    (focus ((simp only [List.getElem?_toArray, List.getElem?_cons_succ, List.getElem?_cons_zero]); first | done | rfl))
    · skip
      go_simp
      go_at_call 36
      refine (strClone_any s (by rw [hss]; omega) _).mono ?_
      rintro e w8 ⟨rfl, vv⟩
      have hbn : Below W0.heap.size W0 w8 := hHeld.1.trans (vv.mono hHeld.1.size)
      clear vv
      try go_wp2_with fail
      refine hK.out _ _ (HSo.out _ hbn) (fun hHeld => ?_)
      clear hK K
      try simp only [Act.put, List.setIfInBounds_toArray, List.set_cons_zero, List.set_cons_succ]
      clear hbn
      (refine wpAnyH_take (i := 3) (oi := ?_) (v := (.agg (cutC D.cD s))) ?_ (by kernel_rfl) (by kernel_rfl) (by kernel_rfl) ?_ (Or.inl ⟨?_, ?_⟩) (by assumption) ?_; rotate_left; (focus ((simp only [List.getElem?_toArray, List.getElem?_cons_succ, List.getElem?_cons_zero]); first | done | rfl)); (focus (exact fun _ _ _ h => h)); (focus rfl); (focus (intro wz hSw; exact exec_bld10 wz _ _ rfl #[(0, .agg D.cD), (1, .string s)] (by first | rfl | simp [Act.eval] | (simp; rfl)) _ (hbd.out wz))); try simp only [Act.put, List.setIfInBounds_toArray, List.set_cons_zero, List.set_cons_succ])
      refine wpAnyH_ready (rs := [4]) (by kernel_rfl) (by simp) ?_
      refine AllReadyH.cons (o := ?_) ?_ (fun K hK => ?_) ?_
      rotate_left
      (focus ((simp only [List.getElem?_toArray, List.getElem?_cons_succ, List.getElem?_cons_zero]); first | done | rfl))
      · skip
        refine step_alloc9 (by rfl) 77 (by rfl) (zC 77) (zCut_run _) ?_
        have kk := al w8 (.cells (zC 77) 77)
        have hbn : Below W0.heap.size W0 (w8.alloc (.cells (zC 77) 77)) := hHeld.1.trans (kk.mono hHeld.1.size)
        have H7 : Hid (St (w8.alloc (.cells (zC 77) 77)) 77 w8.heap.size (zC 77) ∧ W0.heap.size ≤ w8.heap.size) := ⟨St.new _ _ _, hHeld.1.size⟩
        refine hK.out _ _ (HSo.out _ hbn) (fun hHeld => ?_)
        clear hK K
        try simp only [Act.put, List.setIfInBounds_toArray, List.set_cons_zero, List.set_cons_succ]
        try simp only [drew_sz9]
        clear kk
        generalize (w8.alloc (.cells (zC 77) 77)) = V7 at H7 hHeld hbn ⊢
        refine wpAnyH_ready (rs := [5]) (by kernel_rfl) (by simp) ?_
        refine AllReadyH.cons (o := ?_) ?_ (fun K hK => ?_) ?_
        rotate_left
        (focus ((simp only [List.getElem?_toArray, List.getElem?_cons_succ, List.getElem?_cons_zero]); first | done | rfl))
        · skip
          refine step_store9 (by rfl) 77 _ _ (by rfl) w8.heap.size 77 (zC 77) (cutC D.cD s) (by rfl) (by rfl) H7.out.1 (by rw [zCut_size, cutC_size HS1.out.1]) (by rw [info_cut9, cutC_size HS1.out.1]) (cutC_one HS1.out.2 s) ?_
          have HE : Hid (CBx (V7.setRow w8.heap.size (cutC D.cD s)) w8.heap.size D s ∧ Below W0.heap.size W0 (V7.setRow w8.heap.size (cutC D.cD s))) := by
            have hb9 := below_setRow9 hHeld.1 H7.out.2 (cutC D.cD s)
            exact ⟨⟨H7.out.1.setRow, HB.out.1.dm.below hb9⟩, hb9⟩
          refine hK.out _ _ (HSo.out _ HE.out.2) (fun hHeld => ?_)
          clear hK K
          try simp only [Act.put, List.setIfInBounds_toArray, List.set_cons_zero, List.set_cons_succ]
          refine wpAnyH_done (by kernel_rfl) ?_ _
          clear hHeld
          go_wp2_with fail
          go_meet
          exact ⟨_, rfl, HE.out⟩
        exact AllReadyH.nil
      exact AllReadyH.nil
    refine AllReadyH.cons (o := ?_) ?_ (fun K hK => ?_) ?_
    rotate_left
    (focus ((simp only [List.getElem?_toArray, List.getElem?_cons_succ, List.getElem?_cons_zero]); first | done | rfl))
    · skip
      refine step_alloc9 (by rfl) 77 (by rfl) (zC 77) (zCut_run _) ?_
      have kk := al W0.drew (.cells (zC 77) 77)
      have hbn : Below W0.heap.size W0 (W0.drew.alloc (.cells (zC 77) 77)) := hHeld.1.trans (kk.mono hHeld.1.size)
      have H7 : Hid (St (W0.drew.alloc (.cells (zC 77) 77)) 77 W0.heap.size (zC 77) ∧ W0.heap.size ≤ W0.heap.size) := ⟨St.new _ _ _, hHeld.1.size⟩
      refine hK.out _ _ (HSo.out _ hbn) (fun hHeld => ?_)
      clear hK K
      try simp only [Act.put, List.setIfInBounds_toArray, List.set_cons_zero, List.set_cons_succ]
      try simp only [drew_sz9]
      clear kk
      generalize (W0.drew.alloc (.cells (zC 77) 77)) = V7 at H7 hHeld hbn ⊢
      refine wpAnyH_ready (rs := [2]) (by kernel_rfl) (by simp) ?_
      refine AllReadyH.cons (o := ?_) ?_ (fun K hK => ?_) ?_
      rotate_left
      (focus ((simp only [List.getElem?_toArray, List.getElem?_cons_succ, List.getElem?_cons_zero]); first | done | rfl))
      · skip
        go_simp
        go_at_call 36
        refine (strClone_any s (by rw [hss]; omega) _).mono ?_
        rintro e w8 ⟨rfl, vv⟩
        have H7 := Lib.hid (And.intro (H7.out.1.keep vv) H7.out.2)
        have hbn : Below W0.heap.size W0 w8 := hHeld.1.trans (vv.mono hHeld.1.size)
        clear vv
        try go_wp2_with fail
        refine hK.out _ _ (HSo.out _ hbn) (fun hHeld => ?_)
        clear hK K
        try simp only [Act.put, List.setIfInBounds_toArray, List.set_cons_zero, List.set_cons_succ]
        clear hbn
        (refine wpAnyH_take (i := 3) (oi := ?_) (v := (.agg (cutC D.cD s))) ?_ (by kernel_rfl) (by kernel_rfl) (by kernel_rfl) ?_ (Or.inl ⟨?_, ?_⟩) (by assumption) ?_; rotate_left; (focus ((simp only [List.getElem?_toArray, List.getElem?_cons_succ, List.getElem?_cons_zero]); first | done | rfl)); (focus (exact fun _ _ _ h => h)); (focus rfl); (focus (intro wz hSw; exact exec_bld10 wz _ _ rfl #[(0, .agg D.cD), (1, .string s)] (by first | rfl | simp [Act.eval] | (simp; rfl)) _ (hbd.out wz))); try simp only [Act.put, List.setIfInBounds_toArray, List.set_cons_zero, List.set_cons_succ])
        refine wpAnyH_ready (rs := [5]) (by kernel_rfl) (by simp) ?_
        refine AllReadyH.cons (o := ?_) ?_ (fun K hK => ?_) ?_
        rotate_left
        (focus ((simp only [List.getElem?_toArray, List.getElem?_cons_succ, List.getElem?_cons_zero]); first | done | rfl))
        · skip
          refine step_store9 (by rfl) 77 _ _ (by rfl) W0.heap.size 77 (zC 77) (cutC D.cD s) (by rfl) (by rfl) H7.out.1 (by rw [zCut_size, cutC_size HS1.out.1]) (by rw [info_cut9, cutC_size HS1.out.1]) (cutC_one HS1.out.2 s) ?_
          have HE : Hid (CBx (w8.setRow W0.heap.size (cutC D.cD s)) W0.heap.size D s ∧ Below W0.heap.size W0 (w8.setRow W0.heap.size (cutC D.cD s))) := by
            have hb9 := below_setRow9 hHeld.1 H7.out.2 (cutC D.cD s)
            exact ⟨⟨H7.out.1.setRow, HB.out.1.dm.below hb9⟩, hb9⟩
          refine hK.out _ _ (HSo.out _ HE.out.2) (fun hHeld => ?_)
          clear hK K
          try simp only [Act.put, List.setIfInBounds_toArray, List.set_cons_zero, List.set_cons_succ]
          refine wpAnyH_done (by kernel_rfl) ?_ _
          clear hHeld
          go_wp2_with fail
          go_meet
          exact ⟨_, rfl, HE.out⟩
        exact AllReadyH.nil
      exact AllReadyH.nil
    exact AllReadyH.nil
  case rest =>
    obtain ⟨b7, rfl, hcb, hbl⟩ := hcut
    have HCb := Lib.hid (And.intro hcb hbl)
    clear hcb hbl
    generalize wc = V at HCb ⊢
    go_wp2_with fail
    go_loopw [8, 9, 10, 11] (fun v8 v9 _ _ wr => ∃ (k : Nat) (a : Option Addr) (c p : Nat), v8 = .slice a k c ∧ v9 = .int .i64 ((p : Nat) : Int) ∧ p ≤ m ∧ k ≤ m ∧ Hid (tkE D s k = p ∧ (∀ j, j < k → ¬ StopS D s j) ∧ wr.ownsRow V.heap.size 51 3 v8 k (tks (tkL D s k)) ∧ Below V.heap.size V wr)) (fun _ v _ _ _ => m - (intOf v).toNat)
    case atStart => exact ⟨0, none, 0, 0, rfl, rfl, by omega, by omega, rfl, fun j hj => absurd hj (by omega), World.ownsRow_nil _ _ _ _, Below.refl _ _⟩
    case round =>
      obtain ⟨k, a, c, p, rfl, rfl, hp, hk, HX⟩ := hrel
      have HFr : Hid (Below w.heap.size w wr) := HFw.out _ (HCb.out.2.trans (HX.out.2.2.2.mono HCb.out.2.size))
      by_cases hlt : p < m
      · have i1 : (p : Int) < (m : Int) := by omega
        have HL := Lib.hid (mlongest_any D C HR.out s m hss hm p b7 wr (HCb.out.1.keep HX.out.2.2.2))
        obtain ⟨mk, ln, hml⟩ : ∃ mk ln, longF D (zof s) p (m - p) = (mk, ln) := ⟨_, _, rfl⟩
        rw [hml] at HL
        have Hml : Hid (longF D (zof s) p (s.size - p) = (mk, ln)) := by show _ = _; rw [hss]; exact hml
        have hln : ln ≤ m - p := by have := longF_le D (zof s) p (m - p); rw [hml] at this; exact this
        clear hml
        go_upto_region 8 with (go_at_call 37; refine HL.out.mono ?_; rintro e w2 ⟨rfl, b2⟩)
        have H2 : Hid (w2.ownsRow V.heap.size 51 3 (.slice a k c) k (tks (tkL D s k)) ∧ Below V.heap.size V w2) := ⟨ownsRow_keep HX.out.2.2.1 b2, HX.out.2.2.2.trans (b2.mono HX.out.2.2.2.size)⟩
        clear b2 HL
        by_cases h0 : ln = 0
        · have HZ : Hid (AllO D s errO w (.returned (.tuple #[.slice a k c, .int .i64 ((p : Nat) : Int), .int .i64 7])) w2) := by
            refine ⟨k, a, c, stop_none HX.out.1 Hml.out h0, HX.out.2.1, ?_, ownsRow_base H2.out.1 (HFw.out _ HCb.out.2).size, tk_count HX.out.2.1, HFw.out _ (HCb.out.2.trans (H2.out.2.mono HCb.out.2.size))⟩
            rw [HX.out.1, show decide (s.size ≤ p) = false by simp; omega]
            rfl
          have h1 : (((ln : Nat) : Int) == 0) = true := by rw [h0]; rfl
          clear h0
          go_wp2_with fail
          go_ret3
          exact HZ.out
        · have h1 : (((ln : Nat) : Int) == 0) = false := by rw [beq_eq_false_iff_ne]; omega
          have HT := Lib.hid (tk_succ HX.out.1 Hml.out)
          have HN : Hid (∀ j, j < k + 1 → ¬ StopS D s j) := fun j hj => by
            by_cases e : j = k
            · rw [e]; exact stop_not HX.out.1 Hml.out (by omega) (by omega)
            · exact HX.out.2.1 j (by omega)
          have f1 := (HCb.out.1.keep H2.out.2).fs
          have i2 : (p : Int) + (ln : Int) ≤ (m : Int) := by omega
          have i3 : (p : Int) ≤ (p : Int) + (ln : Int) := by omega
          have hO := H2.out.1
          have hsv := H2.out.2.size
          obtain ⟨iT, hT, hT0, hT1, hT2⟩ := info_parts Try.info_tok
          go_wp2_with (at_builtin; refine wpList_append_own _ rfl _ _ 46 rfl V.heap.size 51 iT (.agg #[.int .i64 0, .string ⟨#[]⟩, .int .i64 0]) 3 32 Try.underlying46 hT hT0 hT1 hT2 rfl (by decide) _ _ _ rfl (hO.alloc _) ⟨w2.heap.size, 0, none⟩ 1 1 (#[.int .i64 mk, .string (s.extract p (p + ln)), .int .i64 ((p : Nat) : Int)]).toList rfl rfl (World.news_of_block (cs := #[.int .i64 mk, .string (s.extract p (p + ln)), .int .i64 ((p : Nat) : Int)]) (St.new _ _ _)) ?_ ?_ ?_ ?_ ?_)
          · exact ⟨rfl, rfl, rfl⟩
          · unfold maxLen; omega
          · omega
          · simp; omega
          intro v' w5 hown5 hgrow5 _
          obtain ⟨a5, c5, rfl⟩ := ownsRow_slice hown5
          have hb5 : Below V.heap.size V w5 := (H2.out.2.trans ((al w2 _).mono hsv)).grown hgrow5 (by simp; omega) (fun g e => (hO.lt g e).1)
          have HX5 : Hid (w5.ownsRow V.heap.size 51 3 (.slice a5 (k + 1) c5) (k + 1) (tks (tkL D s (k + 1))) ∧ Below V.heap.size V w5) := ⟨by rw [HT.out.1, tks_append]; exact hown5, hb5⟩
          clear hown5 hgrow5 hb5 hO f1
          go_wp2_with fail
          go_roundw
          case rel => exact ⟨k + 1, a5, c5, p + ln, rfl, by go_num, by omega, by have := tk_count HN.out; omega, HT.out.2, HN.out, HX5.out.1, HX5.out.2⟩
          case measure => simp [intOf]; omega
      · have i1 : ¬ ((p : Int) < (m : Int)) := by omega
        have hpm : p = m := by omega
        have HZ : Hid (AllO D s errO w (.returned (.tuple #[.slice a k c, .int .i64 ((m : Nat) : Int), .int .i64 0])) wr) := by
          refine ⟨k, a, c, stop_end (by rw [HX.out.1]; omega), HX.out.2.1, ?_, ownsRow_base HX.out.2.2.1 (HFw.out _ HCb.out.2).size, tk_count HX.out.2.1, HFr.out⟩
          rw [HX.out.1, hpm, show decide (s.size ≤ m) = true by simp; omega]
          rfl
        clear hpm
        go_wp2_with fail
        go_ret3
        exact HZ.out
end Go.Proofs.Ytldpmcgkbdejjaa
