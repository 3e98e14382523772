import Derived.Test.YtjehgdjlncofeaaZUCut
import Derived.Deep.RegionHeld
import Derived.Deep.RegionHeld3
import Derived.OrdersHeld
namespace Go.Proofs.Ytjehgdjlncofeaa
open Go.RowKit Go.Maps Go.WideElems Go.ChangeMaps Go.MapKept
set_option linter.unusedVariables false
set_option linter.unusedSimpArgs false

set_option maxHeartbeats 4000000 in
set_option maxRecDepth 100000 in
theorem mlongest_any (D : Dd) (C : Nat) (hR : DR D C) (s : ByteArray) (m : Nat) (hs : s.size = m) (hm : m ≤ 255) (p : Nat) (b : Nat) (w : World) (hC : CBx w b D s) :
    Calls Try.prog 24 #[.pointer (some ⟨b, 0, none⟩), .int .i64 ((p : Nat) : Int)] w fun e w' => e = .returned (.tuple #[.int .i64 (longF D (zof s) p (m - p)).1, .int .i64 (((longF D (zof s) p (m - p)).2 : Nat) : Int)]) ∧ Below w.heap.size w w' := by
  have HC := Lib.hid hC
  have HR := Lib.hid hR
  have hss := hs
  have f1 := hC.fp
  have hfz := hC.st.thaw_ 260
  have i0 : ¬ ((p : Int) < 0) := by omega
  have HSm := Lib.hid hC.same
  clear hs hR hC
  go_enter Try.func24, Try.ntmps24
  go_wp2_with fail
  rw [HSm.out]
  clear HSm f1 hfz i0
  go_loopw [6, 7, 8, 9, 10] (fun vm vl vs vi _ wr => ∃ (k : Nat), k ≤ m - p ∧ vm = .int .i64 (longF D (zof s) p k).1 ∧ vl = .int .i64 (((longF D (zof s) p k).2 : Nat) : Int) ∧ vs = .int .i64 (runF D 0 (fun i => zof s (p + i)) k) ∧ vi = .int .i64 ((p + k : Nat) : Int) ∧ Hid (Below w.heap.size w wr)) (fun _ _ _ v _ _ => m - (intOf v).toNat)
  case atStart => exact ⟨0, by omega, rfl, rfl, rfl, rfl, Below.refl _ _⟩
  case round =>
    obtain ⟨k, hk, rfl, rfl, rfl, rfl, HX⟩ := hrel
    have HCr := Lib.hid (HC.out.keep HX.out)
    have f1 := HCr.out.fs
    obtain ⟨q, hq⟩ : ∃ q, p + k = q := ⟨_, rfl⟩
    have Hq := Lib.hid hq
    obtain ⟨mk, hmk⟩ : ∃ mk, (longF D (zof s) p k).1 = mk := ⟨_, rfl⟩
    obtain ⟨ln, hln⟩ : ∃ ln, (longF D (zof s) p k).2 = ln := ⟨_, rfl⟩
    obtain ⟨st, hst⟩ : ∃ st, runF D 0 (fun i => zof s (p + i)) k = st := ⟨_, rfl⟩
    rw [hq, hmk, hln, hst]
    have HL : Hid (longF D (zof s) p k = (mk, ln) ∧ runF D 0 (fun i => zof s (p + i)) k = st) := ⟨by rw [← hmk, ← hln], hst⟩
    clear hq hmk hln hst
    by_cases hlt : q < m
    · have i1 : (q : Int) < (m : Int) := by omega
      have i2 : q < 255 := by omega
      have hks : q < s.size := by rw [hss]; exact hlt
      obtain ⟨bt, hbe⟩ : ∃ bt, (s[q]'hks).toNat = bt := ⟨_, rfl⟩
      have hbz := zof_at s q hks
      rw [hbe] at hbz
      have hbt : bt < 256 := by rw [hbz]; exact zof_lt s q
      have Hbt := Lib.hid hbt
      have HSt : Hid (stepF D st bt = runF D 0 (fun i => zof s (p + i)) (k + 1)) := by
        show _ = stepF D (runF D 0 (fun i => zof s (p + i)) k) (zof s (p + k))
        rw [HL.out.2, Hq.out, ← hbz]
      clear hbz hbt
      go_upto_region 9 with (go_at_call 33; refine (pass_any b q i2 st _).mono ?_; rintro e w1 ⟨rfl, b1⟩)
      have HB1 := Lib.hid (HX.out.trans (b1.mono HX.out.size))
      clear b1 f1
      have HSo : Hid (∀ W', Below w.heap.size w W' → Below w.heap.size w W' ∧ CBx W' b D s ∧ W'.cell? ⟨b, 258, none⟩ = some (.string s)) := fun W' h => ⟨h, HC.out.keep h, (HC.out.keep h).fs⟩
      have Hi2 := Lib.hid i2
      clear i2
      refine wp_region_held_drew (S := fun W' => Below w.heap.size w W' ∧ CBx W' b D s ∧ W'.cell? ⟨b, 258, none⟩ = some (.string s)) (by kernel_rfl) (HSo.out _ HB1.out.drew) (fun hHeld => ?_)
      (refine wpAnyH_take (i := 0) (oi := ?_) (v := ?_) ?_ (by kernel_rfl) (by kernel_rfl) (by kernel_rfl) ?_ (Or.inl ⟨?_, ?_⟩) (by assumption) ?_; rotate_left 2; (focus ((simp only [List.getElem?_toArray, List.getElem?_cons_zero]); first | done | rfl)); (focus (exact fun _ _ _ h => h)); (focus rfl); (focus (intro wz hSw; (try dsimp only at hSw); go_simp; first | done | with_reducible rfl)); try simp only [Act.put, List.setIfInBounds_toArray, List.set_cons_zero, List.set_cons_succ])
      (refine wpAnyH_take (i := 1) (oi := ?_) (v := ?_) ?_ (by kernel_rfl) (by kernel_rfl) (by kernel_rfl) ?_ (Or.inl ⟨?_, ?_⟩) (by assumption) ?_; rotate_left 2; (focus ((simp only [List.getElem?_toArray, List.getElem?_cons_succ, List.getElem?_cons_zero]); first | done | rfl)); (focus (exact fun _ _ _ h => h)); (focus rfl); (focus (intro wz hSw; (try dsimp only at hSw); go_simp; first | done | with_reducible rfl)); try simp only [Act.put, List.setIfInBounds_toArray, List.set_cons_zero, List.set_cons_succ])
      (refine wpAnyH_take (i := 2) (oi := ?_) (v := ?_) ?_ (by kernel_rfl) (by kernel_rfl) (by kernel_rfl) ?_ (Or.inl ⟨?_, ?_⟩) (by assumption) ?_; rotate_left 2; (focus ((simp only [List.getElem?_toArray, List.getElem?_cons_succ, List.getElem?_cons_zero]); first | done | rfl)); (focus (exact fun _ _ _ h => h)); (focus rfl); (focus (intro wz hSw; (try dsimp only at hSw); go_simp; first | done | with_reducible rfl)); try simp only [Act.put, List.setIfInBounds_toArray, List.set_cons_zero, List.set_cons_succ])
      (refine wpAnyH_take (i := 3) (oi := ?_) (v := .agg D.cD) ?_ (by kernel_rfl) (by kernel_rfl) (by kernel_rfl) ?_ (Or.inl ⟨?_, ?_⟩) (by assumption) ?_; rotate_left; (focus ((simp only [List.getElem?_toArray, List.getElem?_cons_succ, List.getElem?_cons_zero]); first | done | rfl)); (focus (exact fun _ _ _ h => h)); (focus rfl); (focus (intro wz hSw; exact exec_load_any9 (o := _) (ρ := _) wz 26 (.tmp 42) rfl ⟨b, 0, none⟩ rfl D.cD _ (CBx.part (And.left (And.right hSw))) Try.underlying26 rfl (DM.info (CBx.dm (And.left (And.right hSw)))))); try simp only [Act.put, List.setIfInBounds_toArray, List.set_cons_zero, List.set_cons_succ])
      (refine wpAnyH_take (i := 4) (oi := ?_) (v := ?_) ?_ (by kernel_rfl) (by kernel_rfl) (by kernel_rfl) ?_ (Or.inl ⟨?_, ?_⟩) (by assumption) ?_; rotate_left 2; (focus ((simp only [List.getElem?_toArray, List.getElem?_cons_succ, List.getElem?_cons_zero]); first | done | rfl)); (focus (exact fun _ _ _ h => h)); (focus rfl); (focus (intro wz hSw; (try dsimp only at hSw); go_simp; first | done | with_reducible rfl)); try simp only [Act.put, List.setIfInBounds_toArray, List.set_cons_zero, List.set_cons_succ])
      (refine wpAnyH_take (i := 5) (oi := ?_) (v := ?_) ?_ (by kernel_rfl) (by kernel_rfl) (by kernel_rfl) ?_ (Or.inl ⟨?_, ?_⟩) (by assumption) ?_; rotate_left 2; (focus ((simp only [List.getElem?_toArray, List.getElem?_cons_succ, List.getElem?_cons_zero]); first | done | rfl)); (focus (exact fun _ _ _ h => h)); (focus rfl); (focus (intro wz hSw; (try dsimp only at hSw); go_simp; first | done | with_reducible rfl)); try simp only [Act.put, List.setIfInBounds_toArray, List.set_cons_zero, List.set_cons_succ])
      (refine wpAnyH_take (i := 6) (oi := ?_) (v := ?_) ?_ (by kernel_rfl) (by kernel_rfl) (by kernel_rfl) ?_ (Or.inl ⟨?_, ?_⟩) (by assumption) ?_; rotate_left 2; (focus ((simp only [List.getElem?_toArray, List.getElem?_cons_succ, List.getElem?_cons_zero]); first | done | rfl)); (focus (exact fun _ _ _ h => h)); (focus rfl); (focus (intro wz hSw; (try dsimp only at hSw); go_simp; first | done | with_reducible rfl)); try simp only [Act.put, List.setIfInBounds_toArray, List.set_cons_zero, List.set_cons_succ])
      (refine wpAnyH_take (i := 7) (oi := ?_) (v := ?_) ?_ (by kernel_rfl) (by kernel_rfl) (by kernel_rfl) ?_ (Or.inl ⟨?_, ?_⟩) (by assumption) ?_; rotate_left 2; (focus ((simp only [List.getElem?_toArray, List.getElem?_cons_succ, List.getElem?_cons_zero]); first | done | rfl)); (focus (exact fun _ _ _ h => h)); (focus rfl); (focus (intro wz hSw; (try dsimp only at hSw); go_simp; first | done | with_reducible rfl)); try simp only [Act.put, List.setIfInBounds_toArray, List.set_cons_zero, List.set_cons_succ])
      (refine wpAnyH_take (i := 8) (oi := ?_) (v := ?_) ?_ (by kernel_rfl) (by kernel_rfl) (by kernel_rfl) ?_ (Or.inl ⟨?_, ?_⟩) (by assumption) ?_; rotate_left 2; (focus ((simp only [List.getElem?_toArray, List.getElem?_cons_succ, List.getElem?_cons_zero]); first | done | rfl)); (focus (exact fun _ _ _ h => h)); (focus rfl); (focus (intro wz hSw; (try dsimp only at hSw); go_simp; first | done | with_reducible rfl)); try simp only [Act.put, List.setIfInBounds_toArray, List.set_cons_zero, List.set_cons_succ])
      (refine wpAnyH_take (i := 9) (oi := ?_) (v := ?_) ?_ (by kernel_rfl) (by kernel_rfl) (by kernel_rfl) ?_ (Or.inl ⟨?_, ?_⟩) (by assumption) ?_; rotate_left 2; (focus ((simp only [List.getElem?_toArray, List.getElem?_cons_succ, List.getElem?_cons_zero]); first | done | rfl)); (focus (exact fun _ _ _ h => h)); (focus rfl); (focus (intro wz hSw; (try dsimp only at hSw); go_simp; first | done | with_reducible rfl)); try simp only [Act.put, List.setIfInBounds_toArray, List.set_cons_zero, List.set_cons_succ])
      (refine wpAnyH_take (i := 10) (oi := ?_) (v := ?_) ?_ (by kernel_rfl) (by kernel_rfl) (by kernel_rfl) ?_ (Or.inl ⟨?_, ?_⟩) (by assumption) ?_; rotate_left 2; (focus ((simp only [List.getElem?_toArray, List.getElem?_cons_succ, List.getElem?_cons_zero]); first | done | rfl)); (focus (exact fun _ _ _ h => h)); (focus rfl); (focus (intro wz hSw; (try dsimp only at hSw); go_simp; first | done | with_reducible rfl)); try simp only [Act.put, List.setIfInBounds_toArray, List.set_cons_zero, List.set_cons_succ])
      refine wpAnyH_ready (rs := [11]) (by kernel_rfl) (by simp) ?_
      refine AllReadyH.cons (o := ?_) ?_ (fun K hK => ?_) ?_
      rotate_left
      (focus ((simp only [List.getElem?_toArray, List.getElem?_cons_succ, List.getElem?_cons_zero]); first | done | rfl))
      · skip
        go_simp
        go_at_call 30
        refine (dstep_any D C HR.out st bt Hbt.out _ hHeld.2.1.dm).mono ?_
        rintro e wj ⟨rfl, vj⟩
        have hbn : Below w.heap.size w wj := hHeld.1.trans (vj.mono hHeld.1.size)
        clear vj
        try go_wp2_with fail
        refine hK.out _ _ (HSo.out _ hbn) (fun hHeld => ?_)
        clear hK K
        try simp only [Act.put, List.setIfInBounds_toArray, List.set_cons_zero, List.set_cons_succ]
        (refine wpAnyH_take (i := 12) (oi := ?_) (v := ?_) ?_ (by kernel_rfl) (by kernel_rfl) (by kernel_rfl) ?_ (Or.inl ⟨?_, ?_⟩) (by assumption) ?_; rotate_left 2; (focus ((simp only [List.getElem?_toArray, List.getElem?_cons_succ, List.getElem?_cons_zero]); first | done | rfl)); (focus (exact fun _ _ _ h => h)); (focus rfl); (focus (intro wz hSw; (try dsimp only at hSw); go_simp; first | done | with_reducible rfl)); try simp only [Act.put, List.setIfInBounds_toArray, List.set_cons_zero, List.set_cons_succ])
        refine wpAnyH_done (by kernel_rfl) ?_ _
        have HBn := Lib.hid hbn
        clear hHeld hbn
        rw [HSt.out]
        have HR2 := Lib.hid HR.out
        by_cases hd : runF D 0 (fun i => zof s (p + i)) (k + 1) = -1
        · have HZ : Hid (longF D (zof s) p (m - p) = (mk, ln)) := by
            show _ = _
            rw [longF_dead hd (by omega) (by have := Hq.out; omega)]
            exact HL.out.1
          rw [hd]
          clear hd
          have HCn := Lib.hid (HC.out.keep HBn.out)
          have HRm := Lib.hid (remember_any b D s _ HCn.out)
          go_wp2_with (go_at_call 35; refine HRm.out.mono ?_; rintro e w3 ⟨rfl, h3⟩; rw [h3]; clear h3)
          go_ret2
          exact ⟨by rw [HZ.out]; rfl, HBn.out⟩
        · obtain ⟨r, hr⟩ : ∃ r, runF D 0 (fun i => zof s (p + i)) (k + 1) = r := ⟨_, rfl⟩
          have Hr := Lib.hid hr
          rw [hr] at hd
          rw [hr]
          clear hr
          have hd2 : (r == -1) = false := by rw [beq_eq_false_iff_ne]; exact hd
          clear hd
          have HCn := Lib.hid (HC.out.keep HBn.out)
          have HMk := Lib.hid (dmark_any D C HR.out r wj HCn.out.dm)
          have HM2 : Hid (markF D r = mkA D (zof s) p (k + 1)) := by show _ = _; unfold mkA; rw [Hr.out]
          go_upto_region 12 with (first | (refine wpList_load_any9 (by rfl) 26 _ rfl ⟨b, 0, none⟩ rfl D.cD _ HCn.out.part Try.underlying26 rfl HCn.out.dm.info ?_) | (go_at_call 34; refine HMk.out.mono ?_; rintro e w3 ⟨rfl, b3⟩))
          have HB3 := Lib.hid (HBn.out.trans (b3.mono HBn.out.size))
          clear b3 HMk
          rw [HM2.out]
          have HC3 := Lib.hid (HC.out.keep HB3.out)
          have g1 := HC3.out.fp
          have hfz := HC3.out.st.thaw_ 260
          have HSm := Lib.hid HC3.out.same
          obtain ⟨x, hx⟩ : ∃ x, mkA D (zof s) p (k + 1) = x := ⟨_, rfl⟩
          have Hx := Lib.hid hx
          rw [hx]
          clear hx
          have j1 : ((q : Nat) : Int) + 1 - (p : Int) = ((k + 1 : Nat) : Int) := by have := Hq.out; omega
          by_cases hx1 : x = -1
          · have h5 : (x != -1) = false := by rw [hx1]; rfl
            have HN : Hid (longF D (zof s) p (k + 1) = (mk, ln)) := by
              show _ = _
              rw [longF_no (by rw [Hx.out, hx1])]
              exact HL.out.1
            clear hx1
            go_wp2_with fail
            go_roundw
            case rel => exact ⟨k + 1, by have := Hq.out; omega, by rw [HN.out], by rw [HN.out], by rw [Hr.out], by have := Hq.out; go_num, HB3⟩
            case measure => simp [intOf]; omega
          · have h5 : (x != -1) = true := by rw [bne_iff_ne]; exact hx1
            have HN : Hid (longF D (zof s) p (k + 1) = (x, k + 1)) := by
              show _ = _
              rw [longF_yes (by rw [Hx.out]; exact hx1), Hx.out]
            clear hx1
            go_wp2_with fail
            rw [HSm.out]
            go_roundw
            case rel => exact ⟨k + 1, by have := Hq.out; omega, by rw [HN.out], (by rw [HN.out]; simp), by rw [Hr.out], by have := Hq.out; go_num, HB3⟩
            case measure => simp [intOf]; omega
      exact AllReadyH.nil
    · have i1 : ¬ ((q : Int) < (m : Int)) := by omega
      have HZ : Hid (longF D (zof s) p (m - p) = (mk, ln)) := by
        show _ = _
        rw [show m - p = k by have := Hq.out; omega]
        exact HL.out.1
      have HRm := Lib.hid (remember_any b D s wr HCr.out)
      go_wp2_with (go_at_call 35; refine HRm.out.mono ?_; rintro e w3 ⟨rfl, h3⟩; rw [h3]; clear h3)
      go_ret2
      exact ⟨by rw [HZ.out]; rfl, HX.out⟩

set_option maxHeartbeats 1000000 in
set_option maxRecDepth 100000 in
theorem mlongest_neg (p : Int) (hp : p < 0) (b : Nat) (w : World) :
    Calls Try.prog 24 #[.pointer (some ⟨b, 0, none⟩), .int .i64 p] w fun e w' => e = .returned (.tuple #[.int .i64 (-1), .int .i64 0]) ∧ w' = w := by
  go_enter Try.func24, Try.ntmps24
  go_wp2_with fail
  go_ret2
  exact ⟨rfl, rfl⟩
/-- The answer at any place. -/
def longI (D : Dd) (s : ByteArray) (p : Int) : Int × Nat := if p < 0 then (-1, 0) else longF D (zof s) p.toNat (s.size - p.toNat)
theorem longI_nat (D : Dd) (s : ByteArray) (p : Nat) : longI D s ((p : Nat) : Int) = longF D (zof s) p (s.size - p) := by
  unfold longI
  rw [if_neg (by omega)]
  rfl
theorem longI_neg (D : Dd) (s : ByteArray) {p : Int} (h : p < 0) : longI D s p = (-1, 0) := if_pos h
theorem mlongest_int (D : Dd) (C : Nat) (hR : DR D C) (s : ByteArray) (hm : s.size ≤ 255) (p : Int) (b : Nat) (w : World) (hC : CBx w b D s) :
    Calls Try.prog 24 #[.pointer (some ⟨b, 0, none⟩), .int .i64 p] w fun e w' => e = .returned (.tuple #[.int .i64 (longI D s p).1, .int .i64 (((longI D s p).2 : Nat) : Int)]) ∧ Below w.heap.size w w' := by
  by_cases h : p < 0
  · rw [longI_neg D s h]
    refine (mlongest_neg p h b w).mono ?_
    rintro e w' ⟨rfl, rfl⟩
    exact ⟨rfl, Below.refl _ _⟩
  · obtain ⟨q, rfl⟩ : ∃ q : Nat, p = (q : Int) := ⟨p.toNat, by omega⟩
    rw [longI_nat]
    exact mlongest_any D C hR s s.size rfl hm q b w hC
end Go.Proofs.Ytjehgdjlncofeaa
