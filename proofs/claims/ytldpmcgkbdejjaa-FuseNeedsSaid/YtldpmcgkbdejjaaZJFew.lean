import Derived.Test.YtldpmcgkbdejjaaZPRef8
import Derived.Test.YtldpmcgkbdejjaaZPRun
import Derived.Test.YtldpmcgkbdejjaaZSClose
import Derived.Test.YtldpmcgkbdejjaaZTRefW
import Derived.Test.YtldpmcgkbdejjaaZTok
import Derived.Test.YtldpmcgkbdejjaaZUCut
import Derived.Deep.RegionHeld
import Derived.Deep.RegionHeld3
import Derived.OrdersHeld
namespace Go.Proofs.Ytldpmcgkbdejjaa
open Go.RowKit Go.Maps Go.WideElems Go.ChangeMaps Go.MapKept
set_option linter.unusedVariables false
set_option linter.unusedSimpArgs false

set_option maxHeartbeats 4000000 in
set_option maxRecDepth 100000 in
theorem mlongest_any (D : Dd) (C : Nat) (hR : DR D C) (s : ByteArray) (m : Nat) (hs : s.size = m) (hm : m ≤ 255) (p : Nat) (b : Nat) (w : World) (hC : CBx w b D s) :
    Calls Try.prog 37 #[.pointer (some ⟨b, 0, none⟩), .int .i64 ((p : Nat) : Int)] w fun e w' => e = .returned (.tuple #[.int .i64 (longF D (zof s) p (m - p)).1, .int .i64 (((longF D (zof s) p (m - p)).2 : Nat) : Int)]) ∧ Below w.heap.size w w' := by
  have HC := Lib.hid hC
  have HR := Lib.hid hR
  have hss := hs
  have f1 := hC.fp
  have hfz := hC.st.thaw_ 260
  have i0 : ¬ ((p : Int) < 0) := by omega
  have HSm := Lib.hid hC.same
  clear hs hR hC
  go_enter Try.func37, Try.ntmps37
  go_wp2_with fail
  rw [HSm.out]
  clear HSm f1 hfz i0
  go_loopw [6, 7, 8, 9, 10] (fun vm vl vs vi _ wr => ∃ (k : Nat), k ≤ m - p ∧ vm = .int .i64 (longF D (zof s) p k).1 ∧ vl = .int .i64 (((longF D (zof s) p k).2 : Nat) : Int) ∧ vs = .int .i64 (runF D 0 (fun i => zof s (p + i)) k) ∧ vi = .int .i64 ((p + k : Nat) : Int) ∧ Hid (Below w.heap.size w wr)) (fun _ _ _ v _ _ => m - (intOf v).toNat)
  case atStart => exact ⟨0, by omega, rfl, rfl, rfl, rfl, Below.refl _ _⟩
  case round =>
    obtain ⟨k, hk, rfl, rfl, rfl, rfl, HX⟩ := hrel
    have HCr := Lib.hid (HC.out.keep HX.out)
    have f1 := HCr.out.fs
    obtain ⟨q, hq⟩ : ∃ q, p + k = q := ⟨_, rfl⟩
    have Hq := Lib.hid hq
    obtain ⟨mk, hmk⟩ : ∃ mk, (longF D (zof s) p k).1 = mk := ⟨_, rfl⟩
    obtain ⟨ln, hln⟩ : ∃ ln, (longF D (zof s) p k).2 = ln := ⟨_, rfl⟩
    obtain ⟨st, hst⟩ : ∃ st, runF D 0 (fun i => zof s (p + i)) k = st := ⟨_, rfl⟩
    rw [hq, hmk, hln, hst]
    have HL : Hid (longF D (zof s) p k = (mk, ln) ∧ runF D 0 (fun i => zof s (p + i)) k = st) := ⟨by rw [← hmk, ← hln], hst⟩
    clear hq hmk hln hst
    by_cases hlt : q < m
    · have i1 : (q : Int) < (m : Int) := by omega
      have i2 : q < 255 := by omega
      have hks : q < s.size := by rw [hss]; exact hlt
      obtain ⟨bt, hbe⟩ : ∃ bt, (s[q]'hks).toNat = bt := ⟨_, rfl⟩
      have hbz := zof_at s q hks
      rw [hbe] at hbz
      have hbt : bt < 256 := by rw [hbz]; exact zof_lt s q
      have Hbt := Lib.hid hbt
      have HSt : Hid (stepF D st bt = runF D 0 (fun i => zof s (p + i)) (k + 1)) := by
        show _ = stepF D (runF D 0 (fun i => zof s (p + i)) k) (zof s (p + k))
        rw [HL.out.2, Hq.out, ← hbz]
      clear hbz hbt
      go_upto_region 9 with (go_at_call 56; refine (pass_any b q i2 st _).mono ?_; rintro e w1 ⟨rfl, b1⟩)
      have HB1 := Lib.hid (HX.out.trans (b1.mono HX.out.size))
      clear b1 f1
      have HSo : Hid (∀ W', Below w.heap.size w W' → Below w.heap.size w W' ∧ CBx W' b D s ∧ W'.cell? ⟨b, 258, none⟩ = some (.string s)) := fun W' h => ⟨h, HC.out.keep h, (HC.out.keep h).fs⟩
      have Hi2 := Lib.hid i2
      clear i2
      refine wp_region_held_drew (S := fun W' => Below w.heap.size w W' ∧ CBx W' b D s ∧ W'.cell? ⟨b, 258, none⟩ = some (.string s)) (by kernel_rfl) (HSo.out _ HB1.out.drew) (fun hHeld => ?_)
      (refine wpAnyH_take (i := 0) (oi := ?_) (v := ?_) ?_ (by kernel_rfl) (by kernel_rfl) (by kernel_rfl) ?_ (Or.inl ⟨?_, ?_⟩) (by assumption) ?_; rotate_left 2; (focus ((simp only [List.getElem?_toArray, List.getElem?_cons_zero]); first | done | rfl)); (focus (exact fun _ _ _ h => h)); (focus rfl); (focus (intro wz hSw; (try dsimp only at hSw); go_simp; first | done | with_reducible rfl)); try simp only [Act.put, List.setIfInBounds_toArray, List.set_cons_zero, List.set_cons_succ])
      (refine wpAnyH_take (i := 1) (oi := ?_) (v := ?_) ?_ (by kernel_rfl) (by kernel_rfl) (by kernel_rfl) ?_ (Or.inl ⟨?_, ?_⟩) (by assumption) ?_; rotate_left 2; (focus ((simp only [List.getElem?_toArray, List.getElem?_cons_succ, List.getElem?_cons_zero]); first | done | rfl)); (focus (exact fun _ _ _ h => h)); (focus rfl); (focus (intro wz hSw; (try dsimp only at hSw); go_simp; first | done | with_reducible rfl)); try simp only [Act.put, List.setIfInBounds_toArray, List.set_cons_zero, List.set_cons_succ])
      (refine wpAnyH_take (i := 2) (oi := ?_) (v := ?_) ?_ (by kernel_rfl) (by kernel_rfl) (by kernel_rfl) ?_ (Or.inl ⟨?_, ?_⟩) (by assumption) ?_; rotate_left 2; (focus ((simp only [List.getElem?_toArray, List.getElem?_cons_succ, List.getElem?_cons_zero]); first | done | rfl)); (focus (exact fun _ _ _ h => h)); (focus rfl); (focus (intro wz hSw; (try dsimp only at hSw); go_simp; first | done | with_reducible rfl)); try simp only [Act.put, List.setIfInBounds_toArray, List.set_cons_zero, List.set_cons_succ])
      (refine wpAnyH_take (i := 3) (oi := ?_) (v := .agg D.cD) ?_ (by kernel_rfl) (by kernel_rfl) (by kernel_rfl) ?_ (Or.inl ⟨?_, ?_⟩) (by assumption) ?_; rotate_left; (focus ((simp only [List.getElem?_toArray, List.getElem?_cons_succ, List.getElem?_cons_zero]); first | done | rfl)); (focus (exact fun _ _ _ h => h)); (focus rfl); (focus (intro wz hSw; exact exec_load_any9 (o := _) (ρ := _) wz 26 (.tmp 42) rfl ⟨b, 0, none⟩ rfl D.cD _ (CBx.part (And.left (And.right hSw))) Try.underlying26 rfl (DM.info (CBx.dm (And.left (And.right hSw)))))); try simp only [Act.put, List.setIfInBounds_toArray, List.set_cons_zero, List.set_cons_succ])
      (refine wpAnyH_take (i := 4) (oi := ?_) (v := ?_) ?_ (by kernel_rfl) (by kernel_rfl) (by kernel_rfl) ?_ (Or.inl ⟨?_, ?_⟩) (by assumption) ?_; rotate_left 2; (focus ((simp only [List.getElem?_toArray, List.getElem?_cons_succ, List.getElem?_cons_zero]); first | done | rfl)); (focus (exact fun _ _ _ h => h)); (focus rfl); (focus (intro wz hSw; (try dsimp only at hSw); go_simp; first | done | with_reducible rfl)); try simp only [Act.put, List.setIfInBounds_toArray, List.set_cons_zero, List.set_cons_succ])
      (refine wpAnyH_take (i := 5) (oi := ?_) (v := ?_) ?_ (by kernel_rfl) (by kernel_rfl) (by kernel_rfl) ?_ (Or.inl ⟨?_, ?_⟩) (by assumption) ?_; rotate_left 2; (focus ((simp only [List.getElem?_toArray, List.getElem?_cons_succ, List.getElem?_cons_zero]); first | done | rfl)); (focus (exact fun _ _ _ h => h)); (focus rfl); (focus (intro wz hSw; (try dsimp only at hSw); go_simp; first | done | with_reducible rfl)); try simp only [Act.put, List.setIfInBounds_toArray, List.set_cons_zero, List.set_cons_succ])
      (refine wpAnyH_take (i := 6) (oi := ?_) (v := ?_) ?_ (by kernel_rfl) (by kernel_rfl) (by kernel_rfl) ?_ (Or.inl ⟨?_, ?_⟩) (by assumption) ?_; rotate_left 2; (focus ((simp only [List.getElem?_toArray, List.getElem?_cons_succ, List.getElem?_cons_zero]); first | done | rfl)); (focus (exact fun _ _ _ h => h)); (focus rfl); (focus (intro wz hSw; (try dsimp only at hSw); go_simp; first | done | with_reducible rfl)); try simp only [Act.put, List.setIfInBounds_toArray, List.set_cons_zero, List.set_cons_succ])
      (refine wpAnyH_take (i := 7) (oi := ?_) (v := ?_) ?_ (by kernel_rfl) (by kernel_rfl) (by kernel_rfl) ?_ (Or.inl ⟨?_, ?_⟩) (by assumption) ?_; rotate_left 2; (focus ((simp only [List.getElem?_toArray, List.getElem?_cons_succ, List.getElem?_cons_zero]); first | done | rfl)); (focus (exact fun _ _ _ h => h)); (focus rfl); (focus (intro wz hSw; (try dsimp only at hSw); go_simp; first | done | with_reducible rfl)); try simp only [Act.put, List.setIfInBounds_toArray, List.set_cons_zero, List.set_cons_succ])
      (refine wpAnyH_take (i := 8) (oi := ?_) (v := ?_) ?_ (by kernel_rfl) (by kernel_rfl) (by kernel_rfl) ?_ (Or.inl ⟨?_, ?_⟩) (by assumption) ?_; rotate_left 2; (focus ((simp only [List.getElem?_toArray, List.getElem?_cons_succ, List.getElem?_cons_zero]); first | done | rfl)); (focus (exact fun _ _ _ h => h)); (focus rfl); (focus (intro wz hSw; (try dsimp only at hSw); go_simp; first | done | with_reducible rfl)); try simp only [Act.put, List.setIfInBounds_toArray, List.set_cons_zero, List.set_cons_succ])
      (refine wpAnyH_take (i := 9) (oi := ?_) (v := ?_) ?_ (by kernel_rfl) (by kernel_rfl) (by kernel_rfl) ?_ (Or.inl ⟨?_, ?_⟩) (by assumption) ?_; rotate_left 2; (focus ((simp only [List.getElem?_toArray, List.getElem?_cons_succ, List.getElem?_cons_zero]); first | done | rfl)); (focus (exact fun _ _ _ h => h)); (focus rfl); (focus (intro wz hSw; (try dsimp only at hSw); go_simp; first | done | with_reducible rfl)); try simp only [Act.put, List.setIfInBounds_toArray, List.set_cons_zero, List.set_cons_succ])
      (refine wpAnyH_take (i := 10) (oi := ?_) (v := ?_) ?_ (by kernel_rfl) (by kernel_rfl) (by kernel_rfl) ?_ (Or.inl ⟨?_, ?_⟩) (by assumption) ?_; rotate_left 2; (focus ((simp only [List.getElem?_toArray, List.getElem?_cons_succ, List.getElem?_cons_zero]); first | done | rfl)); (focus (exact fun _ _ _ h => h)); (focus rfl); (focus (intro wz hSw; (try dsimp only at hSw); go_simp; first | done | with_reducible rfl)); try simp only [Act.put, List.setIfInBounds_toArray, List.set_cons_zero, List.set_cons_succ])
      refine wpAnyH_ready (rs := [11]) (by kernel_rfl) (by simp) ?_
      refine AllReadyH.cons (o := ?_) ?_ (fun K hK => ?_) ?_
      rotate_left
      (focus ((simp only [List.getElem?_toArray, List.getElem?_cons_succ, List.getElem?_cons_zero]); first | done | rfl))
      · skip
        go_simp
        go_at_call 48
        refine (dstep_any D C HR.out st bt Hbt.out _ hHeld.2.1.dm).mono ?_
        rintro e wj ⟨rfl, vj⟩
        have hbn : Below w.heap.size w wj := hHeld.1.trans (vj.mono hHeld.1.size)
        clear vj
        try go_wp2_with fail
        refine hK.out _ _ (HSo.out _ hbn) (fun hHeld => ?_)
        clear hK K
        try simp only [Act.put, List.setIfInBounds_toArray, List.set_cons_zero, List.set_cons_succ]
        (refine wpAnyH_take (i := 12) (oi := ?_) (v := ?_) ?_ (by kernel_rfl) (by kernel_rfl) (by kernel_rfl) ?_ (Or.inl ⟨?_, ?_⟩) (by assumption) ?_; rotate_left 2; (focus ((simp only [List.getElem?_toArray, List.getElem?_cons_succ, List.getElem?_cons_zero]); first | done | rfl)); (focus (exact fun _ _ _ h => h)); (focus rfl); (focus (intro wz hSw; (try dsimp only at hSw); go_simp; first | done | with_reducible rfl)); try simp only [Act.put, List.setIfInBounds_toArray, List.set_cons_zero, List.set_cons_succ])
        refine wpAnyH_done (by kernel_rfl) ?_ _
        have HBn := Lib.hid hbn
        clear hHeld hbn
        rw [HSt.out]
        have HR2 := Lib.hid HR.out
        by_cases hd : runF D 0 (fun i => zof s (p + i)) (k + 1) = -1
        · have HZ : Hid (longF D (zof s) p (m - p) = (mk, ln)) := by
            show _ = _
            rw [longF_dead hd (by omega) (by have := Hq.out; omega)]
            exact HL.out.1
          rw [hd]
          clear hd
          have HCn := Lib.hid (HC.out.keep HBn.out)
          have HRm := Lib.hid (remember_any b D s _ HCn.out)
          go_wp2_with (go_at_call 57; refine HRm.out.mono ?_; rintro e w3 ⟨rfl, h3⟩; rw [h3]; clear h3)
          go_ret2
          exact ⟨by rw [HZ.out]; rfl, HBn.out⟩
        · obtain ⟨r, hr⟩ : ∃ r, runF D 0 (fun i => zof s (p + i)) (k + 1) = r := ⟨_, rfl⟩
          have Hr := Lib.hid hr
          rw [hr] at hd
          rw [hr]
          clear hr
          have hd2 : (r == -1) = false := by rw [beq_eq_false_iff_ne]; exact hd
          clear hd
          have HCn := Lib.hid (HC.out.keep HBn.out)
          have HMk := Lib.hid (dmark_any D C HR.out r wj HCn.out.dm)
          have HM2 : Hid (markF D r = mkA D (zof s) p (k + 1)) := by show _ = _; unfold mkA; rw [Hr.out]
          go_upto_region 12 with (first | (refine wpList_load_any9 (by rfl) 26 _ rfl ⟨b, 0, none⟩ rfl D.cD _ HCn.out.part Try.underlying26 rfl HCn.out.dm.info ?_) | (go_at_call 45; refine HMk.out.mono ?_; rintro e w3 ⟨rfl, b3⟩))
          have HB3 := Lib.hid (HBn.out.trans (b3.mono HBn.out.size))
          clear b3 HMk
          rw [HM2.out]
          have HC3 := Lib.hid (HC.out.keep HB3.out)
          have g1 := HC3.out.fp
          have hfz := HC3.out.st.thaw_ 260
          have HSm := Lib.hid HC3.out.same
          obtain ⟨x, hx⟩ : ∃ x, mkA D (zof s) p (k + 1) = x := ⟨_, rfl⟩
          have Hx := Lib.hid hx
          rw [hx]
          clear hx
          have j1 : ((q : Nat) : Int) + 1 - (p : Int) = ((k + 1 : Nat) : Int) := by have := Hq.out; omega
          by_cases hx1 : x = -1
          · have h5 : (x != -1) = false := by rw [hx1]; rfl
            have HN : Hid (longF D (zof s) p (k + 1) = (mk, ln)) := by
              show _ = _
              rw [longF_no (by rw [Hx.out, hx1])]
              exact HL.out.1
            clear hx1
            go_wp2_with fail
            go_roundw
            case rel => exact ⟨k + 1, by have := Hq.out; omega, by rw [HN.out], by rw [HN.out], by rw [Hr.out], by have := Hq.out; go_num, HB3⟩
            case measure => simp [intOf]; omega
          · have h5 : (x != -1) = true := by rw [bne_iff_ne]; exact hx1
            have HN : Hid (longF D (zof s) p (k + 1) = (x, k + 1)) := by
              show _ = _
              rw [longF_yes (by rw [Hx.out]; exact hx1), Hx.out]
            clear hx1
            go_wp2_with fail
            rw [HSm.out]
            go_roundw
            case rel => exact ⟨k + 1, by have := Hq.out; omega, by rw [HN.out], (by rw [HN.out]; simp), by rw [Hr.out], by have := Hq.out; go_num, HB3⟩
            case measure => simp [intOf]; omega
      exact AllReadyH.nil
    · have i1 : ¬ ((q : Int) < (m : Int)) := by omega
      have HZ : Hid (longF D (zof s) p (m - p) = (mk, ln)) := by
        show _ = _
        rw [show m - p = k by have := Hq.out; omega]
        exact HL.out.1
      have HRm := Lib.hid (remember_any b D s wr HCr.out)
      go_wp2_with (go_at_call 57; refine HRm.out.mono ?_; rintro e w3 ⟨rfl, h3⟩; rw [h3]; clear h3)
      go_ret2
      exact ⟨by rw [HZ.out]; rfl, HX.out⟩

end Go.Proofs.Ytldpmcgkbdejjaa

namespace Go.Proofs.Ytldpmcgkbdejjaa
open Go.RowKit Go.Maps Go.WideElems Go.ChangeMaps Go.MapKept
set_option linter.unusedVariables false
set_option linter.unusedSimpArgs false



end Go.Proofs.Ytldpmcgkbdejjaa

namespace Go.Proofs.Ytldpmcgkbdejjaa
open Go.RowKit Go.Maps Go.WideElems Go.ChangeMaps Go.MapKept
set_option linter.unusedVariables false
set_option linter.unusedSimpArgs false

theorem zof_extract (s : ByteArray) (a b i : Nat) (hb : b ≤ s.size) (hi : i < b - a) : zof (s.extract a b) i = zof s (a + i) := by
  have h1 : i < (s.extract a b).size := by rw [ByteArray.size_extract]; omega
  rw [← zof_at _ i h1, ← zof_at s (a + i) (by omega)]
  have h2 : (s.extract a b)[i]'h1 = s[a + i]'(by omega) := by
    show (s.extract a b).data[i]'h1 = s.data[a + i]'(by show a + i < s.size; omega)
    simp only [ByteArray.data_extract, Array.getElem_extract]
  rw [h2]
theorem runF_extract (D : Dd) (s : ByteArray) (a b : Nat) (hb : b ≤ s.size) : runF D 0 (zof (s.extract a b)) (b - a) = runF D 0 (fun i => zof s (a + i)) (b - a) := runF_congr D 0 (fun i hi => zof_extract s a b i hb hi)
theorem mrk8_eq {D : Dd} (h : D.m = D.n) (i : Int) : mrk8 D i = markF D i := by unfold mrk8 markF; rw [h]
/-- The reference goes down from the end. -/
theorem longF_down {D : Dd} {z : Nat → Nat} {p r e : Nat} (h : longF D z p r = longF D z p (e + 1)) (hx : mkA D z p (e + 1) = -1) : longF D z p r = longF D z p e := by rw [h, longF_no hx]

set_option maxHeartbeats 4000000 in
set_option maxRecDepth 100000 in
theorem rlongest_nat (D : Dd) (C : Nat) (hR : DR D C) (s : ByteArray) (m : Nat) (hs : s.size = m) (hm : m ≤ 100000) (p : Nat) (w : World) (hD : DM w D) :
    Calls Try.prog 54 #[.agg D.cD, .string s, .int .i64 ((p : Nat) : Int)] w fun e w' => e = .returned (.tuple #[.int .i64 (longF D (zof s) p (m - p)).1, .int .i64 (((longF D (zof s) p (m - p)).2 : Nat) : Int)]) ∧ Below w.heap.size w w' := by
  have kb := al w (.cells D.cD 26)
  have HB : Hid (DBx (w.alloc (.cells D.cD 26)) w.heap.size D ∧ Below w.heap.size w (w.alloc (.cells D.cD 26))) := ⟨DBx.new hD, kb⟩
  have HR := Lib.hid hR
  have hss := hs
  have HS := Lib.hid hs
  have i0 : ¬ ((p : Int) < 0) := by omega
  clear kb hR hD hs
  go_enter Try.func54, Try.ntmps54
  go_upto_region 1 with fail
  generalize w.alloc (.cells D.cD 26) = W0 at HB ⊢
  obtain ⟨b, hb0⟩ : ∃ b0, w.heap.size = b0 := ⟨_, rfl⟩
  have Hb0 := Lib.hid hb0
  rw [hb0] at HB
  rw [hb0]
  clear hb0
  have HFw : Hid (∀ W', Below W0.heap.size W0 W' → Below w.heap.size w W') := fun W' h => by
    have hz := HB.out.2.size
    rw [Hb0.out]
    exact HB.out.2.trans (h.mono (by have := Hb0.out; omega))
  have Hm : Hid (D.m = D.n ∧ D.m ≤ 100000) := ⟨HR.out.m, by have h1 := HR.out.m; have h2 := HR.out.n2; omega⟩
  go_wp2_with fail
  go_loopw [8, 9] (fun ve _ wr => ∃ (q : Nat), q ≤ m ∧ ve = .int .i64 ((q : Nat) : Int) ∧ Hid ((m ≤ p → q = m) ∧ (p < m → p ≤ q ∧ longF D (zof s) p (m - p) = longF D (zof s) p (q - p)) ∧ Below W0.heap.size W0 wr)) (fun v _ _ => (intOf v).toNat)
  case atStart => exact ⟨m, by omega, rfl, fun _ => rfl, fun h => ⟨by omega, rfl⟩, Below.refl _ _⟩
  case round =>
    obtain ⟨q, hq, rfl, HX⟩ := hrel
    have HCr := Lib.hid (HB.out.1.keep HX.out.2.2)
    by_cases hlt : p < q
    · have i1 : (p : Int) < (q : Int) := by omega
      have i2 : (q : Int) ≤ (m : Int) := by omega
      have i3 : (0 : Int) ≤ (p : Int) := by omega
      have i4 : (p : Int) ≤ (q : Int) := by omega
      obtain ⟨k, hk⟩ : ∃ k, q = p + (k + 1) := ⟨q - p - 1, by omega⟩
      have Hk := Lib.hid hk
      have HL : Hid (longF D (zof s) p (m - p) = longF D (zof s) p (k + 1)) := by
        have := (HX.out.2.1 (by omega)).2
        show _ = _
        rw [this, show q - p = k + 1 by omega]
      have HE : Hid (runF D 0 (zof (s.extract p q)) (k + 1) = runF D 0 (fun i => zof s (p + i)) (k + 1)) := by
        have := runF_extract D s p q (by omega)
        rwa [show q - p = k + 1 by omega] at this
      have HEs : Hid ((s.extract p q).size = k + 1) := by show _ = _; rw [ByteArray.size_extract]; omega
      clear hk
      obtain ⟨st, hst⟩ : ∃ st, runF D 0 (fun i => zof s (p + i)) (k + 1) = st := ⟨_, rfl⟩
      rw [hst] at HE
      have HM : Hid (mrk8 D st = mkA D (zof s) p (k + 1)) := by show _ = _; rw [mrk8_eq Hm.out.1]; unfold mkA; rw [hst]
      clear hst
      go_upto_region 6 with fail
      have HSo : Hid (∀ W', Below W0.heap.size W0 W' → Below W0.heap.size W0 W' ∧ DBx W' b D ∧ True) := fun W' h => ⟨h, HB.out.1.keep h, trivial⟩
      refine wp_region_held_drew (S := fun W' => Below W0.heap.size W0 W' ∧ DBx W' b D ∧ True) (by kernel_rfl) (HSo.out _ HX.out.2.2.drew) (fun hHeld => ?_)
      (refine wpAnyH_take (i := 0) (oi := ?_) (v := .agg D.cD) ?_ (by kernel_rfl) (by kernel_rfl) (by kernel_rfl) ?_ (Or.inl ⟨?_, ?_⟩) (by assumption) ?_; rotate_left; (focus ((simp only [List.getElem?_toArray, List.getElem?_cons_zero]); first | done | rfl)); (focus (exact fun _ _ _ h => h)); (focus rfl); (focus (intro wz hSw; exact exec_load_any9 (o := _) (ρ := _) wz 26 (.tmp 3) rfl ⟨b, 0, none⟩ rfl D.cD _ (DBx.st (And.left (And.right hSw))).part Try.underlying26 rfl (DBx.dm (And.left (And.right hSw))).info)); try simp only [Act.put, List.setIfInBounds_toArray, List.set_cons_zero, List.set_cons_succ])
      (refine wpAnyH_take (i := 1) (oi := ?_) (v := .agg D.cD) ?_ (by kernel_rfl) (by kernel_rfl) (by kernel_rfl) ?_ (Or.inl ⟨?_, ?_⟩) (by assumption) ?_; rotate_left; (focus ((simp only [List.getElem?_toArray, List.getElem?_cons_succ, List.getElem?_cons_zero]); first | done | rfl)); (focus (exact fun _ _ _ h => h)); (focus rfl); (focus (intro wz hSw; exact exec_load_any9 (o := _) (ρ := _) wz 26 (.tmp 3) rfl ⟨b, 0, none⟩ rfl D.cD _ (DBx.st (And.left (And.right hSw))).part Try.underlying26 rfl (DBx.dm (And.left (And.right hSw))).info)); try simp only [Act.put, List.setIfInBounds_toArray, List.set_cons_zero, List.set_cons_succ])
      (refine wpAnyH_take (i := 2) (oi := ?_) (v := ?_) ?_ (by kernel_rfl) (by kernel_rfl) (by kernel_rfl) ?_ (Or.inl ⟨?_, ?_⟩) (by assumption) ?_; rotate_left 2; (focus ((simp only [List.getElem?_toArray, List.getElem?_cons_succ, List.getElem?_cons_zero]); first | done | rfl)); (focus (exact fun _ _ _ h => h)); (focus rfl); (focus (intro wz hSw; (try dsimp only at hSw); go_simp; first | done | with_reducible rfl)); try simp only [Act.put, List.setIfInBounds_toArray, List.set_cons_zero, List.set_cons_succ])
      (refine wpAnyH_take (i := 3) (oi := ?_) (v := ?_) ?_ (by kernel_rfl) (by kernel_rfl) (by kernel_rfl) ?_ (Or.inl ⟨?_, ?_⟩) (by assumption) ?_; rotate_left 2; (focus ((simp only [List.getElem?_toArray, List.getElem?_cons_succ, List.getElem?_cons_zero]); first | done | rfl)); (focus (exact fun _ _ _ h => h)); (focus rfl); (focus (intro wz hSw; (try dsimp only at hSw); go_simp; first | done | with_reducible rfl)); try simp only [Act.put, List.setIfInBounds_toArray, List.set_cons_zero, List.set_cons_succ])
      (refine wpAnyH_take (i := 4) (oi := ?_) (v := ?_) ?_ (by kernel_rfl) (by kernel_rfl) (by kernel_rfl) ?_ (Or.inl ⟨?_, ?_⟩) (by assumption) ?_; rotate_left 2; (focus ((simp only [List.getElem?_toArray, List.getElem?_cons_succ, List.getElem?_cons_zero]); first | done | rfl)); (focus (exact fun _ _ _ h => h)); (focus rfl); (focus (intro wz hSw; (try dsimp only at hSw); go_simp; first | done | with_reducible rfl)); try simp only [Act.put, List.setIfInBounds_toArray, List.set_cons_zero, List.set_cons_succ])
      (refine wpAnyH_take (i := 5) (oi := ?_) (v := ?_) ?_ (by kernel_rfl) (by kernel_rfl) (by kernel_rfl) ?_ (Or.inl ⟨?_, ?_⟩) (by assumption) ?_; rotate_left 2; (focus ((simp only [List.getElem?_toArray, List.getElem?_cons_succ, List.getElem?_cons_zero]); first | done | rfl)); (focus (exact fun _ _ _ h => h)); (focus rfl); (focus (intro wz hSw; (try dsimp only at hSw); go_simp; first | done | with_reducible rfl)); try simp only [Act.put, List.setIfInBounds_toArray, List.set_cons_zero, List.set_cons_succ])
      refine wpAnyH_ready (rs := [6]) (by kernel_rfl) (by simp) ?_
      refine AllReadyH.cons (o := ?_) ?_ (fun K hK => ?_) ?_
      rotate_left
      (focus ((simp only [List.getElem?_toArray, List.getElem?_cons_succ, List.getElem?_cons_zero]); first | done | rfl))
      · skip
        go_simp
        go_at_call 68
        refine (rrun8_any D C HR.out 0 (s.extract p q) (k + 1) HEs.out (by have := Hk.out; omega) _ hHeld.2.1.dm).mono ?_
        rintro e wj ⟨rfl, vj⟩
        rw [HE.out]
        have hbn : Below W0.heap.size W0 wj := hHeld.1.trans (vj.mono hHeld.1.size)
        clear vj
        try go_wp2_with fail
        refine hK.out _ _ (HSo.out _ hbn) (fun hHeld => ?_)
        clear hK K
        try simp only [Act.put, List.setIfInBounds_toArray, List.set_cons_zero, List.set_cons_succ]
        clear hbn
        refine wpAnyH_ready (rs := [7]) (by kernel_rfl) (by simp) ?_
        refine AllReadyH.cons (o := ?_) ?_ (fun K hK => ?_) ?_
        rotate_left
        (focus ((simp only [List.getElem?_toArray, List.getElem?_cons_succ, List.getElem?_cons_zero]); first | done | rfl))
        · skip
          go_simp
          go_at_call 67
          refine (rmark8_any D st _ hHeld.2.1.dm Hm.out.2).mono ?_
          rintro e wk ⟨rfl, vk⟩
          have hbn : Below W0.heap.size W0 wk := hHeld.1.trans (vk.mono hHeld.1.size)
          clear vk
          try go_wp2_with fail
          refine hK.out _ _ (HSo.out _ hbn) (fun hHeld => ?_)
          clear hK K
          try simp only [Act.put, List.setIfInBounds_toArray, List.set_cons_zero, List.set_cons_succ]
          (refine wpAnyH_take (i := 8) (oi := ?_) (v := ?_) ?_ (by kernel_rfl) (by kernel_rfl) (by kernel_rfl) ?_ (Or.inl ⟨?_, ?_⟩) (by assumption) ?_; rotate_left 2; (focus ((simp only [List.getElem?_toArray, List.getElem?_cons_succ, List.getElem?_cons_zero]); first | done | rfl)); (focus (exact fun _ _ _ h => h)); (focus rfl); (focus (intro wz hSw; (try dsimp only at hSw); go_simp; first | done | with_reducible rfl)); try simp only [Act.put, List.setIfInBounds_toArray, List.set_cons_zero, List.set_cons_succ])
          refine wpAnyH_done (by kernel_rfl) ?_ _
          have HBn := Lib.hid hbn
          clear hHeld hbn
          rw [HM.out]
          obtain ⟨x, hx⟩ : ∃ x, mkA D (zof s) p (k + 1) = x := ⟨_, rfl⟩
          have Hx := Lib.hid hx
          have Hlo : Hid (-1 ≤ x) := by rw [← hx]; exact mkA_lo HR.out _ _ _
          rw [hx]
          clear hx
          by_cases hx1 : 0 ≤ x
          · have HZ : Hid (longF D (zof s) p (m - p) = (x, k + 1)) := by
              show _ = _
              rw [HL.out, longF_yes (by rw [Hx.out]; omega), Hx.out]
            have j1 : ((q : Nat) : Int) - (p : Int) = ((k + 1 : Nat) : Int) := by have := Hk.out; omega
            go_wp2_with fail
            go_ret2
            exact ⟨by rw [HZ.out]; simp [results, Try.results54, go_sem], HFw.out _ HBn.out⟩
          · have HZ : Hid (longF D (zof s) p (m - p) = longF D (zof s) p k) := longF_down HL.out (by rw [Hx.out]; have := Hlo.out; omega)
            go_wp2_with fail
            go_roundw
            case rel => exact ⟨q - 1, by omega, by go_num, fun h => by omega, fun h => ⟨by omega, by rw [HZ.out, show q - 1 - p = k by have := Hk.out; omega]⟩, HBn.out⟩
            case measure => simp [intOf]; omega
        exact AllReadyH.nil
      exact AllReadyH.nil
    · have i1 : ¬ ((p : Int) < (q : Int)) := by omega
      have HZ : Hid (longF D (zof s) p (m - p) = (-1, 0)) := by
        show _ = _
        by_cases h : p < m
        · rw [(HX.out.2.1 h).2, show q - p = 0 by omega]; rfl
        · rw [show m - p = 0 by omega]; rfl
      go_wp2_with fail
      go_ret2
      exact ⟨by rw [HZ.out]; first | rfl | simp [results, Try.results54, go_sem], HFw.out _ HX.out.2.2⟩

end Go.Proofs.Ytldpmcgkbdejjaa

namespace Go.Proofs.Ytldpmcgkbdejjaa
open Go.RowKit Go.Maps Go.WideElems Go.ChangeMaps Go.MapKept
set_option linter.unusedVariables false
set_option linter.unusedSimpArgs false

/-- The tokens of a text. -/
def tokOf (s : ByteArray) (x : Int × Nat × Nat) : Tok := ⟨x.1, s.extract x.2.1 (x.2.1 + x.2.2), (x.2.1 : Nat)⟩
def tkL (D : Dd) (s : ByteArray) (k : Nat) : List Tok := (tkN D (zof s) s.size k).1.map (tokOf s)
def tkE (D : Dd) (s : ByteArray) (k : Nat) : Nat := (tkN D (zof s) s.size k).2
def StopS (D : Dd) (s : ByteArray) (k : Nat) : Prop := StopN D (zof s) s.size k
theorem tkL_len (D : Dd) (s : ByteArray) (k : Nat) : (tkL D s k).length = k := by simp [tkL, tkN_len]
theorem tkE_le (D : Dd) (s : ByteArray) (k : Nat) : tkE D s k ≤ s.size := tkN_end D _ _ k
/-- One more. -/
theorem tk_succ {D : Dd} {s : ByteArray} {k p ln : Nat} {mk : Int} (hp : tkE D s k = p) (h : longF D (zof s) p (s.size - p) = (mk, ln)) : tkL D s (k + 1) = tkL D s k ++ [⟨mk, s.extract p (p + ln), (p : Nat)⟩] ∧ tkE D s (k + 1) = p + ln := by
  unfold tkE at hp
  constructor
  · unfold tkL
    simp only [tkN, hp, h, List.map_append, List.map_cons, List.map_nil, tokOf]
  · unfold tkE
    simp only [tkN, hp, h]
theorem stop_end {D : Dd} {s : ByteArray} {k : Nat} (h : s.size ≤ tkE D s k) : StopS D s k := Or.inl h
theorem stop_none {D : Dd} {s : ByteArray} {k p ln : Nat} {mk : Int} (hp : tkE D s k = p) (h : longF D (zof s) p (s.size - p) = (mk, ln)) (h0 : ln = 0) : StopS D s k := by
  unfold tkE at hp
  refine Or.inr ?_
  rw [hp, h]
  exact h0
theorem stop_not {D : Dd} {s : ByteArray} {k p ln : Nat} {mk : Int} (hp : tkE D s k = p) (h : longF D (zof s) p (s.size - p) = (mk, ln)) (h0 : 0 < ln) (h1 : p < s.size) : ¬ StopS D s k := by
  unfold tkE at hp
  unfold StopS StopN
  rw [hp, h]
  simp only
  omega
/-- All tokens: what is told, and how it ended (o: what is told of the end). -/
def AllP (D : Dd) (s : ByteArray) (o : Bool → Value) (w : World) (e : Ending) (w' : World) : Prop :=
  ∃ (k : Nat) (a : Option Addr) (c : Nat), StopS D s k ∧ (∀ j, j < k → ¬ StopS D s j) ∧ e = .returned (.tuple #[.slice a k c, .int .i64 ((tkE D s k : Nat) : Int), o (decide (s.size ≤ tkE D s k))]) ∧ TkAt w' a (tkL D s k) ∧ k ≤ s.size ∧ Below w.heap.size w w'
/-- The same, where the tokens lie in memory of the call's own. -/
def AllO (D : Dd) (s : ByteArray) (o : Bool → Value) (w : World) (e : Ending) (w' : World) : Prop :=
  ∃ (k : Nat) (a : Option Addr) (c : Nat), StopS D s k ∧ (∀ j, j < k → ¬ StopS D s j) ∧ e = .returned (.tuple #[.slice a k c, .int .i64 ((tkE D s k : Nat) : Int), o (decide (s.size ≤ tkE D s k))]) ∧ w'.ownsRow w.heap.size 51 3 (.slice a k c) k (tks (tkL D s k)) ∧ k ≤ s.size ∧ Below w.heap.size w w'
theorem tk_count {D : Dd} {s : ByteArray} {k : Nat} (h : ∀ j, j < k → ¬ StopS D s j) : k ≤ s.size := Nat.le_trans (tkN_grows h) (tkE_le D s k)
end Go.Proofs.Ytldpmcgkbdejjaa

namespace Go.Proofs.Ytldpmcgkbdejjaa
open Go.RowKit
set_option linter.unusedVariables false
set_option linter.unusedSimpArgs false

/-- Texts in memory. -/
def SsAt (w : World) (a : Option Addr) (l : List ByteArray) : Prop := 0 < l.length → ∃ g off, a = some ⟨g, off, none⟩ ∧ g < w.heap.size ∧ ∀ j (h : j < l.length), w.cell? ⟨g, off + j, none⟩ = some (.string l[j])
theorem SsAt.below {w w' : World} {a : Option Addr} {l : List ByteArray} (h : SsAt w a l) (k : Below w.heap.size w w') : SsAt w' a l := by
  intro h0
  obtain ⟨g, off, e, hg, hc⟩ := h h0
  have := k.size
  exact ⟨g, off, e, by omega, fun j hj => (k.cell (p := ⟨g, off + j, none⟩) hg).trans (hc j hj)⟩
/-- Few and short texts. -/
structure FewT (l : List ByteArray) : Prop where
  n : l.length ≤ 8
  s : ∀ j (h : j < l.length), l[j].size ≤ 8

/-! ### Texts with blanks between them -/
def jnN (l : List ByteArray) (m : Nat) (f : Nat → Bool) : Nat → List Nat
  | 0 => []
  | k + 1 => jnN l m f k ++ (numsOf (l.getD k ⟨#[]⟩) ++ (if k + 1 < l.length ∧ k < m ∧ f k = true then [32] else []))
theorem jnN_lt (l : List ByteArray) (m : Nat) (f : Nat → Bool) (k : Nat) : ∀ n ∈ jnN l m f k, n < 256 := by
  induction k with
  | zero => intro n hn; simp [jnN] at hn
  | succ k ih =>
    intro n hn
    simp only [jnN, List.mem_append] at hn
    rcases hn with hn | hn | hn
    · exact ih n hn
    · exact numsOf_lt _ n hn
    · split at hn
      · simp at hn; omega
      · simp at hn
theorem jnN_le {l : List ByteArray} (hl : FewT l) (m : Nat) (f : Nat → Bool) (k : Nat) (hk : k ≤ l.length) : (jnN l m f k).length ≤ 9 * k := by
  induction k with
  | zero => simp [jnN]
  | succ k ih =>
    have h1 := ih (by omega)
    have h2 := hl.s k (by omega)
    have h3 : (numsOf (l.getD k ⟨#[]⟩)).length ≤ 8 := by
      rw [show (numsOf (l.getD k ⟨#[]⟩)).length = (l.getD k ⟨#[]⟩).size from by rw [← strOf_size, strOf_nums]]
      simpa [List.getD_eq_getElem?_getD, List.getElem?_eq_getElem (show k < l.length by omega)] using h2
    simp only [jnN, List.length_append]
    generalize numsOf (l.getD k ⟨#[]⟩) = z at h3 ⊢
    split
    · show _ + (z.length + 1) ≤ _
      omega
    · show _ + (z.length + 0) ≤ _
      omega
theorem jnN_yes {l : List ByteArray} {m : Nat} {f : Nat → Bool} {k : Nat} (hk : k < l.length) (h : k + 1 < l.length ∧ k < m ∧ f k = true) : jnN l m f (k + 1) = jnN l m f k ++ (numsOf l[k] ++ [32]) := by
  simp [jnN, h, List.getD_eq_getElem?_getD, List.getElem?_eq_getElem hk]
theorem jnN_no {l : List ByteArray} {m : Nat} {f : Nat → Bool} {k : Nat} (hk : k < l.length) (h : ¬ (k + 1 < l.length ∧ k < m ∧ f k = true)) : jnN l m f (k + 1) = jnN l m f k ++ numsOf l[k] := by
  simp only [jnN, if_neg h, List.append_nil]
  simp [List.getD_eq_getElem?_getD, List.getElem?_eq_getElem hk]
def jnS (l : List ByteArray) (m : Nat) (f : Nat → Bool) : ByteArray := strOf (jnN l m f l.length)
theorem jnS_size {l : List ByteArray} (hl : FewT l) (m : Nat) (f : Nat → Bool) : (jnS l m f).size ≤ 72 := by
  unfold jnS
  rw [strOf_size]
  have := jnN_le hl m f l.length (Nat.le_refl _)
  have := hl.n
  omega

/-! ### Is a text these? -/
/-- How many tokens a text begins with. -/
noncomputable def stK (D : Dd) (s : ByteArray) : Nat := Classical.epsilon (fun k => StopS D s k ∧ ∀ j, j < k → ¬ StopS D s j)
theorem stK_eq {D : Dd} {s : ByteArray} {k : Nat} (h : StopS D s k) (h' : ∀ j, j < k → ¬ StopS D s j) : stK D s = k := by
  have := Classical.epsilon_spec (p := fun k => StopS D s k ∧ ∀ j, j < k → ¬ StopS D s j) ⟨k, h, h'⟩
  exact stopN_uniq this.2 this.1 h' h
def keepT (bl : Int) (t : Tok) : Bool := !(t.r == bl)
def ownT (bl : Int) (l : List Tok) : List ByteArray := (l.filter (keepT bl)).map (·.s)
noncomputable def spB (D : Dd) (bl : Int) (s : ByteArray) (ts : List ByteArray) : Bool := decide (s.size ≤ tkE D s (stK D s)) && decide (ownT bl (tkL D s (stK D s)) = ts)
theorem spB_eq {D : Dd} {s : ByteArray} {k : Nat} (h : StopS D s k) (h' : ∀ j, j < k → ¬ StopS D s j) (bl : Int) (ts : List ByteArray) : spB D bl s ts = (decide (s.size ≤ tkE D s k) && decide (ownT bl (tkL D s k) = ts)) := by
  unfold spB
  rw [stK_eq h h']

/-! ### Which blanks are left -/
def setB (f : Nat → Bool) (i : Nat) (b : Bool) : Nat → Bool := fun j => if j = i then b else f j
noncomputable def chkG (D : Dd) (bl : Int) (l : List ByteArray) (m : Nat) (f : Nat → Bool) : Bool := spB D bl (jnS l m f) l
open Classical in
noncomputable def gst (D : Dd) (bl : Int) (l : List ByteArray) (m : Nat) (f : Nat → Bool) (i : Nat) : Nat → Bool :=
  if f i = true ∧ chkG D bl l m (setB f i false) = true then setB f i false else f
noncomputable def gps (D : Dd) (bl : Int) (l : List ByteArray) (m : Nat) (f : Nat → Bool) : Nat → (Nat → Bool)
  | 0 => f
  | k + 1 => gst D bl l m (gps D bl l m f k) k
noncomputable def gI (D : Dd) (bl : Int) (l : List ByteArray) (m : Nat) : Nat → (Nat → Bool)
  | 0 => fun _ => true
  | k + 1 => gps D bl l m (gI D bl l m k) m
def cntB (f : Nat → Bool) : Nat → Nat
  | 0 => 0
  | m + 1 => cntB f m + (if f m = true then 1 else 0)
theorem cntB_congr {f g : Nat → Bool} {m : Nat} (h : ∀ j, j < m → f j = g j) : cntB f m = cntB g m := by
  induction m with
  | zero => rfl
  | succ m ih => simp only [cntB, ih (fun j hj => h j (by omega)), h m (by omega)]
theorem cntB_set {f : Nat → Bool} {i : Nat} (hf : f i = true) (m : Nat) (h : i < m) : cntB (setB f i false) m + 1 = cntB f m := by
  induction m with
  | zero => omega
  | succ m ih =>
    by_cases e : i = m
    · subst e
      have h1 : cntB (setB f i false) i = cntB f i := cntB_congr (fun j hj => by simp [setB, show ¬ j = i by omega])
      simp only [cntB, h1, hf]
      simp [setB]
    · have h1 := ih (by omega)
      have h2 : setB f i false m = f m := by simp [setB, show ¬ m = i by omega]
      simp only [cntB, h2]
      omega
theorem gst_yes {D : Dd} {bl : Int} {l : List ByteArray} {m : Nat} {f : Nat → Bool} {i : Nat} (h : f i = true) (h2 : chkG D bl l m (setB f i false) = true) : gst D bl l m f i = setB f i false := if_pos ⟨h, h2⟩
theorem gst_off {D : Dd} {bl : Int} {l : List ByteArray} {m : Nat} {f : Nat → Bool} {i : Nat} (h : f i = false) : gst D bl l m f i = f := if_neg (fun c => by rw [h] at c; exact absurd c.1 (by decide))
theorem gst_no {D : Dd} {bl : Int} {l : List ByteArray} {m : Nat} {f : Nat → Bool} {i : Nat} (h2 : chkG D bl l m (setB f i false) = false) : gst D bl l m f i = f := if_neg (fun c => by rw [h2] at c; exact absurd c.2 (by decide))
theorem setB_back {f : Nat → Bool} {i : Nat} (h : f i = true) : setB (setB f i false) i true = f := by
  funext j
  unfold setB
  by_cases e : j = i
  · simp [e, h]
  · simp [e]
/-- After k places of a round: nothing has changed, or there are fewer. -/
theorem gps_or (D : Dd) (bl : Int) (l : List ByteArray) (m : Nat) (f : Nat → Bool) (k : Nat) (hk : k ≤ m) : gps D bl l m f k = f ∨ cntB (gps D bl l m f k) m < cntB f m := by
  induction k with
  | zero => exact Or.inl rfl
  | succ k ih =>
    have h := ih (by omega)
    simp only [gps]
    by_cases c : gps D bl l m f k k = true ∧ chkG D bl l m (setB (gps D bl l m f k) k false) = true
    · rw [gst_yes c.1 c.2]
      have h1 := cntB_set c.1 m (by omega)
      right
      rcases h with h | h
      · rw [h] at h1 ⊢; omega
      · omega
    · rw [show gst D bl l m (gps D bl l m f k) k = gps D bl l m f k from if_neg c]
      exact h
/-- A round that changes nothing: no blank may be missing. -/
theorem gps_fix {D : Dd} {bl : Int} {l : List ByteArray} {m : Nat} {f : Nat → Bool} (h : gps D bl l m f m = f) : ∀ k, k ≤ m → gps D bl l m f k = f := by
  have hmono : ∀ d k, k + d = m → cntB (gps D bl l m f m) m ≤ cntB (gps D bl l m f k) m := by
    intro d
    induction d with
    | zero => intro k e; obtain rfl : k = m := by omega
              exact Nat.le_refl _
    | succ d ih =>
      intro k e
      refine Nat.le_trans (ih (k + 1) (by omega)) ?_
      simp only [gps]
      by_cases c : gps D bl l m f k k = true ∧ chkG D bl l m (setB (gps D bl l m f k) k false) = true
      · rw [gst_yes c.1 c.2]
        have := cntB_set c.1 m (by omega)
        omega
      · rw [show gst D bl l m (gps D bl l m f k) k = gps D bl l m f k from if_neg c]
        exact Nat.le_refl _
  intro k hk
  have h1 := hmono (m - k) k (by omega)
  rw [h] at h1
  rcases gps_or D bl l m f k hk with e | e
  · exact e
  · omega
theorem gps_need {D : Dd} {bl : Int} {l : List ByteArray} {m : Nat} {f : Nat → Bool} (h : gps D bl l m f m = f) (i : Nat) (hi : i < m) (hf : f i = true) : chkG D bl l m (setB f i false) = false := by
  have h1 := gps_fix h i (by omega)
  have h2 := gps_fix h (i + 1) (by omega)
  simp only [gps, h1] at h2
  cases hc : chkG D bl l m (setB f i false) with
  | false => rfl
  | true =>
    rw [gst_yes hf hc] at h2
    have := congrFun h2 i
    simp [setB, hf] at this
/-- What is read back stays so. -/
theorem gps_chk {D : Dd} {bl : Int} {l : List ByteArray} {m : Nat} {f : Nat → Bool} (h : chkG D bl l m f = true) (k : Nat) : chkG D bl l m (gps D bl l m f k) = true := by
  induction k with
  | zero => exact h
  | succ k ih =>
    simp only [gps]
    by_cases c : gps D bl l m f k k = true ∧ chkG D bl l m (setB (gps D bl l m f k) k false) = true
    · rw [gst_yes c.1 c.2]; exact c.2
    · rw [show gst D bl l m (gps D bl l m f k) k = gps D bl l m f k from if_neg c]; exact ih
theorem gI_chk {D : Dd} {bl : Int} {l : List ByteArray} {m : Nat} (h : chkG D bl l m (fun _ => true) = true) (k : Nat) : chkG D bl l m (gI D bl l m k) = true := by
  induction k with
  | zero => exact h
  | succ k ih => exact gps_chk ih m
/-- The blanks that are left at last. -/
def GapF (D : Dd) (bl : Int) (l : List ByteArray) (m : Nat) (f : Nat → Bool) : Prop := ∃ k, f = gI D bl l m k ∧ gps D bl l m f m = f
theorem gI_stays {D : Dd} {bl : Int} {l : List ByteArray} {m k : Nat} (h : gps D bl l m (gI D bl l m k) m = gI D bl l m k) : ∀ d, gI D bl l m (k + d) = gI D bl l m k := by
  intro d
  induction d with
  | zero => rfl
  | succ d ih =>
    show gps D bl l m (gI D bl l m (k + d)) m = _
    rw [ih, h]
theorem GapF.uniq {D : Dd} {bl : Int} {l : List ByteArray} {m : Nat} {f g : Nat → Bool} (hf : GapF D bl l m f) (hg : GapF D bl l m g) : f = g := by
  obtain ⟨k, rfl, h1⟩ := hf
  obtain ⟨k', rfl, h2⟩ := hg
  rcases Nat.le_total k k' with e | e
  · have := gI_stays h1 (k' - k)
    rw [show k + (k' - k) = k' by omega] at this
    exact this.symm
  · have := gI_stays h2 (k - k')
    rw [show k' + (k - k') = k by omega] at this
    exact this
end Go.Proofs.Ytldpmcgkbdejjaa

namespace Go.Proofs.Ytldpmcgkbdejjaa
open Go.RowKit
set_option linter.unusedVariables false
set_option linter.unusedSimpArgs false

def sss (l : List ByteArray) : List Value := l.map Value.string
theorem own_sss {w : World} {B n c : Nat} {a : Option Addr} {l : List ByteArray} (hl : l.length = n) (h : w.ownsRow B 9 1 (.slice a n c) n (sss l)) : SsAt w a l := by
  intro h0
  obtain ⟨g, e, _, hg, hc⟩ := ownsRow_read h (by omega)
  exact ⟨g, 0, e, hg, fun j hj => by rw [Nat.zero_add, (hc j (by omega)).1]; simp [sss, hj]⟩
theorem Try.info_str15 : (Try.prog.info? 9).map (fun i => (i.zero, i.size, i.bytes)) = some (some (.string ⟨#[]⟩), 1, 16) := by kernel_rfl
theorem ownT_take {bl : Int} {l : List Tok} {k : Nat} (hk : k < l.length) : (l[k].r = bl → ownT bl (l.take (k + 1)) = ownT bl (l.take k)) ∧ (l[k].r ≠ bl → ownT bl (l.take (k + 1)) = ownT bl (l.take k) ++ [l[k].s]) := by
  unfold ownT
  rw [List.take_succ_eq_append_getElem hk, List.filter_append]
  refine ⟨fun h => ?_, fun h => ?_⟩
  · have : keepT bl l[k] = false := by simp [keepT, h]
    simp [List.filter_cons, this]
  · have : keepT bl l[k] = true := by simp [keepT, h]
    simp [List.filter_cons, this]
theorem ownT_le (bl : Int) (l : List Tok) : (ownT bl l).length ≤ l.length := by
  unfold ownT
  rw [List.length_map]
  exact List.length_filter_le _ _
theorem ownT_take_le (bl : Int) (l : List Tok) (k : Nat) : (ownT bl (l.take k)).length ≤ k := Nat.le_trans (ownT_le _ _) (by rw [List.length_take]; omega)
theorem str_eq15 (a b : ByteArray) : (a.toList == b.toList) = decide (a = b) := by
  by_cases h : a = b
  · subst h; simp
  · have : ¬ a.toList = b.toList := by
      intro e
      rw [ByteArray.toList_eq, ByteArray.toList_eq] at e
      exact h (bytes_ext e)
    simp [h, this]
theorem list_same {α : Type} {l ts : List α} (hl : l.length = ts.length) (h : ∀ j (h1 : j < l.length) (h2 : j < ts.length), l[j] = ts[j]) : l = ts := List.ext_getElem hl h
end Go.Proofs.Ytldpmcgkbdejjaa

namespace Go.Proofs.Ytldpmcgkbdejjaa
open Go.RowKit Go.Maps Go.WideElems Go.ChangeMaps Go.MapKept
set_option linter.unusedVariables false
set_option linter.unusedSimpArgs false

def FewP (l : List ByteArray) (w : World) (e : Ending) (w' : World) : Prop := ∃ r, e = .returned (.bool r) ∧ (r = true → FewT l) ∧ w' = w
set_option maxHeartbeats 1000000 in
set_option maxRecDepth 100000 in
theorem few15_any (l : List ByteArray) (n c : Nat) (a : Option Addr) (hn : l.length = n) (hn9 : n ≤ 9223372036854775807) (hs9 : ∀ j (h : j < l.length), l[j].size ≤ 9223372036854775807) (w : World) (h1 : SsAt w a l) :
    Calls Try.prog 8 #[.slice a n c] w (FewP l w) := by
  have H := Lib.hid (And.intro h1 (And.intro hn hs9))
  clear h1 hn hs9
  go_enter Try.func8, Try.ntmps8
  by_cases h8 : 8 < n
  · have i1 : (8 : Int) < (n : Int) := by omega
    go_wp2_with fail
    go_ret
    exact ⟨false, rfl, fun h => absurd h (by decide), rfl⟩
  have i1 : ¬ ((8 : Int) < (n : Int)) := by omega
  go_wp2_with fail
  go_loopw [3] (fun v wr => ∃ k : Nat, v = .int .i64 k ∧ k ≤ n ∧ wr = w ∧ Hid (∀ j (h : j < l.length), j < k → l[j].size ≤ 8)) (fun v _ => n - (intOf v).toNat)
  case atStart => exact ⟨0, rfl, Nat.zero_le _, rfl, fun j _ h => absurd h (by omega)⟩
  case round =>
    obtain ⟨k, rfl, hk, rfl, HX⟩ := hrel
    by_cases hlt : k < n
    · have hkA : k < l.length := by rw [H.out.2.1]; exact hlt
      obtain ⟨g1, o1, rfl, _, q1⟩ := H.out.1 (by omega)
      have x1 := q1 k hkA
      have HN : Hid (l[k].size ≤ 8 → ∀ j (h : j < l.length), j < k + 1 → l[j].size ≤ 8) := fun h j hj h3 => by
        by_cases e : j = k
        · subst e; exact h
        · exact HX.out j hj (by omega)
      have hs := H.out.2.2 k hkA
      have i2 : (k : Int) < (n : Int) := by omega
      clear q1
      generalize l[k] = s at x1 HN hs
      by_cases h9 : 8 < s.size
      · have i3 : (8 : Int) < (s.size : Int) := by omega
        go_wp2_with fail
        go_ret
        exact ⟨false, rfl, fun h => absurd h (by decide), rfl⟩
      · have i3 : ¬ ((8 : Int) < (s.size : Int)) := by omega
        have HZ := Lib.hid (HN.out (by omega))
        go_wp2_with fail
        go_roundw
        case rel => exact ⟨k + 1, by go_num, by omega, by first | trivial | rfl, HZ.out⟩
        case measure => simp [intOf]; omega
    · obtain rfl : k = n := by omega
      have HZ : Hid (FewT l) := ⟨by rw [H.out.2.1]; omega, fun j hj => HX.out j hj (by rw [← H.out.2.1]; exact hj)⟩
      go_wp2_with fail
      go_ret
      exact ⟨true, rfl, fun _ => HZ.out, rfl⟩
end Go.Proofs.Ytldpmcgkbdejjaa
