import Derived.Test.YtjehgdjlncofeaaZPRef8
import Derived.Test.YtjehgdjlncofeaaZPRun
import Derived.Test.YtjehgdjlncofeaaZUMun
namespace Go.Proofs.Ytjehgdjlncofeaa
open Go.RowKit Go.Maps Go.WideElems Go.ChangeMaps Go.MapKept
set_option linter.unusedVariables false
set_option linter.unusedSimpArgs false

theorem zof_extract (s : ByteArray) (a b i : Nat) (hb : b ≤ s.size) (hi : i < b - a) : zof (s.extract a b) i = zof s (a + i) := by
  have h1 : i < (s.extract a b).size := by rw [ByteArray.size_extract]; omega
  rw [← zof_at _ i h1, ← zof_at s (a + i) (by omega)]
  have h2 : (s.extract a b)[i]'h1 = s[a + i]'(by omega) := by
    show (s.extract a b).data[i]'h1 = s.data[a + i]'(by show a + i < s.size; omega)
    simp only [ByteArray.data_extract, Array.getElem_extract]
  rw [h2]
theorem runF_extract (D : Dd) (s : ByteArray) (a b : Nat) (hb : b ≤ s.size) : runF D 0 (zof (s.extract a b)) (b - a) = runF D 0 (fun i => zof s (a + i)) (b - a) := runF_congr D 0 (fun i hi => zof_extract s a b i hb hi)
theorem mrk8_eq {D : Dd} (h : D.m = D.n) (i : Int) : mrk8 D i = markF D i := by unfold mrk8 markF; rw [h]
/-- The reference goes down from the end. -/
theorem longF_down {D : Dd} {z : Nat → Nat} {p r e : Nat} (h : longF D z p r = longF D z p (e + 1)) (hx : mkA D z p (e + 1) = -1) : longF D z p r = longF D z p e := by rw [h, longF_no hx]

set_option maxHeartbeats 4000000 in
set_option maxRecDepth 100000 in
theorem rlongest_nat (D : Dd) (C : Nat) (hR : DR D C) (s : ByteArray) (m : Nat) (hs : s.size = m) (hm : m ≤ 100000) (p : Nat) (w : World) (hD : DM w D) :
    Calls Try.prog 15 #[.agg D.cD, .string s, .int .i64 ((p : Nat) : Int)] w fun e w' => e = .returned (.tuple #[.int .i64 (longF D (zof s) p (m - p)).1, .int .i64 (((longF D (zof s) p (m - p)).2 : Nat) : Int)]) ∧ Below w.heap.size w w' := by
  have kb := al w (.cells D.cD 26)
  have HB : Hid (DBx (w.alloc (.cells D.cD 26)) w.heap.size D ∧ Below w.heap.size w (w.alloc (.cells D.cD 26))) := ⟨DBx.new hD, kb⟩
  have HR := Lib.hid hR
  have hss := hs
  have HS := Lib.hid hs
  have i0 : ¬ ((p : Int) < 0) := by omega
  clear kb hR hD hs
  go_enter Try.func15, Try.ntmps15
  go_upto_region 1 with fail
  generalize w.alloc (.cells D.cD 26) = W0 at HB ⊢
  obtain ⟨b, hb0⟩ : ∃ b0, w.heap.size = b0 := ⟨_, rfl⟩
  have Hb0 := Lib.hid hb0
  rw [hb0] at HB
  rw [hb0]
  clear hb0
  have HFw : Hid (∀ W', Below W0.heap.size W0 W' → Below w.heap.size w W') := fun W' h => by
    have hz := HB.out.2.size
    rw [Hb0.out]
    exact HB.out.2.trans (h.mono (by have := Hb0.out; omega))
  have Hm : Hid (D.m = D.n ∧ D.m ≤ 100000) := ⟨HR.out.m, by have h1 := HR.out.m; have h2 := HR.out.n2; omega⟩
  go_wp2_with fail
  go_loopw [8, 9] (fun ve _ wr => ∃ (q : Nat), q ≤ m ∧ ve = .int .i64 ((q : Nat) : Int) ∧ Hid ((m ≤ p → q = m) ∧ (p < m → p ≤ q ∧ longF D (zof s) p (m - p) = longF D (zof s) p (q - p)) ∧ Below W0.heap.size W0 wr)) (fun v _ _ => (intOf v).toNat)
  case atStart => exact ⟨m, by omega, rfl, fun _ => rfl, fun h => ⟨by omega, rfl⟩, Below.refl _ _⟩
  case round =>
    obtain ⟨q, hq, rfl, HX⟩ := hrel
    have HCr := Lib.hid (HB.out.1.keep HX.out.2.2)
    by_cases hlt : p < q
    · have i1 : (p : Int) < (q : Int) := by omega
      have i2 : (q : Int) ≤ (m : Int) := by omega
      have i3 : (0 : Int) ≤ (p : Int) := by omega
      have i4 : (p : Int) ≤ (q : Int) := by omega
      obtain ⟨k, hk⟩ : ∃ k, q = p + (k + 1) := ⟨q - p - 1, by omega⟩
      have Hk := Lib.hid hk
      have HL : Hid (longF D (zof s) p (m - p) = longF D (zof s) p (k + 1)) := by
        have := (HX.out.2.1 (by omega)).2
        show _ = _
        rw [this, show q - p = k + 1 by omega]
      have HE : Hid (runF D 0 (zof (s.extract p q)) (k + 1) = runF D 0 (fun i => zof s (p + i)) (k + 1)) := by
        have := runF_extract D s p q (by omega)
        rwa [show q - p = k + 1 by omega] at this
      have HEs : Hid ((s.extract p q).size = k + 1) := by show _ = _; rw [ByteArray.size_extract]; omega
      clear hk
      obtain ⟨st, hst⟩ : ∃ st, runF D 0 (fun i => zof s (p + i)) (k + 1) = st := ⟨_, rfl⟩
      rw [hst] at HE
      have HM : Hid (mrk8 D st = mkA D (zof s) p (k + 1)) := by show _ = _; rw [mrk8_eq Hm.out.1]; unfold mkA; rw [hst]
      clear hst
      go_upto_region 6 with fail
      have HSo : Hid (∀ W', Below W0.heap.size W0 W' → Below W0.heap.size W0 W' ∧ DBx W' b D ∧ True) := fun W' h => ⟨h, HB.out.1.keep h, trivial⟩
      refine wp_region_held_drew (S := fun W' => Below W0.heap.size W0 W' ∧ DBx W' b D ∧ True) (by kernel_rfl) (HSo.out _ HX.out.2.2.drew) (fun hHeld => ?_)
      (refine wpAnyH_take (i := 0) (oi := ?_) (v := .agg D.cD) ?_ (by kernel_rfl) (by kernel_rfl) (by kernel_rfl) ?_ (Or.inl ⟨?_, ?_⟩) (by assumption) ?_; rotate_left; (focus ((simp only [List.getElem?_toArray, List.getElem?_cons_zero]); first | done | rfl)); (focus (exact fun _ _ _ h => h)); (focus rfl); (focus (intro wz hSw; exact exec_load_any9 (o := _) (ρ := _) wz 26 (.tmp 3) rfl ⟨b, 0, none⟩ rfl D.cD _ (DBx.st (And.left (And.right hSw))).part Try.underlying26 rfl (DBx.dm (And.left (And.right hSw))).info)); try simp only [Act.put, List.setIfInBounds_toArray, List.set_cons_zero, List.set_cons_succ])
      (refine wpAnyH_take (i := 1) (oi := ?_) (v := .agg D.cD) ?_ (by kernel_rfl) (by kernel_rfl) (by kernel_rfl) ?_ (Or.inl ⟨?_, ?_⟩) (by assumption) ?_; rotate_left; (focus ((simp only [List.getElem?_toArray, List.getElem?_cons_succ, List.getElem?_cons_zero]); first | done | rfl)); (focus (exact fun _ _ _ h => h)); (focus rfl); (focus (intro wz hSw; exact exec_load_any9 (o := _) (ρ := _) wz 26 (.tmp 3) rfl ⟨b, 0, none⟩ rfl D.cD _ (DBx.st (And.left (And.right hSw))).part Try.underlying26 rfl (DBx.dm (And.left (And.right hSw))).info)); try simp only [Act.put, List.setIfInBounds_toArray, List.set_cons_zero, List.set_cons_succ])
      (refine wpAnyH_take (i := 2) (oi := ?_) (v := ?_) ?_ (by kernel_rfl) (by kernel_rfl) (by kernel_rfl) ?_ (Or.inl ⟨?_, ?_⟩) (by assumption) ?_; rotate_left 2; (focus ((simp only [List.getElem?_toArray, List.getElem?_cons_succ, List.getElem?_cons_zero]); first | done | rfl)); (focus (exact fun _ _ _ h => h)); (focus rfl); (focus (intro wz hSw; (try dsimp only at hSw); go_simp; first | done | with_reducible rfl)); try simp only [Act.put, List.setIfInBounds_toArray, List.set_cons_zero, List.set_cons_succ])
      (refine wpAnyH_take (i := 3) (oi := ?_) (v := ?_) ?_ (by kernel_rfl) (by kernel_rfl) (by kernel_rfl) ?_ (Or.inl ⟨?_, ?_⟩) (by assumption) ?_; rotate_left 2; (focus ((simp only [List.getElem?_toArray, List.getElem?_cons_succ, List.getElem?_cons_zero]); first | done | rfl)); (focus (exact fun _ _ _ h => h)); (focus rfl); (focus (intro wz hSw; (try dsimp only at hSw); go_simp; first | done | with_reducible rfl)); try simp only [Act.put, List.setIfInBounds_toArray, List.set_cons_zero, List.set_cons_succ])
      (refine wpAnyH_take (i := 4) (oi := ?_) (v := ?_) ?_ (by kernel_rfl) (by kernel_rfl) (by kernel_rfl) ?_ (Or.inl ⟨?_, ?_⟩) (by assumption) ?_; rotate_left 2; (focus ((simp only [List.getElem?_toArray, List.getElem?_cons_succ, List.getElem?_cons_zero]); first | done | rfl)); (focus (exact fun _ _ _ h => h)); (focus rfl); (focus (intro wz hSw; (try dsimp only at hSw); go_simp; first | done | with_reducible rfl)); try simp only [Act.put, List.setIfInBounds_toArray, List.set_cons_zero, List.set_cons_succ])
      (refine wpAnyH_take (i := 5) (oi := ?_) (v := ?_) ?_ (by kernel_rfl) (by kernel_rfl) (by kernel_rfl) ?_ (Or.inl ⟨?_, ?_⟩) (by assumption) ?_; rotate_left 2; (focus ((simp only [List.getElem?_toArray, List.getElem?_cons_succ, List.getElem?_cons_zero]); first | done | rfl)); (focus (exact fun _ _ _ h => h)); (focus rfl); (focus (intro wz hSw; (try dsimp only at hSw); go_simp; first | done | with_reducible rfl)); try simp only [Act.put, List.setIfInBounds_toArray, List.set_cons_zero, List.set_cons_succ])
      refine wpAnyH_ready (rs := [6]) (by kernel_rfl) (by simp) ?_
      refine AllReadyH.cons (o := ?_) ?_ (fun K hK => ?_) ?_
      rotate_left
      (focus ((simp only [List.getElem?_toArray, List.getElem?_cons_succ, List.getElem?_cons_zero]); first | done | rfl))
      · skip
        go_simp
        go_at_call 18
        refine (rrun8_any D C HR.out 0 (s.extract p q) (k + 1) HEs.out (by have := Hk.out; omega) _ hHeld.2.1.dm).mono ?_
        rintro e wj ⟨rfl, vj⟩
        rw [HE.out]
        have hbn : Below W0.heap.size W0 wj := hHeld.1.trans (vj.mono hHeld.1.size)
        clear vj
        try go_wp2_with fail
        refine hK.out _ _ (HSo.out _ hbn) (fun hHeld => ?_)
        clear hK K
        try simp only [Act.put, List.setIfInBounds_toArray, List.set_cons_zero, List.set_cons_succ]
        clear hbn
        refine wpAnyH_ready (rs := [7]) (by kernel_rfl) (by simp) ?_
        refine AllReadyH.cons (o := ?_) ?_ (fun K hK => ?_) ?_
        rotate_left
        (focus ((simp only [List.getElem?_toArray, List.getElem?_cons_succ, List.getElem?_cons_zero]); first | done | rfl))
        · skip
          go_simp
          go_at_call 29
          refine (rmark8_any D st _ hHeld.2.1.dm Hm.out.2).mono ?_
          rintro e wk ⟨rfl, vk⟩
          have hbn : Below W0.heap.size W0 wk := hHeld.1.trans (vk.mono hHeld.1.size)
          clear vk
          try go_wp2_with fail
          refine hK.out _ _ (HSo.out _ hbn) (fun hHeld => ?_)
          clear hK K
          try simp only [Act.put, List.setIfInBounds_toArray, List.set_cons_zero, List.set_cons_succ]
          (refine wpAnyH_take (i := 8) (oi := ?_) (v := ?_) ?_ (by kernel_rfl) (by kernel_rfl) (by kernel_rfl) ?_ (Or.inl ⟨?_, ?_⟩) (by assumption) ?_; rotate_left 2; (focus ((simp only [List.getElem?_toArray, List.getElem?_cons_succ, List.getElem?_cons_zero]); first | done | rfl)); (focus (exact fun _ _ _ h => h)); (focus rfl); (focus (intro wz hSw; (try dsimp only at hSw); go_simp; first | done | with_reducible rfl)); try simp only [Act.put, List.setIfInBounds_toArray, List.set_cons_zero, List.set_cons_succ])
          refine wpAnyH_done (by kernel_rfl) ?_ _
          have HBn := Lib.hid hbn
          clear hHeld hbn
          rw [HM.out]
          obtain ⟨x, hx⟩ : ∃ x, mkA D (zof s) p (k + 1) = x := ⟨_, rfl⟩
          have Hx := Lib.hid hx
          have Hlo : Hid (-1 ≤ x) := by rw [← hx]; exact mkA_lo HR.out _ _ _
          rw [hx]
          clear hx
          by_cases hx1 : 0 ≤ x
          · have HZ : Hid (longF D (zof s) p (m - p) = (x, k + 1)) := by
              show _ = _
              rw [HL.out, longF_yes (by rw [Hx.out]; omega), Hx.out]
            have j1 : ((q : Nat) : Int) - (p : Int) = ((k + 1 : Nat) : Int) := by have := Hk.out; omega
            go_wp2_with fail
            go_ret2
            exact ⟨by rw [HZ.out]; simp [results, Try.results15, go_sem], HFw.out _ HBn.out⟩
          · have HZ : Hid (longF D (zof s) p (m - p) = longF D (zof s) p k) := longF_down HL.out (by rw [Hx.out]; have := Hlo.out; omega)
            go_wp2_with fail
            go_roundw
            case rel => exact ⟨q - 1, by omega, by go_num, fun h => by omega, fun h => ⟨by omega, by rw [HZ.out, show q - 1 - p = k by have := Hk.out; omega]⟩, HBn.out⟩
            case measure => simp [intOf]; omega
        exact AllReadyH.nil
      exact AllReadyH.nil
    · have i1 : ¬ ((p : Int) < (q : Int)) := by omega
      have HZ : Hid (longF D (zof s) p (m - p) = (-1, 0)) := by
        show _ = _
        by_cases h : p < m
        · rw [(HX.out.2.1 h).2, show q - p = 0 by omega]; rfl
        · rw [show m - p = 0 by omega]; rfl
      go_wp2_with fail
      go_ret2
      exact ⟨by rw [HZ.out]; first | rfl | simp [results, Try.results15, go_sem], HFw.out _ HX.out.2.2⟩

set_option maxHeartbeats 1000000 in
set_option maxRecDepth 100000 in
theorem rlongest_neg (D : Dd) (s : ByteArray) (p : Int) (hp : p < 0) (w : World) :
    Calls Try.prog 15 #[.agg D.cD, .string s, .int .i64 p] w fun e w' => e = .returned (.tuple #[.int .i64 (-1), .int .i64 0]) ∧ Below w.heap.size w w' := by
  have HB := Lib.hid (al w (.cells D.cD 26))
  go_enter Try.func15, Try.ntmps15
  go_wp2_with fail
  go_ret2
  exact ⟨rfl, HB.out⟩
theorem rlongest_int (D : Dd) (C : Nat) (hR : DR D C) (s : ByteArray) (hm : s.size ≤ 100000) (p : Int) (w : World) (hD : DM w D) :
    Calls Try.prog 15 #[.agg D.cD, .string s, .int .i64 p] w fun e w' => e = .returned (.tuple #[.int .i64 (longI D s p).1, .int .i64 (((longI D s p).2 : Nat) : Int)]) ∧ Below w.heap.size w w' := by
  by_cases h : p < 0
  · rw [longI_neg D s h]
    exact rlongest_neg D s p h w
  · obtain ⟨q, rfl⟩ : ∃ q : Nat, p = (q : Int) := ⟨p.toNat, by omega⟩
    rw [longI_nat]
    exact rlongest_nat D C hR s s.size rfl hm q w hD
end Go.Proofs.Ytjehgdjlncofeaa
