import Derived.Test.YtldpmcgkbdejjaaZShelf
import Derived.Test.YtldpmcgkbdejjaaZTFrame
import Derived.Test.YtldpmcgkbdejjaaZTReach
namespace Go.Proofs.Ytldpmcgkbdejjaa
open Go.RowKit Go.Maps Go.WideElems Go.ChangeMaps Go.MapKept
set_option linter.unusedVariables false
set_option linter.unusedSimpArgs false

set_option maxRecDepth 100000 in
theorem call_trim9 : ∀ (args : Array Value) (W : World), (callFunc 44 args).run Try.prog W = .ok (.enter 44 args) W := fun _ _ => by rfl
set_option maxRecDepth 100000 in
theorem trim1_any (b3 n c : Nat) (a : Option Addr) (f : Nat → Bool) (w : World) (hS : St w 31 b3 #[.slice a n c]) (hf : BAt w a n f) (x : Nat) (hx : x < n) :
    Calls Try.prog 44 #[.int .i64 ((x : Nat) : Int), .pointer (some ⟨b3, 0, none⟩)] w fun e w' => e = .returned (.int .i64 (if f x = true then ((x : Nat) : Int) else -1)) ∧ w' = w := by
  have c0 : w.cell? ⟨b3, 0, none⟩ = some (.slice a n c) := hS.at_ 0
  obtain ⟨g, o, rfl, _, q⟩ := hf (by omega)
  have d0 := q x hx
  have i1 : (x : Int) < (n : Int) := by omega
  clear q
  rcases hfx : f x with _ | _
  · rw [hfx] at d0
    have HZ : Hid ((if (false = true) then ((x : Nat) : Int) else -1) = -1) := by show _ = _; simp
    clear hfx
    go_enter Try.func44, Try.ntmps44
    go_wp2_with fail
    go_ret
    exact ⟨by first | rfl | (rw [HZ.out]; rfl) | simp, rfl⟩
  · rw [hfx] at d0
    clear hfx
    go_enter Try.func44, Try.ntmps44
    go_wp2_with fail
    go_ret
    exact ⟨by first | rfl | simp, rfl⟩

set_option maxHeartbeats 4000000 in
set_option maxRecDepth 100000 in
theorem trim_any (D : Dd) (C : Nat) (w : World) (hD : DM w D) (hR : DR D C) :
    Calls Try.prog 30 #[.agg D.cD] w (DfP D C D.n (trF D) D.q w) := by
  have hmf : ∀ (fn : Fn) (first cap : Array Value) (w : World), (Instr.makeFunc fn first cap).run Try.prog w = .ok (.func fn first cap) w := fun _ _ _ _ => rfl
  have hn2 := hR.n2
  have hn1 := hR.n1
  have hmn := hR.m
  have hC6 := (hR.c256 hD.kl).2
  have HB := Lib.hid (And.intro (DBx.new hD) (And.intro (al w (.cells D.cD 26)) hR))
  obtain ⟨iI, hI, hI0, hI1, hI2⟩ := info_parts Try.info_int9
  obtain ⟨iV, hV, hV0, hV1, hV2⟩ := info_parts Try.info_ints
  clear hD hR
  go_enter Try.func30, Try.ntmps30
  go_upto_region 1 with (refine wpList_alloc9 rfl 26 rfl (zC 26) (zero_run9 _) ?_)
  simp only [Act.put, List.setIfInBounds_toArray, List.set_cons_zero, List.set_cons_succ, alloc_sz9]
  have H0 : Hid (DBx ((w.alloc (.cells D.cD 26)).alloc (.cells (zC 26) 26)) w.heap.size D ∧ St ((w.alloc (.cells D.cD 26)).alloc (.cells (zC 26) 26)) 26 (w.heap.size + 1) (zC 26) ∧ Below w.heap.size w ((w.alloc (.cells D.cD 26)).alloc (.cells (zC 26) 26))) := by
    refine ⟨HB.out.1.keep (al _ _), ?_, HB.out.2.1.trans ((al _ _).mono (by simp))⟩
    have := St.new (w.alloc (.cells D.cD 26)) 26 (zC 26)
    simpa using this
  generalize (w.alloc (.cells D.cD 26)).alloc (.cells (zC 26) 26) = Wb at H0 ⊢
  obtain ⟨b2, hb2⟩ : ∃ b2, w.heap.size + 1 = b2 := ⟨_, rfl⟩
  obtain ⟨b0, hb0⟩ : ∃ b0, w.heap.size = b0 := ⟨_, rfl⟩
  rw [hb2, hb0] at H0
  rw [hb2, hb0]
  have Hb := Lib.hid (And.intro hb0 hb2)
  clear hb2 hb0
  have HRy := Lib.hid (right_yes D C HB.out.2.2 Wb H0.out.1.dm)
  go_wp2_with (refine wpList_load_any9 (by rfl) 26 _ rfl ⟨b0, 0, none⟩ rfl D.cD _ H0.out.1.st.part Try.underlying26 rfl H0.out.1.dm.info ?_)
  refine HRy.out.mono ?_
  rintro e wy ⟨rfl, by_⟩
  have H0y : Hid (DBx wy b0 D ∧ St wy 26 b2 (zC 26) ∧ Below b0 w wy) := ⟨H0.out.1.keep by_, H0.out.2.1.keep by_, H0.out.2.2.trans (by_.mono (by have := H0.out.2.2.size; have := Hb.out.1; omega))⟩
  have HAl := Lib.hid (alive_any D C wy H0y.out.1.dm HB.out.2.2)
  clear by_ HRy
  go_wp2_with (refine wpList_load_any9 (by rfl) 26 _ rfl ⟨b0, 0, none⟩ rfl D.cD _ H0y.out.1.st.part Try.underlying26 rfl H0y.out.1.dm.info ?_)
  refine HAl.out.mono ?_
  rintro e wA ⟨f, aA, cA, rfl, hoA, hfA, bA⟩
  go_upto_region 4 with fail
  have k3 := al wA (.cells #[.slice aA D.n cA] 31)
  have HS3 : Hid (St (wA.alloc (.cells #[.slice aA D.n cA] 31)) 31 wA.heap.size #[.slice aA D.n cA]) := St.new _ _ _
  have b1 : Below wy.heap.size wy (wA.alloc (.cells #[.slice aA D.n cA] 31)) := bA.trans (k3.mono bA.size)
  have HAf := Lib.hid (And.intro ((bls_at hoA).below k3) hfA)
  obtain ⟨b3, hb3⟩ : ∃ b3, wA.heap.size = b3 := ⟨_, rfl⟩
  rw [hb3] at HS3
  rw [hb3]
  generalize wA.alloc (.cells #[.slice aA D.n cA] 31) = w1 at b1 HAf HS3 ⊢
  clear k3 hb3 bA
  have H1 := Lib.hid (And.intro (H0y.out.1.keep b1) (And.intro (H0y.out.2.1.keep b1) (H0y.out.2.2.trans (b1.mono (by have := H0y.out.2.2.size; have := Hb.out.1; omega)))))
  obtain ⟨gM, oM, eM, hgM, cM0⟩ := H1.out.1.dm.rM (by omega)
  have HM9 := Lib.hid (And.intro eM (And.intro hgM (And.intro (by rw [hmn] at cM0; exact cM0 : ∀ j, j < D.n → w1.cell? ⟨gM, oM + j, none⟩ = some (.int .i64 (D.q j))) hmn)))
  have hbw1 : Hid (w.heap.size ≤ w1.heap.size) := by have h1 := H0y.out.2.2.size; have h2 := b1.size; have h3 := Hb.out.1; show _ ≤ _; omega
  have HSo : Hid (∀ W', Below w1.heap.size w1 W' → Below w1.heap.size w1 W' ∧ DBx W' b0 D ∧ W'.cell? ⟨b0, 257, none⟩ = some (.slice (some ⟨gM, oM, none⟩) D.n D.cM)) := fun W' h => ⟨h, H1.out.1.keep h, by have := (H1.out.1.keep h).f2; rw [eM, hmn] at this; exact this⟩
  have HNw : Hid (∀ W', Below w1.heap.size w1 W' → ∀ j u, (ints ((List.range D.n).map D.q))[j]? = some u → W'.cell? ((⟨gM, oM, none⟩ : Addr).add j) = some u) := fun W' h => zs_news (fun j hj => (h.cell (p := ⟨gM, oM + j, none⟩) HM9.out.2.1).trans (HM9.out.2.2.1 j hj))
  clear hoA hfA b1 HAl eM cM0 hgM hmn
  go_cut [4] from 13 to 18 (fun v wx => ∃ (b4 : Nat) (a6 : Option Addr) (c6 : Nat), v = .pointer (some ⟨b4, 0, none⟩) ∧ TrA w1 b4 D.K C (.slice none 0 0) [] (fun _ => .slice none 0 0) (.slice a6 D.n c6) ((List.range D.n).map D.q) wx)
  case first =>
    refine wp_region_held_drew (S := fun W' => Below w1.heap.size w1 W' ∧ DBx W' b0 D ∧ W'.cell? ⟨b0, 257, none⟩ = some (.slice (some ⟨gM, oM, none⟩) D.n D.cM)) (by kernel_rfl) (HSo.out _ (Below.refl _ _).drew) (fun hHeld => ?_)
    (refine wpAnyH_take (i := 0) (oi := ?_) (v := ?_) ?_ (by kernel_rfl) (by kernel_rfl) (by kernel_rfl) ?_ (Or.inl ⟨?_, ?_⟩) (by assumption) ?_; rotate_left 2; (focus ((simp only [List.getElem?_toArray, List.getElem?_cons_zero]); first | done | rfl)); (focus (exact fun _ _ _ h => h)); (focus rfl); (focus (intro wz hSw; (try dsimp only at hSw); go_simp; first | done | with_reducible rfl)); try simp only [Act.put, List.setIfInBounds_toArray, List.set_cons_zero, List.set_cons_succ])
    (refine wpAnyH_take (i := 1) (oi := ?_) (v := .agg (clsOf D.K)) ?_ (by kernel_rfl) (by kernel_rfl) (by kernel_rfl) ?_ (Or.inl ⟨?_, ?_⟩) (by assumption) ?_; rotate_left; (focus ((simp only [List.getElem?_toArray, List.getElem?_cons_succ, List.getElem?_cons_zero]); first | done | rfl)); (focus (exact fun _ _ _ h => h)); (focus rfl); (focus (intro wz hSw; exact exec_load_any9 (o := _) (ρ := _) wz 22 (.tmp 13) rfl ⟨b0, 0, none⟩ rfl (clsOf D.K) _ (DBx.clsPart (And.left (And.right hSw))) Try.underlying22 rfl (clsOf_info D.K))); try simp only [Act.put, List.setIfInBounds_toArray, List.set_cons_zero, List.set_cons_succ])
    (refine wpAnyH_take (i := 2) (oi := ?_) (v := ?_) ?_ (by kernel_rfl) (by kernel_rfl) (by kernel_rfl) ?_ (Or.inl ⟨?_, ?_⟩) (by assumption) ?_; rotate_left 2; (focus ((simp only [List.getElem?_toArray, List.getElem?_cons_succ, List.getElem?_cons_zero]); first | done | rfl)); (focus (exact fun _ _ _ h => h)); (focus rfl); (focus (intro wz hSw; (try dsimp only at hSw); go_simp; first | done | with_reducible rfl)); try simp only [Act.put, List.setIfInBounds_toArray, List.set_cons_zero, List.set_cons_succ])
    (refine wpAnyH_take (i := 3) (oi := ?_) (v := ?_) ?_ (by kernel_rfl) (by kernel_rfl) (by kernel_rfl) ?_ (Or.inl ⟨?_, ?_⟩) (by assumption) ?_; rotate_left 2; (focus ((simp only [List.getElem?_toArray, List.getElem?_cons_succ, List.getElem?_cons_zero]); first | done | rfl)); (focus (exact fun _ _ _ h => h)); (focus rfl); (focus (intro wz hSw; (try dsimp only at hSw); go_simp; first | done | with_reducible rfl)); try simp only [Act.put, List.setIfInBounds_toArray, List.set_cons_zero, List.set_cons_succ])
    refine wpAnyH_ready (rs := [4, 6]) (by kernel_rfl) (by simp) ?_
    refine AllReadyH.cons (o := ?_) ?_ (fun K hK => ?_) ?_
    rotate_left
    (focus ((simp only [List.getElem?_toArray, List.getElem?_cons_succ, List.getElem?_cons_zero]); first | done | rfl))
    · skip
      go_simp
      go_at_call 42
      refine (clone_any D.n D.cM (some ⟨gM, oM, none⟩) D.q (by omega) _ (fun _ => ⟨gM, oM, rfl, Nat.lt_of_lt_of_le HM9.out.2.1 hHeld.1.size, fun j hj => (hHeld.1.cell (p := ⟨gM, oM + j, none⟩) HM9.out.2.1).trans (HM9.out.2.2.1 j hj)⟩) (fun h => by cases h) (fun ad h => by injection h with h; rw [← h])).mono ?_
      rintro e V5 ⟨a6, c6, rfl, hown6, b6⟩
      have HM6 := Lib.hid (And.intro (ownsRow_base hown6 hHeld.1.size) (hHeld.1.trans (b6.mono hHeld.1.size)))
      clear hown6 b6
      try go_wp2_with fail
      refine hK.out _ _ (HSo.out _ HM6.out.2) (fun hHeld => ?_)
      clear hK K
      try simp only [Act.put, List.setIfInBounds_toArray, List.set_cons_zero, List.set_cons_succ]
      (refine wpAnyH_take (i := 5) (oi := ?_) (v := .agg (dfC D.K (.slice none 0 0) (.slice a6 D.n c6))) ?_ (by kernel_rfl) (by kernel_rfl) (by kernel_rfl) ?_ (Or.inl ⟨?_, ?_⟩) (by assumption) ?_; rotate_left; (focus ((simp only [List.getElem?_toArray, List.getElem?_cons_succ, List.getElem?_cons_zero]); first | done | rfl)); (focus (exact fun _ _ _ h => h)); (focus rfl); (focus (intro wz hSw; exact exec_bld10 wz _ _ rfl #[(0, .agg (clsOf D.K)), (2, .slice a6 D.n c6)] (by first | rfl | simp [Act.eval] | (simp; rfl)) _ (dfa_built2 D.K a6 D.n c6 wz))); try simp only [Act.put, List.setIfInBounds_toArray, List.set_cons_zero, List.set_cons_succ])
      refine wpAnyH_ready (rs := [6]) (by kernel_rfl) (by simp) ?_
      refine AllReadyH.cons (o := ?_) ?_ (fun K hK => ?_) ?_
      rotate_left
      (focus ((simp only [List.getElem?_toArray, List.getElem?_cons_succ, List.getElem?_cons_zero]); first | done | rfl))
      · skip
        refine step_alloc9 (by rfl) 26 (by rfl) (zC 26) (zero_run9 _) ?_
        have kk := al V5 (.cells (zC 26) 26)
        have hbn : Below w1.heap.size w1 (V5.alloc (.cells (zC 26) 26)) := hHeld.1.trans (kk.mono hHeld.1.size)
        have H7 : Hid (St (V5.alloc (.cells (zC 26) 26)) 26 V5.heap.size (zC 26) ∧ w1.heap.size ≤ V5.heap.size) := ⟨St.new _ _ _, hHeld.1.size⟩
        have HM6 : Hid ((V5.alloc (.cells (zC 26) 26)).ownsRow w1.heap.size 3 1 (.slice a6 D.n c6) D.n (ints ((List.range D.n).map D.q)) ∧ Below w1.heap.size w1 (V5.alloc (.cells (zC 26) 26))) := ⟨ownsRow_keep HM6.out.1 kk, hbn⟩
        refine hK.out _ _ (HSo.out _ hbn) (fun hHeld => ?_)
        clear hK K
        try simp only [Act.put, List.setIfInBounds_toArray, List.set_cons_zero, List.set_cons_succ]
        try simp only [drew_sz9]
        clear kk
        generalize (V5.alloc (.cells (zC 26) 26)) = V7 at H7 HM6 hHeld hbn ⊢
        refine wpAnyH_ready (rs := [7]) (by kernel_rfl) (by simp) ?_
        refine AllReadyH.cons (o := ?_) ?_ (fun K hK => ?_) ?_
        rotate_left
        (focus ((simp only [List.getElem?_toArray, List.getElem?_cons_succ, List.getElem?_cons_zero]); first | done | rfl))
        · skip
          refine step_store9 (by rfl) 26 _ _ (by rfl) V5.heap.size 26 (zC 26) (dfC D.K (.slice none 0 0) (.slice a6 D.n c6)) (by rfl) (by rfl) H7.out.1 (by rw [zDfa_size, dfC_size]) (by rw [info_dfa9, dfC_size]) (dfC_one _ _ _ _ _ _ _) ?_
          have HT0 := Lib.hid (TrA.start (K := D.K) (C := C) (ws := fun _ => .slice none 0 0) HM6.out.1 (by simp) HM6.out.2 H7.out.1 H7.out.2)
          refine hK.out _ _ (HSo.out _ HT0.out.bel) (fun hHeld => ?_)
          clear hK K
          try simp only [Act.put, List.setIfInBounds_toArray, List.set_cons_zero, List.set_cons_succ]
          refine wpAnyH_done (by kernel_rfl) ?_ _
          clear hHeld HM6 H7
          go_wp2_with fail
          go_meet
          exact ⟨_, _, _, rfl, HT0.out⟩
        exact AllReadyH.nil
      exact AllReadyH.nil
    refine AllReadyH.cons (o := ?_) ?_ (fun K hK => ?_) ?_
    rotate_left
    (focus ((simp only [List.getElem?_toArray, List.getElem?_cons_succ, List.getElem?_cons_zero]); first | done | rfl))
    · skip
      refine step_alloc9 (by rfl) 26 (by rfl) (zC 26) (zero_run9 _) ?_
      have kk := al w1.drew (.cells (zC 26) 26)
      have hbn : Below w1.heap.size w1 (w1.drew.alloc (.cells (zC 26) 26)) := hHeld.1.trans (kk.mono hHeld.1.size)
      have H7 : Hid (St (w1.drew.alloc (.cells (zC 26) 26)) 26 w1.heap.size (zC 26) ∧ w1.heap.size ≤ w1.heap.size) := ⟨St.new _ _ _, hHeld.1.size⟩
      refine hK.out _ _ (HSo.out _ hbn) (fun hHeld => ?_)
      clear hK K
      try simp only [Act.put, List.setIfInBounds_toArray, List.set_cons_zero, List.set_cons_succ]
      try simp only [drew_sz9]
      clear kk
      generalize (w1.drew.alloc (.cells (zC 26) 26)) = V7 at H7 hHeld hbn ⊢
      refine wpAnyH_ready (rs := [4]) (by kernel_rfl) (by simp) ?_
      refine AllReadyH.cons (o := ?_) ?_ (fun K hK => ?_) ?_
      rotate_left
      (focus ((simp only [List.getElem?_toArray, List.getElem?_cons_succ, List.getElem?_cons_zero]); first | done | rfl))
      · skip
        go_simp
        go_at_call 42
        refine (clone_any D.n D.cM (some ⟨gM, oM, none⟩) D.q (by omega) _ (fun _ => ⟨gM, oM, rfl, Nat.lt_of_lt_of_le HM9.out.2.1 hHeld.1.size, fun j hj => (hHeld.1.cell (p := ⟨gM, oM + j, none⟩) HM9.out.2.1).trans (HM9.out.2.2.1 j hj)⟩) (fun h => by cases h) (fun ad h => by injection h with h; rw [← h])).mono ?_
        rintro e V5 ⟨a6, c6, rfl, hown6, b6⟩
        have HM6 := Lib.hid (And.intro (ownsRow_base hown6 hHeld.1.size) (hHeld.1.trans (b6.mono hHeld.1.size)))
        have H7 : Hid (St V5 26 w1.heap.size (zC 26) ∧ w1.heap.size ≤ w1.heap.size) := ⟨H7.out.1.keep b6, H7.out.2⟩
        clear hown6 b6
        try go_wp2_with fail
        refine hK.out _ _ (HSo.out _ HM6.out.2) (fun hHeld => ?_)
        clear hK K
        try simp only [Act.put, List.setIfInBounds_toArray, List.set_cons_zero, List.set_cons_succ]
        (refine wpAnyH_take (i := 5) (oi := ?_) (v := .agg (dfC D.K (.slice none 0 0) (.slice a6 D.n c6))) ?_ (by kernel_rfl) (by kernel_rfl) (by kernel_rfl) ?_ (Or.inl ⟨?_, ?_⟩) (by assumption) ?_; rotate_left; (focus ((simp only [List.getElem?_toArray, List.getElem?_cons_succ, List.getElem?_cons_zero]); first | done | rfl)); (focus (exact fun _ _ _ h => h)); (focus rfl); (focus (intro wz hSw; exact exec_bld10 wz _ _ rfl #[(0, .agg (clsOf D.K)), (2, .slice a6 D.n c6)] (by first | rfl | simp [Act.eval] | (simp; rfl)) _ (dfa_built2 D.K a6 D.n c6 wz))); try simp only [Act.put, List.setIfInBounds_toArray, List.set_cons_zero, List.set_cons_succ])
        refine wpAnyH_ready (rs := [7]) (by kernel_rfl) (by simp) ?_
        refine AllReadyH.cons (o := ?_) ?_ (fun K hK => ?_) ?_
        rotate_left
        (focus ((simp only [List.getElem?_toArray, List.getElem?_cons_succ, List.getElem?_cons_zero]); first | done | rfl))
        · skip
          refine step_store9 (by rfl) 26 _ _ (by rfl) w1.heap.size 26 (zC 26) (dfC D.K (.slice none 0 0) (.slice a6 D.n c6)) (by rfl) (by rfl) H7.out.1 (by rw [zDfa_size, dfC_size]) (by rw [info_dfa9, dfC_size]) (dfC_one _ _ _ _ _ _ _) ?_
          have HT0 := Lib.hid (TrA.start (K := D.K) (C := C) (ws := fun _ => .slice none 0 0) HM6.out.1 (by simp) HM6.out.2 H7.out.1 H7.out.2)
          refine hK.out _ _ (HSo.out _ HT0.out.bel) (fun hHeld => ?_)
          clear hK K
          try simp only [Act.put, List.setIfInBounds_toArray, List.set_cons_zero, List.set_cons_succ]
          refine wpAnyH_done (by kernel_rfl) ?_ _
          clear hHeld HM6 H7
          go_wp2_with fail
          go_meet
          exact ⟨_, _, _, rfl, HT0.out⟩
        exact AllReadyH.nil
      exact AllReadyH.nil
    exact AllReadyH.nil
  case rest =>
    obtain ⟨b4, a6, c6, rfl, hT0⟩ := hcut
    have HT0 := Lib.hid hT0
    clear hT0
    obtain ⟨gN, oN, eN, hgN, cN0⟩ := H1.out.1.dm.rN (by omega)
    have HBx4 := Lib.hid (H1.out.1.keep HT0.out.bel)
    have f1 := HBx4.out.f1
    rw [eN] at f1
    have HeN := Lib.hid eN
    have HcN := Lib.hid cN0
    have Hg := Lib.hid hgN
    clear eN cN0 hgN
    go_wp2_with fail
    clear f1
    go_loopw [6, 22] (fun _ v wr => ∃ (i : Nat) (ws : Nat → Value) (aN : Option Addr) (cN : Nat), v = .int .i64 i ∧ i ≤ D.n ∧ Hid (TrA w1 b4 D.K C (.slice aN i cN) ((List.range i).map fun i => (List.range C).map (trF D i)) ws (.slice a6 D.n c6) ((List.range D.n).map D.q) wr)) (fun _ v _ => D.n - (intOf v).toNat)
    case atStart => exact ⟨0, _, none, 0, rfl, by omega, HT0⟩
    case round =>
      clear HT0
      obtain ⟨i, ws, aN, cN, rfl, hi, HT⟩ := hrel
      have hRl : Hid (((List.range i).map fun i => (List.range C).map (trF D i)).length = i) := by show _ = _; simp
      by_cases hlt : i < D.n
      · have i1 : (i : Int) < (D.n : Int) := by omega
        have hlen := HB.out.2.2.len i hlt
        have cN1 := (HT.out.bel.cell (p := ⟨gN, oN + i, none⟩) Hg.out).trans (HcN.out i hlt).1
        have zN := (HcN.out i hlt).2
        rw [hlen] at cN1 zN
        try dsimp only at cN1
        have HzN : Hid (ZAt wr.drew (D.A i) C (D.nx i)) := (zN.below HT.out.bel).below (Below.refl _ _).drew
        have hRs : Hid ((List.range (i + 1)).map (fun i => (List.range C).map (trF D i)) = (List.range i).map (fun i => (List.range C).map (trF D i)) ++ [(List.range C).map (trF D i)]) := by show _ = _; rw [List.range_succ, List.map_append]; rfl
        have HRow : Hid ((List.range C).map (mvF (D.nx i) (fun x => if f x = true then ((x : Nat) : Int) else -1)) = (List.range C).map (trF D i)) := by
          show _ = _
          refine List.map_congr_left fun c hc => ?_
          have hc2 : c < C := by simpa using hc
          have hb := HB.out.2.2.nx i c hlt hc2
          unfold mvF trF
          by_cases h1 : D.nx i c = -1
          · rw [if_pos h1, if_neg (by omega), h1]
          · rw [if_neg h1]
            have hx : (D.nx i c).toNat < D.n := by omega
            dsimp only
            by_cases h2 : f (D.nx i c).toNat = true
            · rw [if_pos h2, if_neg (fun h => h.2 ((HAf.out.2 _ hx).1 h2))]
              omega
            · rw [if_neg h2, if_pos ⟨by omega, fun h => h2 ((HAf.out.2 _ hx).2 h)⟩]
        clear hlen zN
        go_upto_region 8 with fail
        clear cN1
        refine wp_region_held_drew (S := fun W' => Below w1.heap.size w1 W') (by kernel_rfl) HT.out.bel.drew (fun hHeld => ?_)
        have HT : Hid (TrA w1 b4 D.K C (.slice aN i cN) ((List.range i).map fun i => (List.range C).map (trF D i)) ws (.slice a6 D.n c6) ((List.range D.n).map D.q) wr.drew) := HT.out.keep (Below.refl _ _).drew
        (refine wpAnyH_take (i := 0) (oi := ?_) (v := ?_) ?_ (by kernel_rfl) (by kernel_rfl) (by kernel_rfl) ?_ (Or.inl ⟨?_, ?_⟩) (by assumption) ?_; rotate_left 2; (focus ((simp only [List.getElem?_toArray, List.getElem?_cons_zero]); first | done | rfl)); (focus (exact fun _ _ _ h => h)); (focus rfl); (focus (intro wz hSw; (try dsimp only at hSw); go_simp; first | done | with_reducible rfl)); try simp only [Act.put, List.setIfInBounds_toArray, List.set_cons_zero, List.set_cons_succ])
        (refine wpAnyH_take (i := 2) (oi := ?_) (v := ?_) ?_ (by kernel_rfl) (by kernel_rfl) (by kernel_rfl) ?_ (Or.inl ⟨?_, ?_⟩) (by assumption) ?_; rotate_left 2; (focus ((simp only [List.getElem?_toArray, List.getElem?_cons_succ, List.getElem?_cons_zero]); first | done | rfl)); (focus (exact fun _ _ _ h => h)); (focus rfl); (focus (intro wz hSw; (try dsimp only at hSw); go_simp; first | done | with_reducible rfl)); try simp only [Act.put, List.setIfInBounds_toArray, List.set_cons_zero, List.set_cons_succ])
        (refine wpAnyH_take (i := 3) (oi := ?_) (v := ?_) ?_ (by kernel_rfl) (by kernel_rfl) (by kernel_rfl) ?_ (Or.inl ⟨?_, ?_⟩) (by assumption) ?_; rotate_left 2; (focus ((simp only [List.getElem?_toArray, List.getElem?_cons_succ, List.getElem?_cons_zero]); first | done | rfl)); (focus (exact fun _ _ _ h => h)); (focus rfl); (focus (intro wz hSw; (try dsimp only at hSw); go_simp; first | done | with_reducible rfl)); try simp only [Act.put, List.setIfInBounds_toArray, List.set_cons_zero, List.set_cons_succ])
        refine wpAnyH_ready (rs := [1, 4]) (by kernel_rfl) (by simp) ?_
        refine AllReadyH.cons (o := ?_) ?_ (fun K hK => ?_) ?_
        rotate_left
        (focus ((simp only [List.getElem?_toArray, List.getElem?_cons_succ, List.getElem?_cons_zero]); first | done | rfl))
        · skip
          have f1 := HT.out.f1
          go_simp
          refine hK.out _ _ (hHeld) (fun hHeld => ?_)
          clear hK K
          try simp only [Act.put, List.setIfInBounds_toArray, List.set_cons_zero, List.set_cons_succ]
          clear f1
          refine wpAnyH_ready (rs := [4]) (by kernel_rfl) (by simp) ?_
          refine AllReadyH.cons (o := ?_) ?_ (fun K hK => ?_) ?_
          rotate_left
          (focus ((simp only [List.getElem?_toArray, List.getElem?_cons_succ, List.getElem?_cons_zero]); first | done | rfl))
          · skip
            have hlt9 := (HT.out.next.lt).2
            have hltK := own_lt9 HT.out.mks
            go_simp
            go_at_call 43
            refine (tmoved_any 44 b3 D.n (fun x => if f x = true then ((x : Nat) : Int) else -1) C (D.Cp i) (D.A i) (D.nx i) _ call_trim9 (fun W' h x hx => trim1_any b3 D.n cA aA f W' ((HS3.out.keep HT.out.bel).keep h) ((HAf.out.1.below HT.out.bel).below h) x hx) (by omega) (by have h9 := HzN.out; exact h9) (fun c hc => HB.out.2.2.nx i c hlt hc) (by omega)).mono ?_
            rintro e w5 ⟨a5, c5, rfl, ho5, b5⟩
            have HU : Hid (w5.ownsRow w1.heap.size 3 1 (.slice a5 C c5) C (ints ((List.range C).map (trF D i))) ∧ (∀ j, j < ((List.range i).map fun i => (List.range C).map (trF D i)).length → ∀ b, (ws j).ownBlock = some b → (Value.slice a5 C c5).ownBlock ≠ some b) ∧ ∀ b, (Value.slice a5 C c5).ownBlock = some b → (Value.slice a6 D.n c6).ownBlock ≠ some b) := by
              have habv := own_above ho5
              refine ⟨?_, fun j hj b e1 e2 => ?_, fun b e1 e2 => ?_⟩
              · rw [← HRow.out]; exact ownsRow_base ho5 HT.out.bel.size
              · have h1 := hlt9 j hj b e1
                have h2 := habv b e2
                try simp only [drew_sz9] at h1
                try simp only [drew_sz9] at h2
                omega
              · have h1 := hltK b e2
                have h2 := habv b e1
                try simp only [drew_sz9] at h1
                try simp only [drew_sz9] at h2
                omega
            have HT := Lib.hid (HT.out.keep b5)
            clear ho5 b5 hlt9 hltK
            try go_wp2_with fail
            refine hK.out _ _ (HT.out.bel) (fun hHeld => ?_)
            clear hK K
            try simp only [Act.put, List.setIfInBounds_toArray, List.set_cons_zero, List.set_cons_succ]
            refine wpAnyH_ready (rs := [5]) (by kernel_rfl) (by simp) ?_
            refine AllReadyH.cons (o := ?_) ?_ (fun K hK => ?_) ?_
            rotate_left
            (focus ((simp only [List.getElem?_toArray, List.getElem?_cons_succ, List.getElem?_cons_zero]); first | done | rfl))
            · skip
              go_simp
              have kk := al w5 (.cells #[.slice a5 C c5] 24)
              have HN : Hid (∀ j u, [Value.slice a5 C c5][j]? = some u → (w5.alloc (.cells #[.slice a5 C c5] 24)).cell? ((⟨w5.heap.size, 0, none⟩ : Addr).add j) = some u) := cell_one_new _ _ _
              have HT := Lib.hid (HT.out.keep kk)
              have HU := Lib.hid (And.intro (ownsRow_keep HU.out.1 kk) HU.out.2)
              refine hK.out _ _ (HT.out.bel) (fun hHeld => ?_)
              clear hK K
              try simp only [Act.put, List.setIfInBounds_toArray, List.set_cons_zero, List.set_cons_succ]
              clear kk
              generalize w5.alloc (.cells #[.slice a5 C c5] 24) = V5 at HN HT HU hHeld ⊢
              refine wpAnyH_ready (rs := [6]) (by kernel_rfl) (by simp) ?_
              refine AllReadyH.cons (o := ?_) ?_ (fun K hK => ?_) ?_
              rotate_left
              (focus ((simp only [List.getElem?_toArray, List.getElem?_cons_succ, List.getElem?_cons_zero]); first | done | rfl))
              · skip
                have hO := HT.out.next.own
                rw [hRl.out] at hO
                refine step_append_own9 (by rfl) _ _ _ (by rfl) w1.heap.size 24 iV (.slice none 0 0) 1 24 Try.underlying23 hV hV0 hV1 hV2 (by rfl) (by decide) _ i ((List.range i).map ws) (by rfl) hO ⟨w5.heap.size, 0, none⟩ 1 1 [.slice a5 C c5] (by rfl) (by rfl) HN.out (by intro u hu; simp at hu; subst hu; rfl) (by unfold maxLen; omega) (by omega) HT.out.bel.size ?_
                intro v6 w6 hown6 hgrow6
                obtain ⟨a7, c7, rfl⟩ := ownsRow_slice hown6
                have HT8 := Lib.hid (HT.out.addRow (u := .slice a5 C c5) (vN' := .slice a7 (i + 1) c7) HU.out.1 HU.out.2.1 HU.out.2.2 hRl.out hown6 hgrow6)
                have h9 := HT.out.st.grown_own HT.out.next.own (by decide) hgrow6
                have z2 : w6.cell? ⟨b4, 256, none⟩ = some (.slice aN i cN) := by rw [h9.at_, dfC_n]
                have z3 : w6.frozen? ⟨b4, 256, none⟩ = false := h9.thaw_ 256
                have hb6 := below_grown_own HT.out.bel HT.out.next.own HT.out.bel.size hgrow6
                clear hown6 hgrow6 h9 hO
                refine hK.out _ _ (hb6) (fun hHeld => ?_)
                clear hK K
                try simp only [Act.put, List.setIfInBounds_toArray, List.set_cons_zero, List.set_cons_succ]
                (refine wpAnyH_take (i := 7) (oi := ?_) (v := ?_) ?_ (by kernel_rfl) (by kernel_rfl) (by kernel_rfl) ?_ (Or.inl ⟨?_, ?_⟩) (by assumption) ?_; rotate_left 2; (focus ((simp only [List.getElem?_toArray, List.getElem?_cons_succ, List.getElem?_cons_zero]); first | done | rfl)); (focus (exact fun _ _ _ h => h)); (focus rfl); (focus (intro wz hSw; (try dsimp only at hSw); go_simp; first | done | with_reducible rfl)); try simp only [Act.put, List.setIfInBounds_toArray, List.set_cons_zero, List.set_cons_succ])
                refine wpAnyH_ready (rs := [8]) (by kernel_rfl) (by simp) ?_
                refine AllReadyH.cons (o := ?_) ?_ (fun K hK => ?_) ?_
                rotate_left
                (focus ((simp only [List.getElem?_toArray, List.getElem?_cons_succ, List.getElem?_cons_zero]); first | done | rfl))
                · skip
                  go_simp
                  refine hK.out _ _ (HT8.out.bel) (fun hHeld => ?_)
                  clear hK K
                  try simp only [Act.put, List.setIfInBounds_toArray, List.set_cons_zero, List.set_cons_succ]
                  refine wpAnyH_done (by kernel_rfl) ?_ _
                  rw [← hRs.out] at HT8
                  clear hHeld z2 z3 hb6
                  go_wp2_with fail
                  go_roundw
                  case rel => exact ⟨i + 1, _, a7, c7, by go_num, by omega, HT8⟩
                  case measure => simp [intOf]; omega
                exact AllReadyH.nil
              exact AllReadyH.nil
            exact AllReadyH.nil
          exact AllReadyH.nil
        refine AllReadyH.cons (o := ?_) ?_ (fun K hK => ?_) ?_
        rotate_left
        (focus ((simp only [List.getElem?_toArray, List.getElem?_cons_succ, List.getElem?_cons_zero]); first | done | rfl))
        · skip
          have hlt9 := (HT.out.next.lt).2
          have hltK := own_lt9 HT.out.mks
          go_simp
          go_at_call 43
          refine (tmoved_any 44 b3 D.n (fun x => if f x = true then ((x : Nat) : Int) else -1) C (D.Cp i) (D.A i) (D.nx i) _ call_trim9 (fun W' h x hx => trim1_any b3 D.n cA aA f W' ((HS3.out.keep HT.out.bel).keep h) ((HAf.out.1.below HT.out.bel).below h) x hx) (by omega) (by have h9 := HzN.out; exact h9) (fun c hc => HB.out.2.2.nx i c hlt hc) (by omega)).mono ?_
          rintro e w5 ⟨a5, c5, rfl, ho5, b5⟩
          have HU : Hid (w5.ownsRow w1.heap.size 3 1 (.slice a5 C c5) C (ints ((List.range C).map (trF D i))) ∧ (∀ j, j < ((List.range i).map fun i => (List.range C).map (trF D i)).length → ∀ b, (ws j).ownBlock = some b → (Value.slice a5 C c5).ownBlock ≠ some b) ∧ ∀ b, (Value.slice a5 C c5).ownBlock = some b → (Value.slice a6 D.n c6).ownBlock ≠ some b) := by
            have habv := own_above ho5
            refine ⟨?_, fun j hj b e1 e2 => ?_, fun b e1 e2 => ?_⟩
            · rw [← HRow.out]; exact ownsRow_base ho5 HT.out.bel.size
            · have h1 := hlt9 j hj b e1
              have h2 := habv b e2
              try simp only [drew_sz9] at h1
              try simp only [drew_sz9] at h2
              omega
            · have h1 := hltK b e2
              have h2 := habv b e1
              try simp only [drew_sz9] at h1
              try simp only [drew_sz9] at h2
              omega
          have HT := Lib.hid (HT.out.keep b5)
          clear ho5 b5 hlt9 hltK
          try go_wp2_with fail
          refine hK.out _ _ (HT.out.bel) (fun hHeld => ?_)
          clear hK K
          try simp only [Act.put, List.setIfInBounds_toArray, List.set_cons_zero, List.set_cons_succ]
          refine wpAnyH_ready (rs := [1, 5]) (by kernel_rfl) (by simp) ?_
          refine AllReadyH.cons (o := ?_) ?_ (fun K hK => ?_) ?_
          rotate_left
          (focus ((simp only [List.getElem?_toArray, List.getElem?_cons_succ, List.getElem?_cons_zero]); first | done | rfl))
          · skip
            have f1 := HT.out.f1
            go_simp
            refine hK.out _ _ (hHeld) (fun hHeld => ?_)
            clear hK K
            try simp only [Act.put, List.setIfInBounds_toArray, List.set_cons_zero, List.set_cons_succ]
            clear f1
            refine wpAnyH_ready (rs := [5]) (by kernel_rfl) (by simp) ?_
            refine AllReadyH.cons (o := ?_) ?_ (fun K hK => ?_) ?_
            rotate_left
            (focus ((simp only [List.getElem?_toArray, List.getElem?_cons_succ, List.getElem?_cons_zero]); first | done | rfl))
            · skip
              go_simp
              have kk := al w5 (.cells #[.slice a5 C c5] 24)
              have HN : Hid (∀ j u, [Value.slice a5 C c5][j]? = some u → (w5.alloc (.cells #[.slice a5 C c5] 24)).cell? ((⟨w5.heap.size, 0, none⟩ : Addr).add j) = some u) := cell_one_new _ _ _
              have HT := Lib.hid (HT.out.keep kk)
              have HU := Lib.hid (And.intro (ownsRow_keep HU.out.1 kk) HU.out.2)
              refine hK.out _ _ (HT.out.bel) (fun hHeld => ?_)
              clear hK K
              try simp only [Act.put, List.setIfInBounds_toArray, List.set_cons_zero, List.set_cons_succ]
              clear kk
              generalize w5.alloc (.cells #[.slice a5 C c5] 24) = V5 at HN HT HU hHeld ⊢
              refine wpAnyH_ready (rs := [6]) (by kernel_rfl) (by simp) ?_
              refine AllReadyH.cons (o := ?_) ?_ (fun K hK => ?_) ?_
              rotate_left
              (focus ((simp only [List.getElem?_toArray, List.getElem?_cons_succ, List.getElem?_cons_zero]); first | done | rfl))
              · skip
                have hO := HT.out.next.own
                rw [hRl.out] at hO
                refine step_append_own9 (by rfl) _ _ _ (by rfl) w1.heap.size 24 iV (.slice none 0 0) 1 24 Try.underlying23 hV hV0 hV1 hV2 (by rfl) (by decide) _ i ((List.range i).map ws) (by rfl) hO ⟨w5.heap.size, 0, none⟩ 1 1 [.slice a5 C c5] (by rfl) (by rfl) HN.out (by intro u hu; simp at hu; subst hu; rfl) (by unfold maxLen; omega) (by omega) HT.out.bel.size ?_
                intro v6 w6 hown6 hgrow6
                obtain ⟨a7, c7, rfl⟩ := ownsRow_slice hown6
                have HT8 := Lib.hid (HT.out.addRow (u := .slice a5 C c5) (vN' := .slice a7 (i + 1) c7) HU.out.1 HU.out.2.1 HU.out.2.2 hRl.out hown6 hgrow6)
                have h9 := HT.out.st.grown_own HT.out.next.own (by decide) hgrow6
                have z2 : w6.cell? ⟨b4, 256, none⟩ = some (.slice aN i cN) := by rw [h9.at_, dfC_n]
                have z3 : w6.frozen? ⟨b4, 256, none⟩ = false := h9.thaw_ 256
                have hb6 := below_grown_own HT.out.bel HT.out.next.own HT.out.bel.size hgrow6
                clear hown6 hgrow6 h9 hO
                refine hK.out _ _ (hb6) (fun hHeld => ?_)
                clear hK K
                try simp only [Act.put, List.setIfInBounds_toArray, List.set_cons_zero, List.set_cons_succ]
                (refine wpAnyH_take (i := 7) (oi := ?_) (v := ?_) ?_ (by kernel_rfl) (by kernel_rfl) (by kernel_rfl) ?_ (Or.inl ⟨?_, ?_⟩) (by assumption) ?_; rotate_left 2; (focus ((simp only [List.getElem?_toArray, List.getElem?_cons_succ, List.getElem?_cons_zero]); first | done | rfl)); (focus (exact fun _ _ _ h => h)); (focus rfl); (focus (intro wz hSw; (try dsimp only at hSw); go_simp; first | done | with_reducible rfl)); try simp only [Act.put, List.setIfInBounds_toArray, List.set_cons_zero, List.set_cons_succ])
                refine wpAnyH_ready (rs := [8]) (by kernel_rfl) (by simp) ?_
                refine AllReadyH.cons (o := ?_) ?_ (fun K hK => ?_) ?_
                rotate_left
                (focus ((simp only [List.getElem?_toArray, List.getElem?_cons_succ, List.getElem?_cons_zero]); first | done | rfl))
                · skip
                  go_simp
                  refine hK.out _ _ (HT8.out.bel) (fun hHeld => ?_)
                  clear hK K
                  try simp only [Act.put, List.setIfInBounds_toArray, List.set_cons_zero, List.set_cons_succ]
                  refine wpAnyH_done (by kernel_rfl) ?_ _
                  rw [← hRs.out] at HT8
                  clear hHeld z2 z3 hb6
                  go_wp2_with fail
                  go_roundw
                  case rel => exact ⟨i + 1, _, a7, c7, by go_num, by omega, HT8⟩
                  case measure => simp [intOf]; omega
                exact AllReadyH.nil
              exact AllReadyH.nil
            exact AllReadyH.nil
          refine AllReadyH.cons (o := ?_) ?_ (fun K hK => ?_) ?_
          rotate_left
          (focus ((simp only [List.getElem?_toArray, List.getElem?_cons_succ, List.getElem?_cons_zero]); first | done | rfl))
          · skip
            go_simp
            have kk := al w5 (.cells #[.slice a5 C c5] 24)
            have HN : Hid (∀ j u, [Value.slice a5 C c5][j]? = some u → (w5.alloc (.cells #[.slice a5 C c5] 24)).cell? ((⟨w5.heap.size, 0, none⟩ : Addr).add j) = some u) := cell_one_new _ _ _
            have HT := Lib.hid (HT.out.keep kk)
            have HU := Lib.hid (And.intro (ownsRow_keep HU.out.1 kk) HU.out.2)
            refine hK.out _ _ (HT.out.bel) (fun hHeld => ?_)
            clear hK K
            try simp only [Act.put, List.setIfInBounds_toArray, List.set_cons_zero, List.set_cons_succ]
            clear kk
            generalize w5.alloc (.cells #[.slice a5 C c5] 24) = V5 at HN HT HU hHeld ⊢
            refine wpAnyH_ready (rs := [1]) (by kernel_rfl) (by simp) ?_
            refine AllReadyH.cons (o := ?_) ?_ (fun K hK => ?_) ?_
            rotate_left
            (focus ((simp only [List.getElem?_toArray, List.getElem?_cons_succ, List.getElem?_cons_zero]); first | done | rfl))
            · skip
              have f1 := HT.out.f1
              go_simp
              refine hK.out _ _ (hHeld) (fun hHeld => ?_)
              clear hK K
              try simp only [Act.put, List.setIfInBounds_toArray, List.set_cons_zero, List.set_cons_succ]
              clear f1
              refine wpAnyH_ready (rs := [6]) (by kernel_rfl) (by simp) ?_
              refine AllReadyH.cons (o := ?_) ?_ (fun K hK => ?_) ?_
              rotate_left
              (focus ((simp only [List.getElem?_toArray, List.getElem?_cons_succ, List.getElem?_cons_zero]); first | done | rfl))
              · skip
                have hO := HT.out.next.own
                rw [hRl.out] at hO
                refine step_append_own9 (by rfl) _ _ _ (by rfl) w1.heap.size 24 iV (.slice none 0 0) 1 24 Try.underlying23 hV hV0 hV1 hV2 (by rfl) (by decide) _ i ((List.range i).map ws) (by rfl) hO ⟨w5.heap.size, 0, none⟩ 1 1 [.slice a5 C c5] (by rfl) (by rfl) HN.out (by intro u hu; simp at hu; subst hu; rfl) (by unfold maxLen; omega) (by omega) HT.out.bel.size ?_
                intro v6 w6 hown6 hgrow6
                obtain ⟨a7, c7, rfl⟩ := ownsRow_slice hown6
                have HT8 := Lib.hid (HT.out.addRow (u := .slice a5 C c5) (vN' := .slice a7 (i + 1) c7) HU.out.1 HU.out.2.1 HU.out.2.2 hRl.out hown6 hgrow6)
                have h9 := HT.out.st.grown_own HT.out.next.own (by decide) hgrow6
                have z2 : w6.cell? ⟨b4, 256, none⟩ = some (.slice aN i cN) := by rw [h9.at_, dfC_n]
                have z3 : w6.frozen? ⟨b4, 256, none⟩ = false := h9.thaw_ 256
                have hb6 := below_grown_own HT.out.bel HT.out.next.own HT.out.bel.size hgrow6
                clear hown6 hgrow6 h9 hO
                refine hK.out _ _ (hb6) (fun hHeld => ?_)
                clear hK K
                try simp only [Act.put, List.setIfInBounds_toArray, List.set_cons_zero, List.set_cons_succ]
                (refine wpAnyH_take (i := 7) (oi := ?_) (v := ?_) ?_ (by kernel_rfl) (by kernel_rfl) (by kernel_rfl) ?_ (Or.inl ⟨?_, ?_⟩) (by assumption) ?_; rotate_left 2; (focus ((simp only [List.getElem?_toArray, List.getElem?_cons_succ, List.getElem?_cons_zero]); first | done | rfl)); (focus (exact fun _ _ _ h => h)); (focus rfl); (focus (intro wz hSw; (try dsimp only at hSw); go_simp; first | done | with_reducible rfl)); try simp only [Act.put, List.setIfInBounds_toArray, List.set_cons_zero, List.set_cons_succ])
                refine wpAnyH_ready (rs := [8]) (by kernel_rfl) (by simp) ?_
                refine AllReadyH.cons (o := ?_) ?_ (fun K hK => ?_) ?_
                rotate_left
                (focus ((simp only [List.getElem?_toArray, List.getElem?_cons_succ, List.getElem?_cons_zero]); first | done | rfl))
                · skip
                  go_simp
                  refine hK.out _ _ (HT8.out.bel) (fun hHeld => ?_)
                  clear hK K
                  try simp only [Act.put, List.setIfInBounds_toArray, List.set_cons_zero, List.set_cons_succ]
                  refine wpAnyH_done (by kernel_rfl) ?_ _
                  rw [← hRs.out] at HT8
                  clear hHeld z2 z3 hb6
                  go_wp2_with fail
                  go_roundw
                  case rel => exact ⟨i + 1, _, a7, c7, by go_num, by omega, HT8⟩
                  case measure => simp [intOf]; omega
                exact AllReadyH.nil
              exact AllReadyH.nil
            exact AllReadyH.nil
          exact AllReadyH.nil
        exact AllReadyH.nil
      · obtain rfl : i = D.n := by omega
        have HSt4 := Lib.hid HT.out.st
        have HSt2 := Lib.hid (H1.out.2.1.keep HT.out.bel)
        have hd := dfC_size D.K (.slice aN D.n cN) (.slice a6 D.n c6)
        have hbB : Hid (Below w.heap.size w (wr.setRow b2 (dfC D.K (.slice aN D.n cN) (.slice a6 D.n c6)))) := by
          rw [Hb.out.1]
          exact below_setRow9 (H1.out.2.2.trans (HT.out.bel.mono (by have := hbw1.out; have := Hb.out.1; omega))) (by have := Hb.out; omega) _
        have HF : Hid (DfP D C D.n (trF D) D.q w (.returned (.agg (dfC D.K (.slice aN D.n cN) (.slice a6 D.n c6)))) (wr.setRow b2 (dfC D.K (.slice aN D.n cN) (.slice a6 D.n c6)))) :=
          HT.out.dfp HB.out.1.dm.kl hRl.out (fun r hr => by obtain ⟨j, _, rfl⟩ := List.mem_map.1 hr; simp) rfl (fun j hj c hc => by simp [List.getD_eq_getElem?_getD, hj, hc]) hbw1.out (Or.inr ⟨b2, _, _, HSt2.out, rfl⟩) hbB.out
        go_wp2_with (first | (refine wpList_load_part rfl 26 _ rfl ⟨b4, 0, none⟩ rfl (dfC D.K (.slice aN D.n cN) (.slice a6 D.n c6)) _ HSt4.out.part Try.underlying26 rfl (by rw [info_dfa9, hd]) ?_) | (refine wpList_store_var9 rfl 26 _ _ rfl b2 26 (zC 26) (dfC D.K (.slice aN D.n cN) (.slice a6 D.n c6)) rfl rfl HSt2.out (by rw [zDfa_size, hd]) (by rw [info_dfa9, hd]) (dfC_one _ _ _ _ _ _ _) ?_))
        refine bodyPost_ret (results_cell_row rfl _ _ b2 26 (dfC D.K (.slice aN D.n cN) (.slice a6 D.n c6)) (0, 0) _ rfl HSt2.out.setRow Try.underlying26 rfl (by rw [info_dfa9, hd])) rfl ?_
        exact HF.out
end Go.Proofs.Ytldpmcgkbdejjaa

namespace Go.Proofs.Ytldpmcgkbdejjaa
open Go.RowKit Go.Maps Go.WideElems Go.ChangeMaps Go.MapKept
set_option linter.unusedVariables false
set_option linter.unusedSimpArgs false

def isBk (b : Nat) : Bool := b == 32 || b == 10 || b == 9 || b == 13
def bkI (b : Nat) : Int := Lib.indexByte [32, 10, 9, 13] (b : Int).toNat.toUInt8
theorem bkI_is (b : Nat) (hb : b < 256) : (isBk b = true → ¬ bkI b < 0) ∧ (isBk b = false → bkI b < 0) := by
  have h : (List.range 256).all (fun b => isBk b == !decide (bkI b < 0)) = true := by kernel_rfl
  have h1 := List.all_eq_true.1 h b (by simpa using hb)
  have h2 : isBk b = !decide (bkI b < 0) := by simpa using h1
  constructor
  · intro h3; rw [h3] at h2; simpa using h2.symm
  · intro h3; rw [h3] at h2; simpa using h2.symm
theorem bk_any (b : Nat) (w : World) : Calls Try.prog 66 #[.string ⟨#[32, 10, 9, 13]⟩, .int .u8 ((b : Nat) : Int)] w fun e w' => e = .returned (.int .i64 (bkI b)) ∧ w' = w := Try.strings_IndexByte ⟨#[32, 10, 9, 13]⟩ b w

theorem markF_at {D : Dd} {k : Nat} (h : k < D.n) : markF D ((k : Nat) : Int) = D.q k := by
  unfold markF
  rw [if_pos (by omega), Int.toNat_natCast]

set_option maxHeartbeats 2000000 in
set_option maxRecDepth 100000 in
theorem others_no (D : Dd) (C : Nat) (hR : DR D C) (st bl : Int) (hx : ∀ x, x < D.n → RcI D st x → D.q x = -1 ∨ D.q x = bl) (w : World) (hD : DM w D) :
    Calls Try.prog 51 #[.agg D.cD, .int .i64 st, .int .i64 bl] w fun e w' => e = .returned (.bool false) ∧ Below w.heap.size w w' := by
  have hn2 := hR.n2
  have HB := Lib.hid (And.intro (DBx.new hD) (And.intro (al w (.cells D.cD 26)) (And.intro hR hx)))
  clear hD hR hx
  go_enter Try.func51, Try.ntmps51
  go_upto_region 1 with fail
  generalize w.alloc (.cells D.cD 26) = V at HB ⊢
  obtain ⟨b, hb0⟩ : ∃ b0, w.heap.size = b0 := ⟨_, rfl⟩
  have Hb0 := Lib.hid hb0
  rw [hb0] at HB
  rw [hb0]
  clear hb0
  have HFw : Hid (∀ W', Below V.heap.size V W' → Below w.heap.size w W') := fun W' h => by
    have hz := HB.out.2.1.size
    rw [Hb0.out]
    exact HB.out.2.1.trans (h.mono (by have := Hb0.out; omega))
  have HL := Lib.hid (reached_any D C st V HB.out.1.dm HB.out.2.2.1)
  go_wp2_with (first
    | (refine wpList_load_any9 (by rfl) 26 _ rfl ⟨b, 0, none⟩ rfl D.cD _ HB.out.1.st.part Try.underlying26 rfl HB.out.1.dm.info ?_)
    | (go_at_call 47; refine HL.out.mono ?_; rintro e w2 ⟨f, aF, cF, rfl, hown, hf, b2⟩))
  have HQ := Lib.hid (And.intro (bls_at hown) (And.intro hf b2))
  clear hown hf b2 HL
  go_wp2_with fail
  go_loopw [7, 8, 9, 14] (fun _ _ _ v wr => ∃ k : Nat, v = .int .i64 k ∧ k ≤ D.n ∧ Hid (Below w2.heap.size w2 wr)) (fun _ _ _ v _ => D.n - (intOf v).toNat)
  case atStart => exact ⟨0, rfl, Nat.zero_le _, Below.refl _ _⟩
  case round =>
    obtain ⟨k, rfl, hk, HX⟩ := hrel
    by_cases hlt : k < D.n
    · have i1 : (k : Int) < (D.n : Int) := by omega
      obtain ⟨g1, o1, rfl, _, q1⟩ := (HQ.out.1.below HX.out) (by omega)
      have x1 := q1 k hlt
      have HBr := Lib.hid (HB.out.1.keep (HQ.out.2.2.trans (HX.out.mono HQ.out.2.2.size)))
      have HM := Lib.hid (dmark_any D C HB.out.2.2.1 ((k : Nat) : Int) wr HBr.out.dm)
      have HY : Hid (f k = true → D.q k = -1 ∨ D.q k = bl) := fun h => HB.out.2.2.2 k hlt ((HQ.out.2.1 k hlt).1 h)
      rw [markF_at hlt] at HM
      clear q1
      go_upto_region 5 with (first
        | (refine wpList_load_any9 (by rfl) 26 _ rfl ⟨b, 0, none⟩ rfl D.cD _ HBr.out.st.part Try.underlying26 rfl HBr.out.dm.info ?_)
        | (go_at_call 45; refine HM.out.mono ?_; rintro e w3 ⟨rfl, b3⟩))
      have HX3 := Lib.hid (HX.out.trans (b3.mono HX.out.size))
      clear b3 HM
      generalize D.q k = q at HY ⊢
      generalize f k = fk at HY ⊢
      rcases fk with _ | _
      · go_wp2_with fail
        go_roundw
        case rel => exact ⟨k + 1, by go_num, by omega, HX3.out⟩
        case measure => simp [intOf]; omega
      · by_cases hq1 : q = -1
        · have j1 : (q != -1) = false := by simp [hq1]
          go_wp2_with fail
          go_roundw
          case rel => exact ⟨k + 1, by go_num, by omega, HX3.out⟩
          case measure => simp [intOf]; omega
        · have j1 : (q != -1) = true := by simp [hq1]
          have j2 : (q != bl) = false := by
            rcases HY.out rfl with h | h
            · exact absurd h hq1
            · simp [h]
          clear hq1
          go_wp2_with fail
          go_roundw
          case rel => exact ⟨k + 1, by go_num, by omega, HX3.out⟩
          case measure => simp [intOf]; omega
    · obtain rfl : k = D.n := by omega
      go_wp2_with fail
      go_ret
      exact ⟨rfl, HFw.out _ (HQ.out.2.2.trans (HX.out.mono HQ.out.2.2.size))⟩

set_option maxHeartbeats 2000000 in
set_option maxRecDepth 100000 in
theorem mixed_no (D : Dd) (C : Nat) (hR : DR D C) (st : Int) (hx : ∀ c, c < 256 → isBk c = false → stepF D st c = -1) (w : World) (hD : DM w D) :
    Calls Try.prog 50 #[.agg D.cD, .int .i64 st] w fun e w' => e = .returned (.bool false) ∧ Below w.heap.size w w' := by
  have HB := Lib.hid (And.intro (DBx.new hD) (And.intro (al w (.cells D.cD 26)) (And.intro hR hx)))
  clear hD hR hx
  go_enter Try.func50, Try.ntmps50
  go_upto_region 1 with fail
  generalize w.alloc (.cells D.cD 26) = V at HB ⊢
  obtain ⟨b, hb0⟩ : ∃ b0, w.heap.size = b0 := ⟨_, rfl⟩
  have Hb0 := Lib.hid hb0
  rw [hb0] at HB
  rw [hb0]
  clear hb0
  have HFw : Hid (∀ W', Below V.heap.size V W' → Below w.heap.size w W') := fun W' h => by
    have hz := HB.out.2.1.size
    rw [Hb0.out]
    exact HB.out.2.1.trans (h.mono (by have := Hb0.out; omega))
  go_wp2_with fail
  go_loopw [5, 6, 7] (fun _ _ v wr => ∃ k : Nat, v = .int .i64 k ∧ k ≤ 256 ∧ Hid (Below V.heap.size V wr)) (fun _ _ v _ => 256 - (intOf v).toNat)
  case atStart => exact ⟨0, rfl, Nat.zero_le _, Below.refl _ _⟩
  case round =>
    obtain ⟨k, rfl, hk, HX⟩ := hrel
    by_cases hlt : k < 256
    · have i1 : (k : Int) < 256 := by omega
      have i2 : IntKind.u8.wrap ((k : Nat) : Int) = (k : Int) := IntWalk.u8_in _ (by omega)
      have HBr := Lib.hid (HB.out.1.keep HX.out)
      have HI := Lib.hid (bk_any k wr)
      have HS := Lib.hid (dstep_any D C HB.out.2.2.1 st k hlt wr HBr.out.dm)
      obtain ⟨h1, h2⟩ := bkI_is k hlt
      generalize bkI k = x at HI h1 h2
      rcases hbk : isBk k with _ | _
      · have j1 : x < 0 := h2 hbk
        have hs := HB.out.2.2.2 k hlt hbk
        rw [hs] at HS
        clear h1 h2 hbk hs
        go_wp2_with (first
          | (go_at_call 66; refine HI.out.mono ?_; rintro e w3 ⟨rfl, rfl⟩)
          | (refine wpList_load_any9 (by rfl) 26 _ rfl ⟨b, 0, none⟩ rfl D.cD _ HBr.out.st.part Try.underlying26 rfl HBr.out.dm.info ?_)
          | (go_at_call 48; refine HS.out.mono ?_; rintro e w4 ⟨rfl, b4⟩
             have HX4 := Lib.hid (HX.out.trans (b4.mono HX.out.size))
             clear b4 HS))
        go_roundw
        case rel => exact ⟨k + 1, by go_num, by omega, HX4.out⟩
        case measure => simp [intOf]; omega
      · have j1 : decide (x < 0) = false := decide_eq_false (h1 hbk)
        clear h1 h2 hbk HS
        go_wp2_with (go_at_call 66; refine HI.out.mono ?_; rintro e w3 ⟨rfl, rfl⟩)
        go_roundw
        case rel => exact ⟨k + 1, by go_num, by omega, HX.out⟩
        case measure => simp [intOf]; omega
    · obtain rfl : k = 256 := by omega
      go_wp2_with fail
      go_ret
      exact ⟨rfl, HFw.out _ HX.out⟩
end Go.Proofs.Ytldpmcgkbdejjaa
