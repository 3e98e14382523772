import Derived.Test.YtgmcfgkjhobiaaaZMUniq
import Derived.Test.YtgmcfgkjhobiaaaZPMcW
import Derived.Test.YtgmcfgkjhobiaaaZPMst
import Derived.Test.YtgmcfgkjhobiaaaZTLaw
namespace Go.Proofs.Ytgmcfgkjhobiaaa
open Go.RowKit Go.Maps Go.WideElems Go.ChangeMaps Go.MapKept
set_option linter.unusedVariables false
set_option linter.unusedSimpArgs false

theorem z_cell {i : Nat} {v : Value} (h : (zC 26)[i]? = some v) : v = .int .u8 0 ∨ v = .slice none 0 0 := by
  have hz := zDfa_size
  by_cases a : i < 256
  · rw [zDfa_cls11 i a] at h
    exact Or.inl (Option.some.inj h).symm
  · by_cases b : i = 256
    · subst b; rw [zDfa_tail.1] at h; exact Or.inr (Option.some.inj h).symm
    · by_cases c : i = 257
      · subst c; rw [zDfa_tail.2] at h; exact Or.inr (Option.some.inj h).symm
      · rw [Array.getElem?_eq_none (by omega)] at h; cases h
/-- A fresh variable is none of an automaton's rows. -/
theorem DM.setz {w : World} {b : Nat} {D : Dd} {C : Nat} (hR : DR D C) (h : DM w D) (hs : St w 26 b (zC 26)) (cs : Array Value) : DM (w.setRow b cs) D := by
  have hk := kept_setRow9 w b cs
  have hsz : (w.setRow b cs).heap.size = w.heap.size := setRow_size _ _ _
  have hC := (hR.c256 h.kl).1
  have key : ∀ {g i : Nat} {v : Value}, g < w.heap.size → w.cell? ⟨g, i, none⟩ = some v → v ≠ .int .u8 0 → v ≠ .slice none 0 0 → (w.setRow b cs).cell? ⟨g, i, none⟩ = some v := fun {g i v} hg hc h1 h2 => by
    have hgb : g ≠ b := fun e => by
      subst e
      rw [hs.at_] at hc
      rcases z_cell hc with e | e
      · exact h1 e
      · exact h2 e
    rw [hk.cell9 (g := g) (i := i) (by simpa using hgb) hg]
    exact hc
  refine ⟨h.sz, h.one, h.cl, h.kl, h.fN, h.fM, fun h0 => ?_, fun h0 => ?_⟩
  · obtain ⟨g, off, e, hg, hc⟩ := h.rN h0
    refine ⟨g, off, e, by rw [hsz]; exact hg, fun i hi => ⟨key hg (hc i hi).1 (fun e => by cases e) (fun e => by
      injection e with _ e _
      have := hR.len i hi
      omega), fun h1 => ?_⟩⟩
    obtain ⟨g', off', e', hg', hc'⟩ := (hc i hi).2 h1
    exact ⟨g', off', e', by rw [hsz]; exact hg', fun j hj => key hg' (hc' j hj) (fun e => by cases e) (fun e => by cases e)⟩
  · obtain ⟨g, off, e, hg, hc⟩ := h.rM h0
    exact ⟨g, off, e, by rw [hsz]; exact hg, fun j hj => key hg (hc j hj) (fun e => by cases e) (fun e => by cases e)⟩
theorem DBx.stored {w : World} {b : Nat} {D : Dd} {C : Nat} (hR : DR D C) (hD : DM w D) (h : St w 26 b (zC 26)) : DBx (w.setRow b D.cD) b D := ⟨h.setRow, hD.setz hR h _⟩
/-- The merged automaton, and how it was made. -/
def PiP (O P : Dd) (C C' : Nat) : Prop := ∃ (f : Nat → Nat) (B : Nat) (M : Dd) (g : Nat → Nat), Num (Eqv C (tD O) (mD O)) O.n f B ∧ MgF O C f B M ∧ Num (ColE M M.n) 256 g C' ∧ ClF M g C' P
theorem PiP.right {O P : Dd} {C C' : Nat} (hR : DR O C) (h : PiP O P C C') : DR P C' := by
  obtain ⟨f, B, M, g, h1, h2, h3, h4⟩ := h
  exact h4.right (h2.right hR h1) h3
theorem PiP.le {O P : Dd} {C C' : Nat} (h : PiP O P C C') : P.n ≤ O.n := by
  obtain ⟨f, B, M, g, h1, h2, h3, h4⟩ := h
  have e := h4.n
  have e2 : M.n = B := h2.2.1
  have e3 := h1.rpl_all
  have e4 := rpl_len f O.n
  omega
theorem PiP.mn {O P X : Dd} {C C' k : Nat} {l : List Nat} (hR : DR O C) (hO : Ordd O) (hT : Tgt O C) (h : PiP O P C C') (hl : l = wkN (rowsF P.len P.nx) [0] k) (hlk : l.length = k) (hkn : k ≤ P.n) (hX : DfF P C' k (ordF P l) (fun i => P.q (l.getD i 0)) X) : Mn X C' ∧ Beh X 0 O 0 := by
  obtain ⟨f, B, M, g, h1, h2, h3, h4⟩ := h
  exact Mn.made hR hO hT h1 h2 h3 h4 hl hlk hkn hX
/-- What the trimmed automaton is, once in order. -/
structure Odd (D O : Dd) (C : Nat) : Prop where
  r : DR O C
  ord : Ordd O
  tgt : Tgt O C
  beh : Beh O 0 D 0
  le : O.n ≤ D.n
theorem Odd.made {D T O : Dd} {C k : Nat} {l : List Nat} (hR : DR D C) (hT : DfF D C D.n (trF D) D.q T) (hl : l = wkN (rowsF T.len T.nx) [0] k) (hlk : l.length = k) (hkn : k ≤ T.n) (hO : DfF T C k (ordF T l) (fun i => T.q (l.getD i 0)) O) : Odd D O C := by
  have hRT := hT.trim_right hR
  have hTT := hT.trim_tgt hR
  have hn := hR.n1
  have h1 := wk_first (D := T) (k := k) (by rw [← hl]; exact hlk)
  rw [← hl] at h1
  have hb := hO.ord_beh hRT hl hlk (i := 0) (by omega)
  rw [h1.2] at hb
  refine ⟨?_, hO.ordd hRT hl hlk, hO.ord_tgt hRT hTT hl hlk, hb.trans (hT.trim_beh hR (by omega)), by have h3 := hO.2.1; have h4 := hT.2.1; omega⟩
  subst hl
  exact hO.ord_right hRT hlk hkn
/-- The least automaton is the answer. -/
def OfPost (D : Dd) (w : World) (e : Ending) (w' : World) : Prop := ∃ (X : Dd) (C' : Nat), e = .returned (.tuple #[.agg X.cD, .int .i64 0]) ∧ DM w' X ∧ Mn X C' ∧ Beh X 0 D 0 ∧ X.n ≤ D.n ∧ Below w.heap.size w w'

set_option maxHeartbeats 4000000 in
set_option maxRecDepth 100000 in
theorem of_least (D : Dd) (C : Nat) (hR : DR D C) (w : World) (hD : DM w D) : Calls Try.prog 10 #[.agg D.cD] w (OfPost D w) := by
  have HB := Lib.hid (And.intro (DBx.new hD) (And.intro (al w (.cells D.cD 26)) hR))
  clear hD hR
  go_enter Try.func10, Try.ntmps10
  go_upto_region 1 with (refine wpList_alloc9 rfl 26 rfl (zC 26) (zero_run9 _) ?_)
  try simp only [Act.put, List.setIfInBounds_toArray, List.set_cons_zero, List.set_cons_succ, alloc_sz9]
  have H0 : Hid (DBx ((w.alloc (.cells D.cD 26)).alloc (.cells (zC 26) 26)) w.heap.size D ∧ St ((w.alloc (.cells D.cD 26)).alloc (.cells (zC 26) 26)) 26 (w.heap.size + 1) (zC 26) ∧ Below w.heap.size w ((w.alloc (.cells D.cD 26)).alloc (.cells (zC 26) 26))) := by
    refine ⟨HB.out.1.keep (al _ _), ?_, HB.out.2.1.trans ((al _ _).mono (by simp))⟩
    have := St.new (w.alloc (.cells D.cD 26)) 26 (zC 26)
    simpa using this
  generalize (w.alloc (.cells D.cD 26)).alloc (.cells (zC 26) 26) = Wb at H0 ⊢
  obtain ⟨b2, hb2⟩ : ∃ b2, w.heap.size + 1 = b2 := ⟨_, rfl⟩
  obtain ⟨b0, hb0⟩ : ∃ b0, w.heap.size = b0 := ⟨_, rfl⟩
  rw [hb2, hb0] at H0
  rw [hb2, hb0]
  have Hb := Lib.hid (And.intro hb0 hb2)
  clear hb2 hb0
  have HRy := Lib.hid (right_yes D C HB.out.2.2 Wb H0.out.1.dm)
  go_wp2_with (refine wpList_load_any9 (by rfl) 26 _ rfl ⟨b0, 0, none⟩ rfl D.cD _ H0.out.1.st.part Try.underlying26 rfl H0.out.1.dm.info ?_)
  refine HRy.out.mono ?_
  rintro e wy ⟨rfl, by_⟩
  have H0y : Hid (DBx wy b0 D ∧ St wy 26 b2 (zC 26) ∧ Below b0 w wy ∧ b0 ≤ wy.heap.size) := ⟨H0.out.1.keep by_, H0.out.2.1.keep by_, H0.out.2.2.trans (by_.mono (by have := H0.out.2.2.size; have := Hb.out.1; omega)), by have := H0.out.2.2.size; have := by_.size; have := Hb.out.1; omega⟩
  have HTr := Lib.hid (trim_any D C wy H0y.out.1.dm HB.out.2.2)
  clear by_ HRy
  go_wp2_with (refine wpList_load_any9 (by rfl) 26 _ rfl ⟨b0, 0, none⟩ rfl D.cD _ H0y.out.1.st.part Try.underlying26 rfl H0y.out.1.dm.info ?_)
  refine HTr.out.mono ?_
  rintro e wT ⟨T, rfl, hdT, t1, t2, t3, t4, t5, t6, bT, _⟩
  have HT := Lib.hid (And.intro hdT (show DfF D C D.n (trF D) D.q T from ⟨t1, t2, t3, t4, t5, t6⟩))
  have H1 : Hid (St wT 26 b2 (zC 26) ∧ Below b0 w wT ∧ b0 ≤ wT.heap.size) := ⟨H0y.out.2.1.keep bT, H0y.out.2.2.1.trans (bT.mono H0y.out.2.2.2), by have := H0y.out.2.2.2; have := bT.size; omega⟩
  obtain ⟨k, hlk, hkn⟩ := wk_ends (HT.out.2.trim_right HB.out.2.2)
  have HOr := Lib.hid (order_any T C _ k rfl hlk hkn wT HT.out.1 (HT.out.2.trim_right HB.out.2.2))
  have Hlk := Lib.hid (And.intro hlk hkn)
  clear hdT t1 t2 t3 t4 t5 t6 bT HTr hlk hkn
  go_wp2_with fail
  refine HOr.out.mono ?_
  rintro e wO ⟨O, rfl, hdO, t1, t2, t3, t4, t5, t6, bO, _⟩
  have HO := Lib.hid (And.intro hdO (Odd.made HB.out.2.2 HT.out.2 rfl Hlk.out.1 Hlk.out.2 ⟨t1, t2, t3, t4, t5, t6⟩))
  have H2 : Hid (St wO 26 b2 (zC 26) ∧ Below b0 w wO ∧ b0 ≤ wO.heap.size) := ⟨H1.out.1.keep bO, H1.out.2.1.trans (bO.mono H1.out.2.2), by have := H1.out.2.2; have := bO.size; omega⟩
  clear hdO t1 t2 t3 t4 t5 t6 bO HOr
  have HSt4 := Lib.hid (St.new wO 26 (zC 26))
  have H3 : Hid (DBx ((wO.alloc (.cells (zC 26) 26)).setRow wO.heap.size O.cD) wO.heap.size O ∧ Below wO.heap.size wO ((wO.alloc (.cells (zC 26) 26)).setRow wO.heap.size O.cD)) :=
    ⟨DBx.stored HO.out.2.r (HO.out.1.below (al _ _)) (St.new _ _ _), below_setRow9 (al _ _) (Nat.le_refl _) _⟩
  go_upto_region 4 with (first
    | (refine wpList_alloc9 rfl 26 rfl (zC 26) (zero_run9 _) ?_)
    | (refine wpList_store_var9 rfl 26 _ _ rfl wO.heap.size 26 (zC 26) O.cD rfl rfl HSt4.out (by rw [zDfa_size, HO.out.1.sz]) (by rw [info_dfa9, HO.out.1.sz]) HO.out.1.one ?_))
  simp only [Act.put, List.setIfInBounds_toArray, List.set_cons_zero, List.set_cons_succ]
  obtain ⟨b4, hb4⟩ : ∃ b4, wO.heap.size = b4 := ⟨_, rfl⟩
  rw [hb4] at H3
  rw [hb4]
  generalize (wO.alloc (.cells (zC 26) 26)).setRow b4 O.cD = V at H3 ⊢
  have H4 : Hid (St V 26 b2 (zC 26) ∧ Below b0 w V ∧ b0 ≤ V.heap.size) := by
    have h := H3.out.2
    have hs := h.size
    rw [← hb4] at h
    exact ⟨H2.out.1.keep h, H2.out.2.1.trans (h.mono H2.out.2.2), by have := H2.out.2.2; omega⟩
  clear hb4 HSt4
  have HSo : Hid (∀ W', Below V.heap.size V W' → Below V.heap.size V W' ∧ DBx W' b4 O) := fun W' h => ⟨h, H3.out.1.keep h⟩
  go_cut [5] from 13 to 17 (fun v wx => ∃ (b5 : Nat) (P : Dd) (C' : Nat), v = .pointer (some ⟨b5, 0, none⟩) ∧ DBx wx b5 P ∧ PiP O P C C' ∧ Below V.heap.size V wx)
  case first =>
    refine wp_region_held_drew (S := fun W' => Below V.heap.size V W' ∧ DBx W' b4 O) (by kernel_rfl) (HSo.out _ (Below.refl _ _).drew) (fun hHeld => ?_)
    (refine wpAnyH_take (i := 0) (oi := ?_) (v := .agg O.cD) ?_ (by kernel_rfl) (by kernel_rfl) (by kernel_rfl) ?_ (Or.inl ⟨?_, ?_⟩) (by assumption) ?_; rotate_left; (focus ((simp only [List.getElem?_toArray, List.getElem?_cons_zero]); first | done | rfl)); (focus (exact fun _ _ _ h => h)); (focus rfl); (focus (intro wz hSw; exact exec_load_any9 (o := _) (ρ := _) wz 26 (.tmp 4) rfl ⟨b4, 0, none⟩ rfl O.cD _ (DBx.st (And.right hSw)).part Try.underlying26 rfl (DBx.dm (And.right hSw)).info)); try simp only [Act.put, List.setIfInBounds_toArray, List.set_cons_zero, List.set_cons_succ])
    (refine wpAnyH_take (i := 1) (oi := ?_) (v := .agg O.cD) ?_ (by kernel_rfl) (by kernel_rfl) (by kernel_rfl) ?_ (Or.inl ⟨?_, ?_⟩) (by assumption) ?_; rotate_left; (focus ((simp only [List.getElem?_toArray, List.getElem?_cons_succ, List.getElem?_cons_zero]); first | done | rfl)); (focus (exact fun _ _ _ h => h)); (focus rfl); (focus (intro wz hSw; exact exec_load_any9 (o := _) (ρ := _) wz 26 (.tmp 4) rfl ⟨b4, 0, none⟩ rfl O.cD _ (DBx.st (And.right hSw)).part Try.underlying26 rfl (DBx.dm (And.right hSw)).info)); try simp only [Act.put, List.setIfInBounds_toArray, List.set_cons_zero, List.set_cons_succ])
    refine wpAnyH_ready (rs := [2, 5]) (by kernel_rfl) (by simp) ?_
    refine AllReadyH.cons (o := ?_) ?_ (fun K hK => ?_) ?_
    rotate_left
    (focus ((simp only [List.getElem?_toArray, List.getElem?_cons_succ, List.getElem?_cons_zero]); first | done | rfl))
    · skip
      go_simp
      go_at_call 11
      refine (blocks_any O C HO.out.2.r _ hHeld.2.dm).mono ?_
      rintro e w8 ⟨f, B, aB, cB, rfl, ho, hNm, vv⟩
      have hbn : Below V.heap.size V w8 := hHeld.1.trans (vv.mono hHeld.1.size)
      have HK := Lib.hid (And.intro (blk_zat9 ho) hNm)
      clear ho hNm vv
      try go_wp2_with fail
      refine hK.out _ _ (HSo.out _ hbn) (fun hHeld => ?_)
      clear hK K
      try simp only [Act.put, List.setIfInBounds_toArray, List.set_cons_zero, List.set_cons_succ]
      clear hbn
      refine wpAnyH_ready (rs := [3, 5]) (by kernel_rfl) (by simp) ?_
      refine AllReadyH.cons (o := ?_) ?_ (fun K hK => ?_) ?_
      rotate_left
      (focus ((simp only [List.getElem?_toArray, List.getElem?_cons_succ, List.getElem?_cons_zero]); first | done | rfl))
      · skip
        go_simp
        go_at_call 31
        refine (mergedStates_any O C HO.out.2.r _ f B HK.out.2 aB cB _ hHeld.2.dm HK.out.1).mono ?_
        rintro e w9 ⟨M, rfl, hdM, t1, t2, t3, t4, t5, t6, vv, _⟩
        have hbn : Below V.heap.size V w9 := hHeld.1.trans (vv.mono hHeld.1.size)
        have HMm := Lib.hid (And.intro hdM (show MgF O C f B M from ⟨t1, t2, t3, t4, t5, t6⟩))
        clear hdM t1 t2 t3 t4 t5 t6 vv
        try go_wp2_with fail
        refine hK.out _ _ (HSo.out _ hbn) (fun hHeld => ?_)
        clear hK K
        try simp only [Act.put, List.setIfInBounds_toArray, List.set_cons_zero, List.set_cons_succ]
        clear hbn
        refine wpAnyH_ready (rs := [4, 5]) (by kernel_rfl) (by simp) ?_
        refine AllReadyH.cons (o := ?_) ?_ (fun K hK => ?_) ?_
        rotate_left
        (focus ((simp only [List.getElem?_toArray, List.getElem?_cons_succ, List.getElem?_cons_zero]); first | done | rfl))
        · skip
          go_simp
          go_at_call 30
          refine (mergedClasses_any M C (HMm.out.2.right HO.out.2.r HK.out.2) _ HMm.out.1).mono ?_
          rintro e w10 ⟨P, g, C', rfl, hdP, hNg, hCl, vv⟩
          have hbn : Below V.heap.size V w10 := hHeld.1.trans (vv.mono hHeld.1.size)
          have HPp := Lib.hid (And.intro hdP (show PiP O P C C' from ⟨f, B, M, g, HK.out.2, HMm.out.2, hNg, hCl⟩))
          clear hdP hNg hCl vv
          try go_wp2_with fail
          refine hK.out _ _ (HSo.out _ hbn) (fun hHeld => ?_)
          clear hK K
          try simp only [Act.put, List.setIfInBounds_toArray, List.set_cons_zero, List.set_cons_succ]
          clear hbn
          refine wpAnyH_ready (rs := [5]) (by kernel_rfl) (by simp) ?_
          refine AllReadyH.cons (o := ?_) ?_ (fun K hK => ?_) ?_
          rotate_left
          (focus ((simp only [List.getElem?_toArray, List.getElem?_cons_succ, List.getElem?_cons_zero]); first | done | rfl))
          · skip
            refine step_alloc9 (by rfl) 26 (by rfl) (zC 26) (zero_run9 _) ?_
            have kk := al w10 (.cells (zC 26) 26)
            have hbn : Below V.heap.size V (w10.alloc (.cells (zC 26) 26)) := hHeld.1.trans (kk.mono hHeld.1.size)
            have HPp := Lib.hid (And.intro (HPp.out.1.below kk) HPp.out.2)
            have H7 : Hid (St (w10.alloc (.cells (zC 26) 26)) 26 w10.heap.size (zC 26) ∧ V.heap.size ≤ w10.heap.size) := ⟨St.new _ _ _, hHeld.1.size⟩
            refine hK.out _ _ (HSo.out _ hbn) (fun hHeld => ?_)
            clear hK K
            try simp only [Act.put, List.setIfInBounds_toArray, List.set_cons_zero, List.set_cons_succ]
            try simp only [drew_sz9]
            clear kk
            generalize (w10.alloc (.cells (zC 26) 26)) = V7 at H7 HPp hHeld hbn ⊢
            refine wpAnyH_ready (rs := [6]) (by kernel_rfl) (by simp) ?_
            refine AllReadyH.cons (o := ?_) ?_ (fun K hK => ?_) ?_
            rotate_left
            (focus ((simp only [List.getElem?_toArray, List.getElem?_cons_succ, List.getElem?_cons_zero]); first | done | rfl))
            · skip
              refine step_store9 (by rfl) 26 _ _ (by rfl) w10.heap.size 26 (zC 26) P.cD (by rfl) (by rfl) H7.out.1 (by rw [zDfa_size, HPp.out.1.sz]) (by rw [info_dfa9, HPp.out.1.sz]) HPp.out.1.one ?_
              have HE := Lib.hid (And.intro (DBx.stored (HPp.out.2.right HO.out.2.r) HPp.out.1 H7.out.1) (And.intro HPp.out.2 (below_setRow9 hHeld.1 H7.out.2 P.cD)))
              refine hK.out _ _ (HSo.out _ HE.out.2.2) (fun hHeld => ?_)
              clear hK K
              try simp only [Act.put, List.setIfInBounds_toArray, List.set_cons_zero, List.set_cons_succ]
              refine wpAnyH_done (by kernel_rfl) ?_ _
              clear hHeld
              go_wp2_with fail
              go_meet
              exact ⟨_, P, C', rfl, HE.out⟩
            exact AllReadyH.nil
          exact AllReadyH.nil
        refine AllReadyH.cons (o := ?_) ?_ (fun K hK => ?_) ?_
        rotate_left
        (focus ((simp only [List.getElem?_toArray, List.getElem?_cons_succ, List.getElem?_cons_zero]); first | done | rfl))
        · skip
          refine step_alloc9 (by rfl) 26 (by rfl) (zC 26) (zero_run9 _) ?_
          have kk := al w9 (.cells (zC 26) 26)
          have hbn : Below V.heap.size V (w9.alloc (.cells (zC 26) 26)) := hHeld.1.trans (kk.mono hHeld.1.size)
          have HMm := Lib.hid (And.intro (HMm.out.1.below kk) HMm.out.2)
          have H7 : Hid (St (w9.alloc (.cells (zC 26) 26)) 26 w9.heap.size (zC 26) ∧ V.heap.size ≤ w9.heap.size) := ⟨St.new _ _ _, hHeld.1.size⟩
          refine hK.out _ _ (HSo.out _ hbn) (fun hHeld => ?_)
          clear hK K
          try simp only [Act.put, List.setIfInBounds_toArray, List.set_cons_zero, List.set_cons_succ]
          try simp only [drew_sz9]
          clear kk
          generalize (w9.alloc (.cells (zC 26) 26)) = V7 at H7 HMm hHeld hbn ⊢
          refine wpAnyH_ready (rs := [4]) (by kernel_rfl) (by simp) ?_
          refine AllReadyH.cons (o := ?_) ?_ (fun K hK => ?_) ?_
          rotate_left
          (focus ((simp only [List.getElem?_toArray, List.getElem?_cons_succ, List.getElem?_cons_zero]); first | done | rfl))
          · skip
            go_simp
            go_at_call 30
            refine (mergedClasses_any M C (HMm.out.2.right HO.out.2.r HK.out.2) _ HMm.out.1).mono ?_
            rintro e w10 ⟨P, g, C', rfl, hdP, hNg, hCl, vv⟩
            have H7 : Hid (St w10 26 w9.heap.size (zC 26) ∧ V.heap.size ≤ w9.heap.size) := ⟨H7.out.1.keep vv, H7.out.2⟩
            have hbn : Below V.heap.size V w10 := hHeld.1.trans (vv.mono hHeld.1.size)
            have HPp := Lib.hid (And.intro hdP (show PiP O P C C' from ⟨f, B, M, g, HK.out.2, HMm.out.2, hNg, hCl⟩))
            clear hdP hNg hCl vv
            try go_wp2_with fail
            refine hK.out _ _ (HSo.out _ hbn) (fun hHeld => ?_)
            clear hK K
            try simp only [Act.put, List.setIfInBounds_toArray, List.set_cons_zero, List.set_cons_succ]
            clear hbn
            refine wpAnyH_ready (rs := [6]) (by kernel_rfl) (by simp) ?_
            refine AllReadyH.cons (o := ?_) ?_ (fun K hK => ?_) ?_
            rotate_left
            (focus ((simp only [List.getElem?_toArray, List.getElem?_cons_succ, List.getElem?_cons_zero]); first | done | rfl))
            · skip
              refine step_store9 (by rfl) 26 _ _ (by rfl) w9.heap.size 26 (zC 26) P.cD (by rfl) (by rfl) H7.out.1 (by rw [zDfa_size, HPp.out.1.sz]) (by rw [info_dfa9, HPp.out.1.sz]) HPp.out.1.one ?_
              have HE := Lib.hid (And.intro (DBx.stored (HPp.out.2.right HO.out.2.r) HPp.out.1 H7.out.1) (And.intro HPp.out.2 (below_setRow9 hHeld.1 H7.out.2 P.cD)))
              refine hK.out _ _ (HSo.out _ HE.out.2.2) (fun hHeld => ?_)
              clear hK K
              try simp only [Act.put, List.setIfInBounds_toArray, List.set_cons_zero, List.set_cons_succ]
              refine wpAnyH_done (by kernel_rfl) ?_ _
              clear hHeld
              go_wp2_with fail
              go_meet
              exact ⟨_, P, C', rfl, HE.out⟩
            exact AllReadyH.nil
          exact AllReadyH.nil
        exact AllReadyH.nil
      refine AllReadyH.cons (o := ?_) ?_ (fun K hK => ?_) ?_
      rotate_left
      (focus ((simp only [List.getElem?_toArray, List.getElem?_cons_succ, List.getElem?_cons_zero]); first | done | rfl))
      · skip
        refine step_alloc9 (by rfl) 26 (by rfl) (zC 26) (zero_run9 _) ?_
        have kk := al w8 (.cells (zC 26) 26)
        have hbn : Below V.heap.size V (w8.alloc (.cells (zC 26) 26)) := hHeld.1.trans (kk.mono hHeld.1.size)
        have HK := Lib.hid (And.intro (HK.out.1.below kk) HK.out.2)
        have H7 : Hid (St (w8.alloc (.cells (zC 26) 26)) 26 w8.heap.size (zC 26) ∧ V.heap.size ≤ w8.heap.size) := ⟨St.new _ _ _, hHeld.1.size⟩
        refine hK.out _ _ (HSo.out _ hbn) (fun hHeld => ?_)
        clear hK K
        try simp only [Act.put, List.setIfInBounds_toArray, List.set_cons_zero, List.set_cons_succ]
        try simp only [drew_sz9]
        clear kk
        generalize (w8.alloc (.cells (zC 26) 26)) = V7 at H7 HK hHeld hbn ⊢
        refine wpAnyH_ready (rs := [3]) (by kernel_rfl) (by simp) ?_
        refine AllReadyH.cons (o := ?_) ?_ (fun K hK => ?_) ?_
        rotate_left
        (focus ((simp only [List.getElem?_toArray, List.getElem?_cons_succ, List.getElem?_cons_zero]); first | done | rfl))
        · skip
          go_simp
          go_at_call 31
          refine (mergedStates_any O C HO.out.2.r _ f B HK.out.2 aB cB _ hHeld.2.dm HK.out.1).mono ?_
          rintro e w9 ⟨M, rfl, hdM, t1, t2, t3, t4, t5, t6, vv, _⟩
          have H7 : Hid (St w9 26 w8.heap.size (zC 26) ∧ V.heap.size ≤ w8.heap.size) := ⟨H7.out.1.keep vv, H7.out.2⟩
          have hbn : Below V.heap.size V w9 := hHeld.1.trans (vv.mono hHeld.1.size)
          have HMm := Lib.hid (And.intro hdM (show MgF O C f B M from ⟨t1, t2, t3, t4, t5, t6⟩))
          clear hdM t1 t2 t3 t4 t5 t6 vv
          try go_wp2_with fail
          refine hK.out _ _ (HSo.out _ hbn) (fun hHeld => ?_)
          clear hK K
          try simp only [Act.put, List.setIfInBounds_toArray, List.set_cons_zero, List.set_cons_succ]
          clear hbn
          refine wpAnyH_ready (rs := [4]) (by kernel_rfl) (by simp) ?_
          refine AllReadyH.cons (o := ?_) ?_ (fun K hK => ?_) ?_
          rotate_left
          (focus ((simp only [List.getElem?_toArray, List.getElem?_cons_succ, List.getElem?_cons_zero]); first | done | rfl))
          · skip
            go_simp
            go_at_call 30
            refine (mergedClasses_any M C (HMm.out.2.right HO.out.2.r HK.out.2) _ HMm.out.1).mono ?_
            rintro e w10 ⟨P, g, C', rfl, hdP, hNg, hCl, vv⟩
            have H7 : Hid (St w10 26 w8.heap.size (zC 26) ∧ V.heap.size ≤ w8.heap.size) := ⟨H7.out.1.keep vv, H7.out.2⟩
            have hbn : Below V.heap.size V w10 := hHeld.1.trans (vv.mono hHeld.1.size)
            have HPp := Lib.hid (And.intro hdP (show PiP O P C C' from ⟨f, B, M, g, HK.out.2, HMm.out.2, hNg, hCl⟩))
            clear hdP hNg hCl vv
            try go_wp2_with fail
            refine hK.out _ _ (HSo.out _ hbn) (fun hHeld => ?_)
            clear hK K
            try simp only [Act.put, List.setIfInBounds_toArray, List.set_cons_zero, List.set_cons_succ]
            clear hbn
            refine wpAnyH_ready (rs := [6]) (by kernel_rfl) (by simp) ?_
            refine AllReadyH.cons (o := ?_) ?_ (fun K hK => ?_) ?_
            rotate_left
            (focus ((simp only [List.getElem?_toArray, List.getElem?_cons_succ, List.getElem?_cons_zero]); first | done | rfl))
            · skip
              refine step_store9 (by rfl) 26 _ _ (by rfl) w8.heap.size 26 (zC 26) P.cD (by rfl) (by rfl) H7.out.1 (by rw [zDfa_size, HPp.out.1.sz]) (by rw [info_dfa9, HPp.out.1.sz]) HPp.out.1.one ?_
              have HE := Lib.hid (And.intro (DBx.stored (HPp.out.2.right HO.out.2.r) HPp.out.1 H7.out.1) (And.intro HPp.out.2 (below_setRow9 hHeld.1 H7.out.2 P.cD)))
              refine hK.out _ _ (HSo.out _ HE.out.2.2) (fun hHeld => ?_)
              clear hK K
              try simp only [Act.put, List.setIfInBounds_toArray, List.set_cons_zero, List.set_cons_succ]
              refine wpAnyH_done (by kernel_rfl) ?_ _
              clear hHeld
              go_wp2_with fail
              go_meet
              exact ⟨_, P, C', rfl, HE.out⟩
            exact AllReadyH.nil
          exact AllReadyH.nil
        exact AllReadyH.nil
      exact AllReadyH.nil
    refine AllReadyH.cons (o := ?_) ?_ (fun K hK => ?_) ?_
    rotate_left
    (focus ((simp only [List.getElem?_toArray, List.getElem?_cons_succ, List.getElem?_cons_zero]); first | done | rfl))
    · skip
      refine step_alloc9 (by rfl) 26 (by rfl) (zC 26) (zero_run9 _) ?_
      have kk := al V.drew (.cells (zC 26) 26)
      have hbn : Below V.heap.size V (V.drew.alloc (.cells (zC 26) 26)) := hHeld.1.trans (kk.mono hHeld.1.size)
      have H7 : Hid (St (V.drew.alloc (.cells (zC 26) 26)) 26 V.heap.size (zC 26) ∧ V.heap.size ≤ V.heap.size) := ⟨St.new _ _ _, hHeld.1.size⟩
      refine hK.out _ _ (HSo.out _ hbn) (fun hHeld => ?_)
      clear hK K
      try simp only [Act.put, List.setIfInBounds_toArray, List.set_cons_zero, List.set_cons_succ]
      try simp only [drew_sz9]
      clear kk
      generalize (V.drew.alloc (.cells (zC 26) 26)) = V7 at H7 hHeld hbn ⊢
      refine wpAnyH_ready (rs := [2]) (by kernel_rfl) (by simp) ?_
      refine AllReadyH.cons (o := ?_) ?_ (fun K hK => ?_) ?_
      rotate_left
      (focus ((simp only [List.getElem?_toArray, List.getElem?_cons_succ, List.getElem?_cons_zero]); first | done | rfl))
      · skip
        go_simp
        go_at_call 11
        refine (blocks_any O C HO.out.2.r _ hHeld.2.dm).mono ?_
        rintro e w8 ⟨f, B, aB, cB, rfl, ho, hNm, vv⟩
        have H7 : Hid (St w8 26 V.heap.size (zC 26) ∧ V.heap.size ≤ V.heap.size) := ⟨H7.out.1.keep vv, H7.out.2⟩
        have hbn : Below V.heap.size V w8 := hHeld.1.trans (vv.mono hHeld.1.size)
        have HK := Lib.hid (And.intro (blk_zat9 ho) hNm)
        clear ho hNm vv
        try go_wp2_with fail
        refine hK.out _ _ (HSo.out _ hbn) (fun hHeld => ?_)
        clear hK K
        try simp only [Act.put, List.setIfInBounds_toArray, List.set_cons_zero, List.set_cons_succ]
        clear hbn
        refine wpAnyH_ready (rs := [3]) (by kernel_rfl) (by simp) ?_
        refine AllReadyH.cons (o := ?_) ?_ (fun K hK => ?_) ?_
        rotate_left
        (focus ((simp only [List.getElem?_toArray, List.getElem?_cons_succ, List.getElem?_cons_zero]); first | done | rfl))
        · skip
          go_simp
          go_at_call 31
          refine (mergedStates_any O C HO.out.2.r _ f B HK.out.2 aB cB _ hHeld.2.dm HK.out.1).mono ?_
          rintro e w9 ⟨M, rfl, hdM, t1, t2, t3, t4, t5, t6, vv, _⟩
          have H7 : Hid (St w9 26 V.heap.size (zC 26) ∧ V.heap.size ≤ V.heap.size) := ⟨H7.out.1.keep vv, H7.out.2⟩
          have hbn : Below V.heap.size V w9 := hHeld.1.trans (vv.mono hHeld.1.size)
          have HMm := Lib.hid (And.intro hdM (show MgF O C f B M from ⟨t1, t2, t3, t4, t5, t6⟩))
          clear hdM t1 t2 t3 t4 t5 t6 vv
          try go_wp2_with fail
          refine hK.out _ _ (HSo.out _ hbn) (fun hHeld => ?_)
          clear hK K
          try simp only [Act.put, List.setIfInBounds_toArray, List.set_cons_zero, List.set_cons_succ]
          clear hbn
          refine wpAnyH_ready (rs := [4]) (by kernel_rfl) (by simp) ?_
          refine AllReadyH.cons (o := ?_) ?_ (fun K hK => ?_) ?_
          rotate_left
          (focus ((simp only [List.getElem?_toArray, List.getElem?_cons_succ, List.getElem?_cons_zero]); first | done | rfl))
          · skip
            go_simp
            go_at_call 30
            refine (mergedClasses_any M C (HMm.out.2.right HO.out.2.r HK.out.2) _ HMm.out.1).mono ?_
            rintro e w10 ⟨P, g, C', rfl, hdP, hNg, hCl, vv⟩
            have H7 : Hid (St w10 26 V.heap.size (zC 26) ∧ V.heap.size ≤ V.heap.size) := ⟨H7.out.1.keep vv, H7.out.2⟩
            have hbn : Below V.heap.size V w10 := hHeld.1.trans (vv.mono hHeld.1.size)
            have HPp := Lib.hid (And.intro hdP (show PiP O P C C' from ⟨f, B, M, g, HK.out.2, HMm.out.2, hNg, hCl⟩))
            clear hdP hNg hCl vv
            try go_wp2_with fail
            refine hK.out _ _ (HSo.out _ hbn) (fun hHeld => ?_)
            clear hK K
            try simp only [Act.put, List.setIfInBounds_toArray, List.set_cons_zero, List.set_cons_succ]
            clear hbn
            refine wpAnyH_ready (rs := [6]) (by kernel_rfl) (by simp) ?_
            refine AllReadyH.cons (o := ?_) ?_ (fun K hK => ?_) ?_
            rotate_left
            (focus ((simp only [List.getElem?_toArray, List.getElem?_cons_succ, List.getElem?_cons_zero]); first | done | rfl))
            · skip
              refine step_store9 (by rfl) 26 _ _ (by rfl) V.heap.size 26 (zC 26) P.cD (by rfl) (by rfl) H7.out.1 (by rw [zDfa_size, HPp.out.1.sz]) (by rw [info_dfa9, HPp.out.1.sz]) HPp.out.1.one ?_
              have HE := Lib.hid (And.intro (DBx.stored (HPp.out.2.right HO.out.2.r) HPp.out.1 H7.out.1) (And.intro HPp.out.2 (below_setRow9 hHeld.1 H7.out.2 P.cD)))
              refine hK.out _ _ (HSo.out _ HE.out.2.2) (fun hHeld => ?_)
              clear hK K
              try simp only [Act.put, List.setIfInBounds_toArray, List.set_cons_zero, List.set_cons_succ]
              refine wpAnyH_done (by kernel_rfl) ?_ _
              clear hHeld
              go_wp2_with fail
              go_meet
              exact ⟨_, P, C', rfl, HE.out⟩
            exact AllReadyH.nil
          exact AllReadyH.nil
        exact AllReadyH.nil
      exact AllReadyH.nil
    exact AllReadyH.nil
  case rest =>
    obtain ⟨b5, P, C', rfl, hbx, hpi, hbv⟩ := hcut
    have HP := Lib.hid (And.intro hbx (And.intro hpi hbv))
    have H5 : Hid (St wc 26 b2 (zC 26) ∧ Below b0 w wc ∧ b0 ≤ wc.heap.size) := ⟨H4.out.1.keep hbv, H4.out.2.1.trans (hbv.mono H4.out.2.2), by have := H4.out.2.2; have := hbv.size; omega⟩
    obtain ⟨k2, hlk2, hkn2⟩ := wk_ends (HP.out.2.1.right HO.out.2.r)
    have HOr := Lib.hid (order_any P C' _ k2 rfl hlk2 hkn2 wc HP.out.1.dm (HP.out.2.1.right HO.out.2.r))
    have Hlk2 := Lib.hid (And.intro hlk2 hkn2)
    clear hbx hpi hbv hlk2 hkn2
    go_wp2_with (refine wpList_load_any9 (by rfl) 26 _ rfl ⟨b5, 0, none⟩ rfl P.cD _ HP.out.1.st.part Try.underlying26 rfl HP.out.1.dm.info ?_)
    refine HOr.out.mono ?_
    rintro e wX ⟨X, rfl, hdX, t1, t2, t3, t4, t5, t6, bX, _⟩
    have HX := Lib.hid (PiP.mn HO.out.2.r HO.out.2.ord HO.out.2.tgt HP.out.2.1 rfl Hlk2.out.1 Hlk2.out.2 (X := X) ⟨t1, t2, t3, t4, t5, t6⟩)
    have HdX := Lib.hid hdX
    have HXn : Hid (X.n ≤ D.n) := by have h1 := HP.out.2.1.le; have h2 := HO.out.2.le; have h3 := Hlk2.out.2; show X.n ≤ D.n; omega
    have HSt2 := Lib.hid (H5.out.1.keep bX)
    have HF : Hid (OfPost D w (.returned (.tuple #[.agg X.cD, .int .i64 0])) (wX.setRow b2 X.cD)) := by
      have hb : Below w.heap.size w wX := by
        have h := H5.out.2.1.trans (bX.mono H5.out.2.2)
        rw [Hb.out.1]; exact h
      refine ⟨X, C', rfl, (DBx.stored HX.out.1.r hdX HSt2.out).dm, HX.out.1, HX.out.2.trans HO.out.2.beh, HXn.out, below_setRow9 hb (by have := Hb.out.2; omega) _⟩
    clear hdX t1 t2 t3 t4 t5 t6 bX HOr
    go_wp2_with (refine wpList_store_var9 rfl 26 _ _ rfl b2 26 (zC 26) X.cD rfl rfl HSt2.out (by rw [zDfa_size, HdX.out.sz]) (by rw [info_dfa9, HdX.out.sz]) HdX.out.one ?_)
    refine bodyPost_ret (results_cell9 rfl _ _ b2 X.cD _ rfl HSt2.out.setRow.part Try.underlying26 rfl (by rw [info_dfa9, HdX.out.sz])) rfl ?_
    exact HF.out
end Go.Proofs.Ytgmcfgkjhobiaaa

namespace Go.Proofs.Ytgmcfgkjhobiaaa
open Go.RowKit Go.Maps Go.WideElems Go.ChangeMaps Go.MapKept
set_option linter.unusedVariables false
set_option linter.unusedSimpArgs false

/-- The example's automaton: one state without a mark, that leads to itself. -/
def dAwk9 (g0 g1 g2 : Nat) : Dd := ⟨dfC (fun _ => 0) (.slice (some ⟨g1, 0, none⟩) 1 1) (.slice (some ⟨g2, 0, none⟩) 1 1), fun _ => 0, some ⟨g1, 0, none⟩, 1, 1, fun _ => some ⟨g0, 0, none⟩, fun _ => 1, fun _ => 1, fun _ _ => 0, some ⟨g2, 0, none⟩, 1, 1, fun _ => -1⟩
theorem dAwk9_dr (g0 g1 g2 : Nat) : DR (dAwk9 g0 g1 g2) 1 :=
  ⟨⟨fun j _ => by show 0 < 1; omega, 0, by omega, rfl⟩, by show 1 ≤ 1; omega, by show 1 ≤ 32768; omega, rfl, fun c hc => ⟨0, by omega, by show 0 = c; omega⟩, fun i _ => rfl, fun i _ => by show (-1 : Int) ≤ -1 ∧ (-1 : Int) < 32768; omega, fun i c _ _ => by show (-1 : Int) ≤ 0 ∧ (0 : Int) < ((1 : Nat) : Int); omega⟩
theorem dAwk9_dm {w : World} {g0 g1 g2 : Nat} (h0 : St w 3 g0 #[.int .i64 0]) (h1 : St w 24 g1 #[.slice (some ⟨g0, 0, none⟩) 1 1]) (h2 : St w 3 g2 #[.int .i64 (-1)]) : DM w (dAwk9 g0 g1 g2) := by
  refine ⟨dfC_size _ _ _, dfC_one _ _ _ _ _ _ _, fun j hj => dfC_cl _ _ _ j hj, fun j _ => by show 0 < 256; omega, dfC_n _ _ _, dfC_k _ _ _, fun _ => ⟨g1, 0, rfl, h1.lt, fun i hi => ⟨?_, fun _ => ⟨g0, 0, rfl, h0.lt, fun j hj => ?_⟩⟩⟩, fun _ => ⟨g2, 0, rfl, h2.lt, fun j hj => ?_⟩⟩
  · have : i = 0 := by have : i < 1 := hi; omega
    subst this
    exact h1.at_ 0
  · have : j = 0 := by have : j < 1 := hj; omega
    subst this
    exact h0.at_ 0
  · have : j = 0 := by have : j < 1 := hj; omega
    subst this
    exact h2.at_ 0
/-- The least one that has no marks. -/
def dTriv : Dd := ⟨#[], fun _ => 0, none, 1, 1, fun _ => none, fun _ => 1, fun _ => 1, fun _ _ => -1, none, 1, 1, fun _ => -1⟩
theorem dTriv_mn : Mn dTriv 1 := by
  refine ⟨⟨⟨fun j _ => by show 0 < 1; omega, 0, by omega, rfl⟩, by show 1 ≤ 1; omega, by show 1 ≤ 32768; omega, rfl, fun c hc => ⟨0, by omega, by show 0 = c; omega⟩, fun i _ => rfl, fun i _ => by show (-1 : Int) ≤ -1 ∧ (-1 : Int) < 32768; omega, fun i c _ _ => by show (-1 : Int) ≤ -1 ∧ (-1 : Int) < ((1 : Nat) : Int); omega⟩, by show wkN (rowsF dTriv.len dTriv.nx) [0] dTriv.n = List.range dTriv.n; rfl, fun i c _ _ h => absurd rfl h, fun i j hi hj _ => ?_, ⟨fun i j _ _ => ⟨fun _ k _ => rfl, fun _ => rfl⟩, fun i _ => by show 0 < 1; omega, fun b hb => ⟨0, by omega, by show 0 = b; omega, fun j hj => absurd hj (by omega)⟩⟩⟩
  have h1 : i < 1 := hi
  have h2 : j < 1 := hj
  omega
theorem dTriv_beh (g0 g1 g2 : Nat) : Beh (dAwk9 g0 g1 g2) 0 dTriv 0 := by
  refine Beh.coind (fun x y => x = 0 ∧ (y = 0 ∨ y = -1)) ?_ ?_ ⟨rfl, Or.inl rfl⟩
  · rintro x y ⟨rfl, rfl | rfl⟩ <;> rfl
  · rintro x y b ⟨rfl, rfl | rfl⟩ hb
    · exact ⟨rfl, Or.inr rfl⟩
    · exact ⟨rfl, Or.inr rfl⟩
theorem awk_least {g0 g1 g2 C : Nat} {X : Dd} (h : Mn X C) (hb : Beh X 0 (dAwk9 g0 g1 g2) 0) : X.n = 1 ∧ X.len 0 = 1 ∧ X.nx 0 0 = -1 := by
  obtain ⟨hC, _, hn, _, hx⟩ := h.uniq dTriv_mn (hb.trans (dTriv_beh g0 g1 g2))
  have hn : X.n = 1 := hn
  exact ⟨hn, by rw [h.r.len 0 (by omega)]; exact hC, hx 0 0 (by omega) (by omega)⟩

set_option maxHeartbeats 4000000 in
set_option maxRecDepth 100000 in
theorem awake09_any (w : World) : Calls Try.prog 7 #[] w fun e w' => e = .returned (.bool true) ∧ Below w.heap.size w w' := by
  have k0 := al w (.cells #[.int .i64 0] 3)
  have k1 := al (w.alloc (.cells #[.int .i64 0] 3)) (.cells #[.slice (some ⟨w.heap.size, 0, none⟩) 1 1] 24)
  have k2 := al ((w.alloc (.cells #[.int .i64 0] 3)).alloc (.cells #[.slice (some ⟨w.heap.size, 0, none⟩) 1 1] 24)) (.cells #[.int .i64 (-1)] 3)
  have s0 := ((St.new w 3 #[.int .i64 0]).keep k1).keep k2
  have s1 : St (((w.alloc (.cells #[.int .i64 0] 3)).alloc (.cells #[.slice (some ⟨w.heap.size, 0, none⟩) 1 1] 24)).alloc (.cells #[.int .i64 (-1)] 3)) 24 (w.heap.size + 1) #[.slice (some ⟨w.heap.size, 0, none⟩) 1 1] := by
    have := (St.new (w.alloc (.cells #[.int .i64 0] 3)) 24 #[.slice (some ⟨w.heap.size, 0, none⟩) 1 1]).keep k2
    simpa using this
  have s2 : St (((w.alloc (.cells #[.int .i64 0] 3)).alloc (.cells #[.slice (some ⟨w.heap.size, 0, none⟩) 1 1] 24)).alloc (.cells #[.int .i64 (-1)] 3)) 3 (w.heap.size + 1 + 1) #[.int .i64 (-1)] := by
    have := St.new ((w.alloc (.cells #[.int .i64 0] 3)).alloc (.cells #[.slice (some ⟨w.heap.size, 0, none⟩) 1 1] 24)) 3 #[.int .i64 (-1)]
    simpa using this
  have hB : Below w.heap.size w (((w.alloc (.cells #[.int .i64 0] 3)).alloc (.cells #[.slice (some ⟨w.heap.size, 0, none⟩) 1 1] 24)).alloc (.cells #[.int .i64 (-1)] 3)) := k0.trans ((k1.trans (k2.mono k1.size)).mono k0.size)
  have HOf := Lib.hid (of_least (dAwk9 w.heap.size (w.heap.size + 1) (w.heap.size + 1 + 1)) 1 (dAwk9_dr _ _ _) _ (dAwk9_dm s0 s1 s2))
  have HB := Lib.hid hB
  clear k0 k1 k2 s0 s1 s2 hB
  go_enter Try.func7, Try.ntmps7
  go_wp2_with (refine wpList_build9 rfl 26 _ rfl #[(1, .slice (some ⟨w.heap.size + 1, 0, none⟩) 1 1), (2, .slice (some ⟨w.heap.size + 1 + 1, 0, none⟩) 1 1)] (by first | rfl | kernel_rfl | (go_simp; done)) (.agg (dfC (fun _ => 0) (.slice (some ⟨w.heap.size + 1, 0, none⟩) 1 1) (.slice (some ⟨w.heap.size + 1 + 1, 0, none⟩) 1 1))) (dfa_built3 _ _ _ _ _ _ _) ?_)
  refine HOf.out.mono ?_
  rintro e w1 ⟨X, C', rfl, hdX, hMn, hBe, _, b1⟩
  obtain ⟨x1, x2, x3⟩ := awk_least hMn hBe
  have HF : Hid (Below w.heap.size w w1) := HB.out.trans (b1.mono HB.out.size)
  have HSt := Lib.hid (St.new w1 26 (zC 26))
  have HX : Hid (DBx ((w1.alloc (.cells (zC 26) 26)).setRow w1.heap.size X.cD) w1.heap.size X ∧ Below w.heap.size w ((w1.alloc (.cells (zC 26) 26)).setRow w1.heap.size X.cD)) :=
    ⟨DBx.stored hMn.r (hdX.below (al _ _)) (St.new _ _ _), HF.out.trans ((below_setRow9 (al _ _) (Nat.le_refl _) _).mono HF.out.size)⟩
  have Hx := Lib.hid (And.intro x1 (And.intro x2 x3))
  have HdX := Lib.hid hdX
  clear hdX hMn hBe b1 x1 x2 x3 HOf
  go_upto_region 2 with (first
    | (refine wpList_alloc9 rfl 26 rfl (zC 26) (zero_run9 _) ?_)
    | (refine wpList_store_var9 rfl 26 _ _ rfl w1.heap.size 26 (zC 26) X.cD rfl rfl HSt.out (by rw [zDfa_size, HdX.out.sz]) (by rw [info_dfa9, HdX.out.sz]) HdX.out.one ?_))
  try simp only [Act.put, List.setIfInBounds_toArray, List.set_cons_zero, List.set_cons_succ]
  generalize (w1.alloc (.cells (zC 26) 26)).setRow w1.heap.size X.cD = V at HX ⊢
  have f1 := HX.out.1.f1
  obtain ⟨gN, oN, eN, hgN, cN1, zN⟩ := HX.out.1.dm.row 0 (by have := Hx.out.1; omega)
  rw [Hx.out.2.1] at cN1 zN
  obtain ⟨gA, oA, eA, hgA, cA⟩ := zN (by omega)
  have cA1 := cA 0 (by omega)
  rw [Hx.out.2.2, Nat.add_zero] at cA1
  rw [eA, Nat.add_zero] at cN1
  rw [eN, Hx.out.1] at f1
  clear hgN zN hgA cA eN eA
  go_wp2_with fail
  go_ret
  exact ⟨rfl, HX.out.2⟩
end Go.Proofs.Ytgmcfgkjhobiaaa
