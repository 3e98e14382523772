import Derived.Test.YtlnndkilaklifaaZSROfM
namespace Go.Proofs.Ytlnndkilaklifaa
open Go.RowKit Go.Maps Go.WideElems Go.ChangeMaps Go.MapKept
set_option linter.unusedVariables false
set_option linter.unusedSimpArgs false

set_option maxHeartbeats 16000000 in
set_option maxRecDepth 100000 in
theorem rof7_any (L : List En) (N F T : Nat) (hO : Ok L N F T) (hN : N ≤ 1000000) (a : Option Addr) (n c : Nat) (am : Option Addr) (nM cM : Nat) (z : Nat → Int) (w : World) (hL : EdAt w a (L.map En.z)) (hn : L.length = n) (hmax : n ≤ 1000) (hz : ZAt w am nM z) (hnM : nM ≤ 1000000) :
    Calls Try.prog 11 #[.agg #[.int .i64 ((N : Nat) : Int), .slice a n c, .int .i64 ((F : Nat) : Int), .int .i64 ((T : Nat) : Int)], .slice am nM cM] w (RofPost L N F (mkOf nM z) w) := by
  have HL := Lib.hid (And.intro hL (And.intro hn (And.intro hO hz)))
  have hmk := make_bl N (by omega)
  have hF := hO.f
  have hR := (RfAt.start w #[.int .i64 ((N : Nat) : Int), .slice a n c, .int .i64 ((F : Nat) : Int), .int .i64 ((T : Nat) : Int)] N (by unfold maxLen; omega))
  obtain ⟨y0, y1⟩ := hR.cell F hF
  have hR2 := hR.tru F hF
  rw [World.setCell_alloc_at _ _ _ _ _ (by simp)] at hR2
  have HR := Lib.hid hR2
  have HE : Hid (∀ W : World, (w.alloc (.cells #[.int .i64 ((N : Nat) : Int), .slice a n c, .int .i64 ((F : Nat) : Int), .int .i64 ((T : Nat) : Int)] 24)).alloc (.cells ((madeCells #[.bool false] N).setIfInBounds F (.bool true)) 4) = W → RfAt w #[.int .i64 ((N : Nat) : Int), .slice a n c, .int .i64 ((F : Nat) : Int), .int .i64 ((T : Nat) : Int)] N (ins (fun _ => false) F) W) := fun W h => by rw [← h]; exact HR.out
  have i0 : (F : Int) < (N : Int) := by omega
  obtain ⟨iI, hI, hI0, hI1, hI2⟩ := info_parts Try.info_int9
  obtain ⟨iB, hB, hB0, hB1, hB2⟩ := info_parts Try.info_bools9
  obtain ⟨iV, hV, hV0, hV1, hV2⟩ := info_parts Try.info_ints
  clear hL hn hO hR hR2 HR hz
  go_enter Try.func11, Try.ntmps11
  go_wp2_with fail
  generalize hW0 : (w.alloc (.cells #[.int .i64 ((N : Nat) : Int), .slice a n c, .int .i64 ((F : Nat) : Int), .int .i64 ((T : Nat) : Int)] 24)).alloc (.cells ((madeCells #[.bool false] N).setIfInBounds F (.bool true)) 4) = W0
  have HR := Lib.hid (HE.out _ hW0)
  clear HE hW0 y0 y1
  have HBF : Hid (BAt W0 (some ⟨w.heap.size + 1, 0, none⟩) N (ins (fun _ => false) F)) := bls_at HR.out.own
  refine (rclose_any L N F T HL.out.2.2.1 hN a n c W0 (HL.out.1.below HR.out.below) HL.out.2.1 (by omega) (some ⟨w.heap.size + 1, 0, none⟩) N N (ins (fun _ => false) F) HBF.out hN).mono ?_
  rintro e w2 ⟨f, a2, c2, rfl, hown, hf, v2⟩
  have HZ : Hid (∀ x, f x = true ↔ FR L (fun y => y = F) x) := fun x => by
    rw [hf]
    exact FR.congr (fun y => by simp only [On, ins, Bool.false_or, beq_iff_eq]; exact ⟨fun h => h.2.2, fun h => ⟨by omega, by omega, h⟩⟩) x
  have HO := Lib.hid hown
  have HS := Lib.hid v2
  obtain ⟨r0, r1, r2, r3⟩ := (HR.out.s0.keep v2).cells4
  clear hown hf v2
  go_upto_region 4 with fail
  have HG : Hid (Below W0.heap.size W0 (w2.alloc (.cells #[.slice a2 N c2] 49)) ∧ GridOw (w2.alloc (.cells #[.slice a2 N c2] 49)) W0.heap.size 49 4 1 (.slice (some ⟨w2.heap.size, 0, none⟩) 1 1) 1 (fun _ => .slice a2 N c2) (fun _ => N) (fun j => bls ([f].getD j noF) N)) := by
    have k := al w2 (.cells #[.slice a2 N c2] 49)
    refine ⟨HS.out.trans (k.mono HS.out.size), own_lit w2 W0.heap.size 49 1 #[.slice a2 N c2] 1 rfl HS.out.size (by decide), fun i hi => ?_, fun i j hi hj hij => by omega⟩
    have : i = 0 := by omega
    subst this
    exact ownsRow_keep HO.out k
  obtain ⟨gG, hgG⟩ : ∃ gG, w2.heap.size = gG := ⟨_, rfl⟩
  rw [hgG] at HG
  rw [hgG]
  generalize w2.alloc (.cells #[.slice a2 N c2] 49) = W2 at HG ⊢
  clear hgG HS HO r0 r1 r2 r3
  obtain ⟨r0, r1, r2, r3⟩ := (HR.out.s0.keep HG.out.1).cells4
  go_wp2_with fail
  refine (reps_any ((N : Nat) : Int) ((F : Nat) : Int) ((T : Nat) : Int) a n c (L.map En.z) W2 (HL.out.1.below (HR.out.below.trans (HG.out.1.mono HR.out.below.size))) (by rw [List.length_map]; exact HL.out.2.1) hmax).mono ?_
  rintro e w3 ⟨aP, cP, rfl, hown, v3⟩
  obtain ⟨C, hC⟩ : ∃ C, (rl (keyLit (setF (L.map En.z)) (setsOf (L.map En.z)).length) 256).length = C := ⟨_, rfl⟩
  rw [hC] at hown ⊢
  have hC256 : C ≤ 256 := by rw [← hC, rl_len]; exact nrep_le _ _
  have HC : Hid ((rl (KOf L) 256).length = C) := hC
  have HA0 : Hid (RoAt W0 w3.heap.size N C (rl (KOf L) 256) (.slice aP C cP) (.slice (some ⟨gG, 0, none⟩) 1 1) [f] (fun _ => .slice a2 N c2) (.slice none 0 0) [] (fun _ => .slice none 0 0) (.slice none 0 0) [] (.slice none 0 0) [] w3) := by
    have hs := v3.size
    have hs2 := HG.out.1.size
    refine ⟨HG.out.1.trans (v3.mono hs2), HG.out.2.keep v3, ⟨World.ownsRow_nil _ _ _ _, fun i hi => absurd hi (by simp), fun i j hi => absurd hi (by simp)⟩, ?_, World.ownsRow_nil _ _ _ _, World.ownsRow_nil _ _ _ _, fun i hi => absurd hi (by simp), fun b _ => by simp [Value.ownBlock], fun b e => by simp [Value.ownBlock] at e, fun b e => own_lt9 hown b e, fun i hi => absurd hi (by simp), by omega, Nat.le_refl _⟩
    rw [HC.out]
    exact ownsRow_base hown hs2
  have HM0 := Lib.hid (RoM.start (N := N) (mf := mkOf nM z) HZ.out)
  clear hown v3 HG HZ r0 r1 r2 r3 hC
  go_wp2_with fail
  go_loopw [7, 9, 10, 11, 12, 13, 14, 15, 16] (fun vR vN vO vI _ _ _ _ _ wr => ∃ (i s zz : Nat) (SS : List (Nat → Bool)) (vs : Nat → Value) (R : List (List Int)) (ws : Nat → Value) (ms : List Int) (aR aN aO : Option Addr) (cR cN cO : Nat), vI = .int .i64 i ∧ i ≤ s ∧ 0 < s ∧ i ≤ 300 ∧ vR = .slice aR s cR ∧ vN = .slice aN i cN ∧ vO = .slice aO i cO ∧ Hid (RoM L N F (mkOf nM z) f i s SS R ms) ∧ Hid (RoAt W0 zz N C (rl (KOf L) 256) (.slice aP C cP) (.slice aR s cR) SS vs (.slice aN i cN) R ws (.slice aO i cO) ms (.slice none 0 0) [] wr)) (fun _ _ _ v _ _ _ _ _ _ => 300 - (intOf v).toNat)
  case atStart => exact ⟨0, 1, _, [f], _, [], _, [], _, _, _, _, _, _, rfl, by omega, by omega, by omega, rfl, rfl, rfl, HM0, HA0⟩
  case round =>
    clear HA0 HM0
    obtain ⟨i, s, zz, SS, vs, R, ws, ms, aR, aN, aO, cR, cN, cO, rfl, his, hs0, hi300, rfl, rfl, rfl, HM, HA⟩ := hrel
    by_cases hlt : i < s
    · by_cases hbig : 300 < s
      · have i1 : (i : Int) < (s : Int) := by omega
        have i2 : (300 : Int) < (s : Int) := by omega
        have HF : Hid (Below w.heap.size w wr) := HR.out.below.trans (HA.out.bel.mono HR.out.below.size)
        go_wp2_with fail
        go_ret2
        exact ⟨HF.out, Or.inl rfl⟩
      · obtain ⟨gR, ai, ci, rfl, d0, hBi⟩ := HA.out.rowCell HM.out.ls i hlt
        have HBi := Lib.hid hBi
        have i1 : (i : Int) < (s : Int) := by omega
        have i2 : ¬ ((300 : Int) < (s : Int)) := by omega
        have HMk := Lib.hid (rmark_any am nM cM z ai N ci (SS.getD i noF) hnM hN wr (HL.out.2.2.2.below (HR.out.below.trans (HA.out.bel.mono HR.out.below.size))) hBi)
        clear hBi
        go_wp2_with fail
        refine HMk.out.mono ?_
        rintro e w4 ⟨r, rfl, hr, rfl⟩
        have HLr := Lib.hid hr
        have hO : w4.ownsRow W0.heap.size 3 1 (.slice aO i cO) i (ints ms) := by have := HA.out.out; rwa [HM.out.lm] at this
        clear hr HMk d0
        go_wp2_with (at_builtin; refine wpList_append_own_at _ rfl _ _ 25 rfl W0.heap.size 3 iI (.int .i64 0) 1 8 Try.underlying25 hI hI0 hI1 hI2 rfl (by decide) _ _ _ rfl (hO.alloc _) ⟨w4.heap.size, 0, none⟩ 1 1 [.int .i64 r] rfl rfl (cell_one_new _ _ _) ?d2 ?d3 ?d4 ?d5 ?_)
        case d2 => intro u hu; simp at hu; subst hu; rfl
        case d3 => unfold maxLen; omega
        case d4 => omega
        case d5 => have := HA.out.bel.size; simp; omega
        intro v5 w5 hown5 hgrow5 _ hat5
        obtain ⟨aO2, cO2, rfl⟩ := ownsRow_slice hown5
        have HA5 := Lib.hid ((HA.out.keep (al w4 (.cells #[.int .i64 r] 3))).mark HM.out.lm hown5 hgrow5 (by simpa using hat5))
        clear hown5 hgrow5 hat5 hO
        obtain ⟨zW, hzW⟩ : ∃ zW, w5.heap.size = zW := ⟨_, rfl⟩
        rw [hzW] at HA5
        clear hzW HA
        go_wp2_with fail
        go_loopw [7, 12, 13, 14, 15, 16] (fun vR vW vK _ _ _ wq => ∃ (k s2 : Nat) (SS2 : List (Nat → Bool)) (vs2 : Nat → Value) (row : List Int) (aR2 : Option Addr) (cR2 : Nat) (aW : Option Addr) (cW : Nat), vK = .int .i64 k ∧ k ≤ C ∧ s2 ≤ 300 + k ∧ vR = .slice aR2 s2 cR2 ∧ vW = .slice aW k cW ∧ Hid (SS2.length = s2 ∧ row.length = k ∧ RowD N (TTo L N (rpO (KOf L)) (SS.getD i noF)) SS k row SS2) ∧ Hid (RoAt W0 zW N C (rl (KOf L) 256) (.slice aP C cP) (.slice aR2 s2 cR2) SS2 vs2 (.slice aN i cN) R ws (.slice aO2 (i + 1) cO2) (ms ++ [r]) (.slice aW k cW) row wq)) (fun _ _ v _ _ _ _ => C - (intOf v).toNat)
        case atStart => exact ⟨0, s, SS, vs, [], _, _, _, _, rfl, by omega, by omega, rfl, rfl, ⟨HM.out.ls, rfl, .zero⟩, HA5⟩
        case round =>
          clear HA5
          obtain ⟨k, s2, SS2, vs2, row, aR2, cR2, aW, cW, rfl, hkC, hs2, rfl, rfl, HDk, HAk⟩ := hrel
          by_cases hlk : k < C
          · have his2 : i < s2 := by have h1 := HDk.out.2.2.pre.length_le; have h2 := HM.out.ls; have h3 := HDk.out.1; omega
            obtain ⟨gR2, ai2, ci2, rfl, d0, hBi⟩ := HAk.out.rowCell HDk.out.1 i his2
            obtain ⟨gP, rfl, d1⟩ := HAk.out.repCell HC.out k hlk
            have hEq : SS2.getD i noF = SS.getD i noF := by
              have hl : i < SS.length := by rw [HM.out.ls]; exact hlt
              have hp := HDk.out.2.2.pre
              have h2 : i < SS2.length := Nat.lt_of_lt_of_le hl hp.length_le
              have h3 := hp.getElem hl
              simp [List.getD_eq_getElem?_getD, hl, h2, h3]
            rw [hEq] at hBi
            obtain ⟨bt, hbt⟩ : ∃ bt, (rl (KOf L) 256).getD k 0 = bt := ⟨_, rfl⟩
            have hb256 : bt < 256 := by
              have hl : k < (rl (KOf L) 256).length := by rw [HC.out]; exact hlk
              rw [← hbt]
              simp only [List.getD_eq_getElem?_getD, List.getElem?_eq_getElem hl, Option.getD_some]
              exact (rl_at (KOf L) 256 k hl).2
            rw [hbt] at d1
            have HBt : Hid (rpO (KOf L) k = bt) := hbt
            have HBi := Lib.hid hBi
            obtain ⟨r0, r1, r2, r3⟩ := (HR.out.s0.keep HAk.out.bel).cells4
            have i3 : (k : Int) < (C : Int) := by omega
            have i4 : (i : Int) < (s2 : Int) := by omega
            have HBw := Lib.hid (HR.out.below.trans (HAk.out.bel.mono HR.out.below.size))
            have HMv := Lib.hid (fun (W : World) (hb : Below wr.heap.size wr W) => rmove_any L N F T HL.out.2.2.1 hN a n c W (HL.out.1.below (HBw.out.trans (hb.mono HBw.out.size))) HL.out.2.1 (by omega) ai2 N ci2 (SS.getD i noF) (HBi.out.below hb) hN bt hb256)
            clear hBi hEq hbt
            go_upto_region 17 with fail
            go_cut [14] from 54 to 65 (fun v wx => ∃ (f5 : Nat → Bool) (a5 : Option Addr) (c5 : Nat), v = .slice a5 N c5 ∧ (∀ x, x < N → (f5 x = true ↔ TTo L N (rpO (KOf L)) (SS.getD i noF) k x)) ∧ RoAt W0 zW N C (rl (KOf L) 256) (.slice (some ⟨gP, 0, none⟩) C cP) (.slice (some ⟨gR2, 0, none⟩) s2 cR2) SS2 vs2 (.slice aN i cN) R ws (.slice aO2 (i + 1) cO2) (ms ++ [r]) (.slice aW k cW) row wx ∧ (∀ j, j < s2 → ∀ b, (vs2 j).ownBlock = some b → (Value.slice a5 N c5).ownBlock ≠ some b) ∧ wx.ownsRow W0.heap.size 4 1 (.slice a5 N c5) N (bls f5 N))
            case first =>
              go_region_with (first
                | (go_at_call 37; refine (HMv.out _ (by first | exact Below.refl _ _ | exact (Below.refl _ _).drew)).mono ?_; rintro e w4 ⟨f4, a4, c4, rfl, hown4, hf4, v4⟩; have v4r : Below wr.heap.size wr w4 := (by first | exact v4 | exact ((Below.refl _ _).drew).trans v4); have HP4 := Lib.hid (And.intro hown4 (And.intro hf4 v4r)); obtain ⟨q0, q1, q2, q3⟩ := (HR.out.s0.keep (HAk.out.bel.trans (v4r.mono HAk.out.bel.size))).cells4; clear hown4 hf4 v4 v4r)
                | (go_at_call 36; refine (rclose_any L N F T HL.out.2.2.1 hN a n c _ (HL.out.1.below (HBw.out.trans (HP4.out.2.2.mono HBw.out.size))) HL.out.2.1 (by omega) a4 N c4 f4 (bls_at HP4.out.1) hN).mono ?_; rintro e w5 ⟨f5, a5, c5, rfl, hown5, hf5, v5⟩; have HP5 := Lib.hid (And.intro hown5 (And.intro hf5 v5)); clear hown5 hf5 v5))
              all_goals
                have HS5 : Hid (∀ x, x < N → (f5 x = true ↔ TTo L N (rpO (KOf L)) (SS.getD i noF) k x)) := fun x hx => by
                  rw [HP5.out.2.1]
                  show FR L _ x ↔ FR L _ x
                  rw [HBt.out]
                  refine FR.congr (fun y => ?_) x
                  unfold On
                  rw [HP4.out.2.1]
                  exact ⟨fun h => h.2.2, fun h => ⟨Mv.lt (fun e he => (HL.out.2.2.1.e e he).2) h, Mv.lt (fun e he => (HL.out.2.2.1.e e he).2) h, h⟩⟩
                have HA5 := Lib.hid ((HAk.out.keep HP4.out.2.2).keep HP5.out.2.2)
                have HU5 : Hid (∀ j, j < s2 → ∀ b, (vs2 j).ownBlock = some b → (Value.slice a5 N c5).ownBlock ≠ some b) := fun j hj b e1 e2 => by
                  have h1 := HAk.out.rows.lt.2 j (by rw [HDk.out.1]; exact hj) b e1
                  have h2 := own_above HP5.out.1 b e2
                  have h3 := HP4.out.2.2.size
                  omega
                have HO5 := Lib.hid (ownsRow_base (base := W0.heap.size) HP5.out.1 (by have := HAk.out.bel.size; have := HP4.out.2.2.size; omega))
                clear HAk HP4 HP5 HMv
                go_wp2_with fail
                go_meet
                exact ⟨f5, a5, c5, rfl, HS5.out, HA5.out, HU5.out, HO5.out⟩
            case rest =>
              obtain ⟨f5, a5, c5, rfl, hS5, hA5, hU5, hO5⟩ := hcut
              have HS5 := Lib.hid hS5
              have HA5 := Lib.hid hA5
              have HU5 := Lib.hid hU5
              have HO5 := Lib.hid hO5
              clear hS5 hA5 hU5 hO5 HAk HMv d0 d1 r0 r1 r2 r3
              go_wp2_with fail
              go_loopw [15, 16] (fun vA vJ wq => ∃ (j : Nat) (r5 : Int), vJ = .int .i64 j ∧ j ≤ s2 ∧ vA = .int .i64 r5 ∧ (r5 = -1 ∨ 0 ≤ r5) ∧ Hid (Fnd N SS2 f5 r5 j) ∧ Hid (RoAt W0 zW N C (rl (KOf L) 256) (.slice (some ⟨gP, 0, none⟩) C cP) (.slice (some ⟨gR2, 0, none⟩) s2 cR2) SS2 vs2 (.slice aN i cN) R ws (.slice aO2 (i + 1) cO2) (ms ++ [r]) (.slice aW k cW) row wq ∧ wq.ownsRow W0.heap.size 4 1 (.slice a5 N c5) N (bls f5 N))) (fun _ v _ => s2 - (intOf v).toNat)
              case atStart => exact ⟨0, -1, rfl, by omega, rfl, Or.inl rfl, Or.inl ⟨rfl, fun _ _ h => absurd h (by omega)⟩, ⟨HA5.out, HO5.out⟩⟩
              case round =>
                clear HA5 HO5
                obtain ⟨j, r5, rfl, hj, rfl, hr5, HFd, HAj⟩ := hrel
                have HLn := Lib.hid HDk.out.1
                by_cases hlj : j < s2
                · have i5 : (j : Int) < (s2 : Int) := by omega
                  have HAny := Lib.hid (fun (W : World) (h : BAt W a5 N f5) => rany_any a5 N c5 f5 hN W h)
                  go_wp2_with fail
                  refine (HAny.out wr (bls_at HAj.out.2)).mono ?_
                  rintro e w7 ⟨b7, rfl, hb7, k7⟩
                  have HB7 := Lib.hid hb7
                  have HA7 : Hid (_ ∧ _) := Lib.hid (And.intro (HAj.out.1.keep k7) (ownsRow_keep HAj.out.2 k7))
                  clear hb7 k7 HAj
                  rcases b7 with _ | _
                  · have HNo : Hid (¬ ∃ x, x < N ∧ f5 x = true) := fun h => by have := HB7.out.2 h; cases this
                    obtain rfl := HFd.out.neg HNo.out
                    go_wp2_with fail
                    refine (HAny.out w7 (bls_at HA7.out.2)).mono ?_
                    rintro e w9 ⟨b9, rfl, hb9, k9⟩
                    have hb9f : b9 = false := by
                      rcases b9 with _ | _
                      · rfl
                      · exact absurd (hb9.1 rfl) HNo.out
                    subst hb9f
                    have HRz := Lib.hid (HA7.out.1.keep k9)
                    have hOw : w9.ownsRow zW 3 1 (.slice aW k cW) k (ints row) := by have := HRz.out.row; rwa [HDk.out.2.1] at this
                    have HAd := Lib.hid (Fnd.none (SS := SS2) HNo.out HS5.out)
                    clear hb9 k9 HA7 HFd
                    go_wp2_with (at_builtin; refine wpList_append_own_at _ rfl _ _ 25 rfl zW 3 iI (.int .i64 0) 1 8 Try.underlying25 hI hI0 hI1 hI2 rfl (by decide) _ _ _ rfl (hOw.alloc _) ⟨w9.heap.size, 0, none⟩ 1 1 [.int .i64 (-1)] rfl rfl (cell_one_new _ _ _) ?d2 ?d3 ?d4 ?d5 ?_)
                    case d2 => first | (intro u hu; simp at hu; subst hu; rfl) | rfl
                    case d3 => unfold maxLen; omega
                    case d4 => omega
                    case d5 => have := HRz.out.hz.2; simp; omega
                    intro v8 w8 hown8 hgrow8 _ hat8
                    obtain ⟨a8, e8, rfl⟩ := ownsRow_slice hown8
                    have HR8 := Lib.hid ((HRz.out.keep (al w9 (.cells #[.int .i64 (-1)] 3))).place HDk.out.2.1 hown8 hgrow8)
                    have HD8 : Hid (SS2.length = s2 ∧ (row ++ [(-1)]).length = k + 1 ∧ RowD N (TTo L N (rpO (KOf L)) (SS.getD i noF)) SS (k + 1) (row ++ [(-1)]) SS2) := ⟨HLn.out, by rw [List.length_append, HDk.out.2.1]; rfl, .succ HDk.out.2.2 HAd.out⟩
                    clear hown8 hgrow8 hat8 hOw HAd HRz
                    go_wp2_with fail
                    go_roundw
                    case rel => exact ⟨k + 1, s2, SS2, vs2, row ++ [(-1)], _, _, a8, e8, by go_num, by omega, by omega, rfl, rfl, HD8, HR8⟩
                    case measure => simp [intOf]; omega
                  · rcases hr5 with rfl | hr5
                    · obtain ⟨gJ, aj, cj, hgJ, d5, hBj⟩ := HA7.out.1.rowCell HDk.out.1 j hlj
                      simp only [Option.some.injEq, Addr.mk.injEq, and_true] at hgJ
                      subst hgJ
                      have hjl : j < SS2.length := by rw [HDk.out.1]; exact hlj
                      have hEq : SS2.getD j noF = SS2[j] := by simp [List.getD_eq_getElem?_getD, hjl]
                      rw [hEq] at hBj
                      have HSm := Lib.hid (rsame06_any N cj c5 aj a5 SS2[j] f5 hN w7 hBj (bls_at HA7.out.2))
                      have HYes : Hid ((∀ x, x < N → SS2[j] x = f5 x) → Fnd N SS2 f5 ((j : Nat) : Int) (j + 1)) := fun h => Or.inr ⟨HB7.out.1 rfl, j, hjl, rfl, h⟩
                      have HNot : Hid ((¬ ∀ x, x < N → SS2[j] x = f5 x) → Fnd N SS2 f5 (-1) (j + 1)) := fun h => HFd.out.next hjl h
                      clear hBj hEq
                      go_wp2_with fail
                      refine HSm.out.mono ?_
                      rintro e w9 ⟨b9, rfl, hb9, k9⟩
                      have HA9 : Hid (_ ∧ _) := Lib.hid (And.intro (HA7.out.1.keep k9) (ownsRow_keep HA7.out.2 k9))
                      have HB9 := Lib.hid hb9
                      clear hb9 k9 HSm d5 HA7
                      rcases b9 with _ | _
                      · have HZ := Lib.hid (HNot.out (fun h => by have := HB9.out.2 h; cases this))
                        go_wp2_with fail
                        go_roundw
                        case rel => exact ⟨j + 1, -1, by go_num, by omega, rfl, Or.inl rfl, HZ, HA9⟩
                        case measure => simp [intOf]; omega
                      · have HZ := Lib.hid (HYes.out (HB9.out.1 rfl))
                        go_wp2_with fail
                        go_roundw
                        case rel => exact ⟨j + 1, ((j : Nat) : Int), by go_num, by omega, rfl, Or.inr (by omega), HZ, HA9⟩
                        case measure => simp [intOf]; omega
                    · have i6 : ¬ (r5 < 0) := by omega
                      have HRz := Lib.hid HA7.out.1
                      have hOw : w7.ownsRow zW 3 1 (.slice aW k cW) k (ints row) := by have := HRz.out.row; rwa [HDk.out.2.1] at this
                      have HAd := Lib.hid (HFd.out.has hr5 HS5.out)
                      clear HA7 HFd
                      go_wp2_with (at_builtin; refine wpList_append_own_at _ rfl _ _ 25 rfl zW 3 iI (.int .i64 0) 1 8 Try.underlying25 hI hI0 hI1 hI2 rfl (by decide) _ _ _ rfl (hOw.alloc _) ⟨w7.heap.size, 0, none⟩ 1 1 [.int .i64 r5] rfl rfl (cell_one_new _ _ _) ?d2 ?d3 ?d4 ?d5 ?_)
                      case d2 => first | (intro u hu; simp at hu; subst hu; rfl) | rfl
                      case d3 => unfold maxLen; omega
                      case d4 => omega
                      case d5 => have := HRz.out.hz.2; simp; omega
                      intro v8 w8 hown8 hgrow8 _ hat8
                      obtain ⟨a8, e8, rfl⟩ := ownsRow_slice hown8
                      have HR8 := Lib.hid ((HRz.out.keep (al w7 (.cells #[.int .i64 r5] 3))).place HDk.out.2.1 hown8 hgrow8)
                      have HD8 : Hid (SS2.length = s2 ∧ (row ++ [r5]).length = k + 1 ∧ RowD N (TTo L N (rpO (KOf L)) (SS.getD i noF)) SS (k + 1) (row ++ [r5]) SS2) := ⟨HLn.out, by rw [List.length_append, HDk.out.2.1]; rfl, .succ HDk.out.2.2 HAd.out⟩
                      clear hown8 hgrow8 hat8 hOw HAd HRz
                      go_wp2_with fail
                      go_roundw
                      case rel => exact ⟨k + 1, s2, SS2, vs2, row ++ [r5], _, _, a8, e8, by go_num, by omega, by omega, rfl, rfl, HD8, HR8⟩
                      case measure => simp [intOf]; omega
                · obtain rfl : j = s2 := by omega
                  rcases hr5 with rfl | hr5
                  · have HAny := Lib.hid (fun (W : World) (h : BAt W a5 N f5) => rany_any a5 N c5 f5 hN W h)
                    go_wp2_with fail
                    refine (HAny.out wr (bls_at HAj.out.2)).mono ?_
                    rintro e w9 ⟨b9, rfl, hb9, k9⟩
                    have HB9 := Lib.hid hb9
                    have HA9 : Hid (_ ∧ _) := Lib.hid (And.intro (HAj.out.1.keep k9) (ownsRow_keep HAj.out.2 k9))
                    clear hb9 k9 HAj
                    rcases b9 with _ | _
                    · have HNo : Hid (¬ ∃ x, x < N ∧ f5 x = true) := fun h => by have := HB9.out.2 h; cases this
                      have HRz := Lib.hid HA9.out.1
                      have hOw : w9.ownsRow zW 3 1 (.slice aW k cW) k (ints row) := by have := HRz.out.row; rwa [HDk.out.2.1] at this
                      have HAd := Lib.hid (Fnd.none (SS := SS2) HNo.out HS5.out)
                      clear HA9 HFd
                      go_wp2_with (at_builtin; refine wpList_append_own_at _ rfl _ _ 25 rfl zW 3 iI (.int .i64 0) 1 8 Try.underlying25 hI hI0 hI1 hI2 rfl (by decide) _ _ _ rfl (hOw.alloc _) ⟨w9.heap.size, 0, none⟩ 1 1 [.int .i64 (-1)] rfl rfl (cell_one_new _ _ _) ?d2 ?d3 ?d4 ?d5 ?_)
                      case d2 => first | (intro u hu; simp at hu; subst hu; rfl) | rfl
                      case d3 => unfold maxLen; omega
                      case d4 => omega
                      case d5 => have := HRz.out.hz.2; simp; omega
                      intro v8 w8 hown8 hgrow8 _ hat8
                      obtain ⟨a8, e8, rfl⟩ := ownsRow_slice hown8
                      have HR8 := Lib.hid ((HRz.out.keep (al w9 (.cells #[.int .i64 (-1)] 3))).place HDk.out.2.1 hown8 hgrow8)
                      have HD8 : Hid (SS2.length = j ∧ (row ++ [(-1)]).length = k + 1 ∧ RowD N (TTo L N (rpO (KOf L)) (SS.getD i noF)) SS (k + 1) (row ++ [(-1)]) SS2) := ⟨HLn.out, by rw [List.length_append, HDk.out.2.1]; rfl, .succ HDk.out.2.2 HAd.out⟩
                      clear hown8 hgrow8 hat8 hOw HAd HRz
                      go_wp2_with fail
                      go_roundw
                      case rel => exact ⟨k + 1, j, SS2, vs2, row ++ [(-1)], _, _, a8, e8, by go_num, by omega, by omega, rfl, rfl, HD8, HR8⟩
                      case measure => simp [intOf]; omega
                    · have HYs := Lib.hid (HB9.out.1 rfl)
                      clear HB9
                      have hOr : w9.ownsRow W0.heap.size 49 1 (.slice (some ⟨gR2, 0, none⟩) j cR2) j ((List.range j).map vs2) := by have := HA9.out.1.rows.own; rwa [HDk.out.1] at this
                      go_wp2_with (at_builtin; refine wpList_append_own_at _ rfl _ _ 66 rfl W0.heap.size 49 iB (.slice none 0 0) 1 24 Try.underlying66 hB hB0 hB1 hB2 rfl (by decide) _ _ _ rfl (hOr.alloc _) ⟨w9.heap.size, 0, none⟩ 1 1 [.slice a5 N c5] rfl rfl (cell_one_new _ _ _) ?d2 ?d3 ?d4 ?d5 ?_)
                      case d2 => intro u hu; simp at hu; subst hu; rfl
                      case d3 => unfold maxLen; omega
                      case d4 => omega
                      case d5 => have := HA9.out.1.bel.size; simp; omega
                      intro v7 w7 hown7 hgrow7 _ hat7
                      obtain ⟨a7, e7, rfl⟩ := ownsRow_slice hown7
                      have HRz := Lib.hid ((HA9.out.1.keep (al w9 (.cells #[.slice a5 N c5] 49))).set HDk.out.1 (ownsRow_keep HA9.out.2 (al w9 (.cells #[.slice a5 N c5] 49))) (fun q hq b e1 => HU5.out q (by rw [← HDk.out.1]; exact hq) b e1) hown7 hgrow7)
                      have hOw : w7.ownsRow zW 3 1 (.slice aW k cW) k (ints row) := by have := HRz.out.row; rwa [HDk.out.2.1] at this
                      have HAd := Lib.hid (HFd.out.add HDk.out.1 HYs.out HS5.out)
                      have HLn : Hid ((SS2 ++ [f5]).length = j + 1) := by show _ = _; rw [List.length_append, HDk.out.1]; rfl
                      clear hown7 hgrow7 hat7 hOr HA9 HFd
                      go_wp2_with (at_builtin; refine wpList_append_own_at _ rfl _ _ 25 rfl zW 3 iI (.int .i64 0) 1 8 Try.underlying25 hI hI0 hI1 hI2 rfl (by decide) _ _ _ rfl (hOw.alloc _) ⟨w7.heap.size, 0, none⟩ 1 1 [.int .i64 ((j : Nat) : Int)] rfl rfl (cell_one_new _ _ _) ?d2 ?d3 ?d4 ?d5 ?_)
                      case d2 => first | (intro u hu; simp at hu; subst hu; rfl) | rfl
                      case d3 => unfold maxLen; omega
                      case d4 => omega
                      case d5 => have := HRz.out.hz.2; simp; omega
                      intro v8 w8 hown8 hgrow8 _ hat8
                      obtain ⟨a8, e8, rfl⟩ := ownsRow_slice hown8
                      have HR8 := Lib.hid ((HRz.out.keep (al w7 (.cells #[.int .i64 ((j : Nat) : Int)] 3))).place HDk.out.2.1 hown8 hgrow8)
                      have HD8 : Hid ((SS2 ++ [f5]).length = j + 1 ∧ (row ++ [((j : Nat) : Int)]).length = k + 1 ∧ RowD N (TTo L N (rpO (KOf L)) (SS.getD i noF)) SS (k + 1) (row ++ [((j : Nat) : Int)]) (SS2 ++ [f5])) := ⟨HLn.out, by rw [List.length_append, HDk.out.2.1]; rfl, .succ HDk.out.2.2 HAd.out⟩
                      clear hown8 hgrow8 hat8 hOw HAd HRz
                      go_wp2_with fail
                      go_roundw
                      case rel => exact ⟨k + 1, j + 1, (SS2 ++ [f5]), (fun q => if q = j then .slice a5 N c5 else vs2 q), row ++ [((j : Nat) : Int)], a7, e7, a8, e8, by go_num, by omega, by omega, rfl, rfl, HD8, HR8⟩
                      case measure => simp [intOf]; omega
                  · have i6 : ¬ (r5 < 0) := by omega
                    have HRz := Lib.hid HAj.out.1
                    have hOw : wr.ownsRow zW 3 1 (.slice aW k cW) k (ints row) := by have := HRz.out.row; rwa [HDk.out.2.1] at this
                    have HAd := Lib.hid (HFd.out.has hr5 HS5.out)
                    clear HAj HFd
                    go_wp2_with (at_builtin; refine wpList_append_own_at _ rfl _ _ 25 rfl zW 3 iI (.int .i64 0) 1 8 Try.underlying25 hI hI0 hI1 hI2 rfl (by decide) _ _ _ rfl (hOw.alloc _) ⟨wr.heap.size, 0, none⟩ 1 1 [.int .i64 r5] rfl rfl (cell_one_new _ _ _) ?d2 ?d3 ?d4 ?d5 ?_)
                    case d2 => first | (intro u hu; simp at hu; subst hu; rfl) | rfl
                    case d3 => unfold maxLen; omega
                    case d4 => omega
                    case d5 => have := HRz.out.hz.2; simp; omega
                    intro v8 w8 hown8 hgrow8 _ hat8
                    obtain ⟨a8, e8, rfl⟩ := ownsRow_slice hown8
                    have HR8 := Lib.hid ((HRz.out.keep (al wr (.cells #[.int .i64 r5] 3))).place HDk.out.2.1 hown8 hgrow8)
                    have HD8 : Hid (SS2.length = j ∧ (row ++ [r5]).length = k + 1 ∧ RowD N (TTo L N (rpO (KOf L)) (SS.getD i noF)) SS (k + 1) (row ++ [r5]) SS2) := ⟨HLn.out, by rw [List.length_append, HDk.out.2.1]; rfl, .succ HDk.out.2.2 HAd.out⟩
                    clear hown8 hgrow8 hat8 hOw HAd HRz
                    go_wp2_with fail
                    go_roundw
                    case rel => exact ⟨k + 1, j, SS2, vs2, row ++ [r5], _, _, a8, e8, by go_num, by omega, by omega, rfl, rfl, HD8, HR8⟩
                    case measure => simp [intOf]; omega
          · obtain rfl : k = C := by omega
            have hOn : wr.ownsRow W0.heap.size 25 1 (.slice aN i cN) i ((List.range i).map ws) := by have := HAk.out.next.own; rwa [HM.out.lR] at this
            go_wp2_with (at_builtin; refine wpList_append_own_at _ rfl _ _ 28 rfl W0.heap.size 25 iV (.slice none 0 0) 1 24 Try.underlying28 hV hV0 hV1 hV2 rfl (by decide) _ _ _ rfl (hOn.alloc _) ⟨wr.heap.size, 0, none⟩ 1 1 [.slice aW k cW] rfl rfl (cell_one_new _ _ _) ?d2 ?d3 ?d4 ?d5 ?_)
            case d2 => intro u hu; simp at hu; subst hu; rfl
            case d3 => unfold maxLen; omega
            case d4 => omega
            case d5 => have := HAk.out.bel.size; simp; omega
            intro v7 w7 hown7 hgrow7 _ hat7
            obtain ⟨a7, e7, rfl⟩ := ownsRow_slice hown7
            have HA7 := Lib.hid ((HAk.out.keep (al wr (.cells #[.slice aW k cW] 25))).done HDk.out.2.1 HM.out.lR hown7 hgrow7)
            have HM7 : Hid (RoM L N F (mkOf nM z) f (i + 1) s2 SS2 (R ++ [row]) (ms ++ [r])) := HM.out.step hlt HLr.out (by rw [HC.out]; exact HDk.out.2.2) HDk.out.1
            have his2 : i < s2 := by have h1 := HDk.out.2.2.pre.length_le; have h2 := HM.out.ls; have h3 := HDk.out.1; omega
            clear hown7 hgrow7 hat7 hOn
            go_wp2_with fail
            go_roundw
            case rel => exact ⟨i + 1, s2, _, SS2, vs2, R ++ [row], _, ms ++ [r], _, _, _, _, _, _, by go_num, by omega, by omega, by omega, rfl, rfl, rfl, HM7, HA7⟩
            case measure => simp [intOf]; omega
    · obtain rfl : i = s := by omega
      have HF : Hid (RofPost L N F (mkOf nM z) w (.returned (.tuple #[.slice aN i cN, .slice aO i cO])) wr) := by
        refine ⟨HR.out.below.trans (HA.out.bel.mono HR.out.below.size), Or.inr ⟨aN, aO, cN, cO, i, i, W0.heap.size, R, SS, ws, ms, f, rfl, hs0, hi300, HM.out, ?_, ?_⟩⟩
        · have := HA.out.next
          rw [HM.out.lR, ← HC.out] at this
          exact this
        · have := HA.out.out
          rwa [HM.out.lm] at this
      go_wp2_with fail
      go_ret2
      exact HF.out
end Go.Proofs.Ytlnndkilaklifaa
