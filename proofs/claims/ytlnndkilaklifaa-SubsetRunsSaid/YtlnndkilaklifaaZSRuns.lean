import Derived.Test.YtlnndkilaklifaaZConv
import Derived.Test.YtlnndkilaklifaaZNRRun
import Derived.Test.YtlnndkilaklifaaZSAwk
import Derived.BigQuiet
import Derived.Deep.QuietTactic
namespace Go.Proofs.Ytlnndkilaklifaa
open Go.RowKit Go.Maps Go.WideElems Go.ChangeMaps Go.MapKept
set_option linter.unusedVariables false
set_option linter.unusedSimpArgs false

set_option maxHeartbeats 4000000 in
set_option maxRecDepth 100000 in
theorem subsetRuns_any (S F T : Int) (a : Option Addr) (n c : Nat) (L : List Eg) (am : Option Addr) (nM cM : Nat) (z : Nat → Int) (s : ByteArray) (q : Nat) (hs : s.size = q) (hq : q ≤ 9223372036854775807) (w : World) (hL : EdAt w a L) (hn : L.length = n) (hz : ZAt w am nM z) (hn1 : n ≤ 9223372036854775807) (hnM : nM ≤ 9223372036854775807) :
    Calls Try.prog 4 #[.agg #[.int .i64 S, .slice a n c, .int .i64 F, .int .i64 T], .slice am nM cM, .string s] w fun e w' => e = .returned (.bool true) ∧ Below w.heap.size w w' := by
  have hB0 := al w (.cells #[.int .i64 S, .slice a n c, .int .i64 F, .int .i64 T] 24)
  have H0 := Lib.hid (And.intro (nfa_new w S F T a n c) (And.intro hB0 (And.intro (hL.below hB0) (And.intro (hz.below hB0) (And.intro hn hs)))))
  have hss := hs
  clear hL hn hz hs hB0
  go_enter Try.func4, Try.ntmps4
  go_wp2_with fail
  generalize w.alloc (.cells #[.int .i64 S, .slice a n c, .int .i64 F, .int .i64 T] 24) = W at H0 ⊢
  refine (awake07_any _).mono ?_
  rintro e w1 ⟨rfl, b1⟩
  have H1 := Lib.hid (And.intro (H0.out.1.keep b1) (And.intro (H0.out.2.1.trans (b1.mono H0.out.2.1.size)) (And.intro (H0.out.2.2.1.below b1) (H0.out.2.2.2.1.below b1))))
  obtain ⟨c0, c1, c2, c3⟩ := H1.out.1.cells4
  clear b1
  by_cases hS : 12 < S
  · go_wp2_with fail
    go_ret
    exact ⟨rfl, H1.out.2.1⟩
  by_cases hn2 : 30 < n
  · go_wp2_with fail
    go_ret
    exact ⟨rfl, H1.out.2.1⟩
  by_cases hm2 : 40 < nM
  · go_wp2_with fail
    go_ret
    exact ⟨rfl, H1.out.2.1⟩
  by_cases hq2 : 30 < q
  · go_wp2_with fail
    go_ret
    exact ⟨rfl, H1.out.2.1⟩
  have HRr := Lib.hid (rright_any S F T a n c L w1 H1.out.2.2.1 H0.out.2.2.2.2.1 (by unfold maxLen; omega))
  rcases hr : riB S L F T with _ | _
  · rw [hr] at HRr
    clear hr
    go_wp2_with fail
    refine HRr.out.mono ?_
    rintro e w2 ⟨rfl, b2⟩
    have HF := Lib.hid (H1.out.2.1.trans (b2.mono H1.out.2.1.size))
    clear b2
    go_wp2_with fail
    go_ret
    exact ⟨rfl, HF.out⟩
  · rw [hr] at HRr
    obtain ⟨N, F', T', L0, rfl, rfl, rfl, rfl, hO⟩ := right_nat hr
    have hO2 := Lib.hid (And.intro hO hr)
    have hN12 : N ≤ 12 := by omega
    clear hr hO
    go_wp2_with fail
    refine HRr.out.mono ?_
    rintro e w2 ⟨rfl, b2⟩
    have H2 := Lib.hid (And.intro (H1.out.1.keep b2) (And.intro (H1.out.2.1.trans (b2.mono H1.out.2.1.size)) (And.intro (H1.out.2.2.1.below b2) (H1.out.2.2.2.below b2))))
    have hlen0 : L0.length = n := by have := H0.out.2.2.2.2.1; rwa [List.length_map] at this
    have HLen := Lib.hid hlen0
    have HOf := Lib.hid (of_any ((N : Nat) : Int) ((T' : Nat) : Int) F' L0 a n c am nM cM z w2 H2.out.2.2.2 hnM H2.out.2.2.1 hlen0 (by omega) (by have := hO2.out.1.f; omega) (fun e he => by have := hO2.out.1.e e he; omega) hO2.out.2)
    clear c0 c1 c2 c3 b2 hlen0 HRr
    obtain ⟨c0, c1, c2, c3⟩ := H2.out.1.cells4
    go_wp2_with fail
    refine HOf.out.mono ?_
    rintro e w3 ⟨cD, er, nm, L', f0, s0, k, R, SS, rfl, h1, h2, h3, h4, h5⟩
    have H3 := Lib.hid (And.intro (H2.out.1.keep h1) (And.intro (H2.out.2.1.trans (h1.mono H2.out.2.1.size)) (And.intro (H2.out.2.2.1.below h1) (H2.out.2.2.2.below h1))))
    have k1 := al w3 (.cells (zC 30) 30)
    have hst : St (w3.alloc (.cells (zC 30) 30)) 30 w3.heap.size (zC 30) := St.new _ _ _
    have HSt := Lib.hid hst
    have HMd := Lib.hid h2
    have HX := Lib.hid (And.intro h3 h4)
    have hbx : H2.out.1.lt = H2.out.1.lt := rfl
    have hB4 : Below w3.heap.size w3 ((w3.alloc (.cells (zC 30) 30)).setRow w3.heap.size cD) := below_setRow9 k1 (Nat.le_refl _) _
    have H4 := Lib.hid (And.intro (H3.out.1.keep hB4) (And.intro (H3.out.2.1.trans (hB4.mono H3.out.2.1.size)) (And.intro (H3.out.2.2.1.below hB4) (H3.out.2.2.2.below hB4))))
    have HD4 : Hid (St ((w3.alloc (.cells (zC 30) 30)).setRow w3.heap.size cD) 30 w3.heap.size cD) := hst.setRow
    have H5 : Hid ((er = 6 ∧ cD = zC 30) ∨ (er = 0 ∧ SS.length = k ∧ k ≤ 2000 ∧ ∃ ms, DfaAt ((w3.alloc (.cells (zC 30) 30)).setRow w3.heap.size cD) cD (KOf L0) R ms (rl (KOf L0) 256).length ∧ ms.length = k ∧ ∀ j (h : j < SS.length) (h2 : j < ms.length), Least (fun i => mkOf nM z (nm.getD i 0)) (fun x => x < nm.length ∧ SS[j] x = true) ms[j])) := by
      rcases h5 with ⟨e1, _, e2⟩ | ⟨e1, e2, e3, ms, g1, g2, g3⟩
      · exact Or.inl ⟨e1, e2⟩
      · exact Or.inr ⟨e1, e2, e3, ms, (g1.keep k1).setRow hst, g2, g3⟩
    clear h1 h2 h3 h4 h5 k1 hst hbx hB4 HOf c0 c1 c2 c3
    go_upto_region 6 with (first | (refine wpList_alloc9 rfl 30 rfl (zC 30) (zero_run9 _) ?_) | (refine wpList_store_var9 rfl 30 _ _ rfl w3.heap.size 30 (zC 30) cD rfl rfl HSt.out (by rw [zDfa_size, HX.out.1]) (by rw [info_dfa9, HX.out.1]) HX.out.2 ?_))
    generalize (w3.alloc (.cells (zC 30) 30)).setRow w3.heap.size cD = W2 at H4 HD4 H5 ⊢
    obtain ⟨b7, hb7⟩ : ∃ b7, w3.heap.size = b7 := ⟨_, rfl⟩
    rw [hb7] at HD4
    rw [hb7]
    clear hb7
    rcases H5.out with ⟨rfl, rfl⟩ | ⟨rfl, hk, hk2, ms, hD, hml, hms⟩
    · have d1 : W2.cell? ⟨b7, 256, none⟩ = some (.slice none 0 0) := by rw [HD4.out.at_]; exact zDfa_tail.1
      go_wp2_with fail
      go_ret
      exact ⟨rfl, H4.out.2.1⟩
    · clear H5
      have hRk := HMd.out.run.len
      obtain ⟨aN, cN, A, hN, hzN⟩ := hD.rows
      obtain ⟨aK, cK, hK, hzK⟩ := hD.marks
      rw [hml] at hK hzK
      have hk0 : 0 < k := by
        have := HMd.out.run.pre.length_le
        simp at this
        omega
      rw [hRk] at hN hzN
      obtain ⟨gN, oN, rfl, hgN, hcN⟩ := hzN hk0
      obtain ⟨gK, oK, rfl, hgK, hcK⟩ := hzK hk0
      have HDD := Lib.hid (And.intro hN (And.intro hcN (And.intro hK (And.intro hcK (And.intro hgN (And.intro hgK (And.intro hD.cl (And.intro hk (And.intro hml hms)))))))))
      clear hN hcN hK hcK hgN hgK hD hk hms hml hzN hzK hRk
      have HE : Hid (∀ (W3 : World) (r0 : Int), Below W2.heap.size W2 W3 → Least (mkOf nM z) (RunP L0 F' (zof s) q) r0 → Below w.heap.size w W3 ∧ St W3 24 w.heap.size #[.int .i64 ((N : Nat) : Int), .slice a n c, .int .i64 ((F' : Nat) : Int), .int .i64 ((T' : Nat) : Int)] ∧ EdAt W3 a (L0.map En.z) ∧ ZAt W3 am nM z) := fun W3 r0 hb _ =>
        ⟨H4.out.2.1.trans (hb.mono H4.out.2.1.size), H4.out.1.keep hb, H4.out.2.2.1.below hb, H4.out.2.2.2.below hb⟩
      have hbs := H4.out.1.lt
      go_wp2_with fail
      go_loopw [9, 10] (fun v9 v10 wq => ∃ (t : Nat) (at_ : Int), v9 = .int .i64 at_ ∧ v10 = .int .i64 t ∧ t ≤ q ∧ Hid (Says nm.length SS (RunP L' f0 (zof s) t) at_) ∧ Hid (Below W2.heap.size W2 wq)) (fun _ v _ => q - (intOf v).toNat)
      case atStart => exact ⟨0, 0, rfl, rfl, Nat.zero_le _, HMd.out.start _, Below.refl _ _⟩
      case round =>
        obtain ⟨t, at_, rfl, rfl, ht, HSy, HB⟩ := hrel
        have HDst : Hid (St wr 30 b7 cD) := HD4.out.keep HB.out
        have q1 : wr.cell? ⟨b7, 256, none⟩ = some (.slice (some ⟨gN, oN, none⟩) k cN) := by rw [HDst.out.at_, HDD.out.1]
        have q2 : wr.cell? ⟨b7, 257, none⟩ = some (.slice (some ⟨gK, oK, none⟩) k cK) := by rw [HDst.out.at_, HDD.out.2.2.1]
        rcases HSy.out with ⟨rfl, hdead⟩ | ⟨j, hj, rfl, hjs⟩
        · have HR0 : Hid (Least (mkOf nM z) (RunP L0 F' (zof s) q) (-1)) := by
            have hd := RunP.dead_le hdead q ht
            exact Or.inl ⟨rfl, fun x hx => by
              obtain ⟨i, hi, _⟩ := ((HMd.out.names (zof s) q).2 x).1 hx
              exact absurd hi (hd i)⟩
          obtain ⟨g1, g2, g3, g4⟩ := HE.out wr (-1) HB.out HR0.out
          have HG := Lib.hid (And.intro g1 (And.intro g3 g4))
          obtain ⟨y0, y1, y2, y3⟩ := g2.cells4
          have HRun := Lib.hid (rrun_any L0 N F' T' hO2.out.1 (by omega) a n c wr g3 HLen.out (by omega) s q hss (by omega))
          clear hdead g1 g2 g3 g4
          by_cases hlt : t < q
          · go_wp2_with fail
            refine HRun.out.mono ?_
            rintro e w5 ⟨f, a5, c5, rfl, hO5, hf5, hB5⟩
            have HW5 := Lib.hid (And.intro (HG.out.1.trans (hB5.mono HG.out.1.size)) (HG.out.2.2.below hB5))
            have HMk := Lib.hid (rmark_any am nM cM z a5 N c5 f (by omega) (by omega) w5 HW5.out.2 (bls_at hO5))
            have HFf := Lib.hid hf5
            clear hO5 hB5 hf5 HRun
            go_wp2_with fail
            refine HMk.out.mono ?_
            rintro e w6 ⟨r, rfl, hr, rfl⟩
            have e1 : r = -1 := (hr.congr (fun x => ⟨fun hx => (HFf.out x).1 hx.2, fun hx => ⟨RunP.lt hO2.out.1.f (fun e he => (hO2.out.1.e e he).2) q hx, (HFf.out x).2 hx⟩⟩)).uniq HR0.out
            subst e1
            clear hr
            go_wp2_with fail
            go_ret
            exact ⟨rfl, HW5.out.1⟩
          · go_wp2_with fail
            refine HRun.out.mono ?_
            rintro e w5 ⟨f, a5, c5, rfl, hO5, hf5, hB5⟩
            have HW5 := Lib.hid (And.intro (HG.out.1.trans (hB5.mono HG.out.1.size)) (HG.out.2.2.below hB5))
            have HMk := Lib.hid (rmark_any am nM cM z a5 N c5 f (by omega) (by omega) w5 HW5.out.2 (bls_at hO5))
            have HFf := Lib.hid hf5
            clear hO5 hB5 hf5 HRun
            go_wp2_with fail
            refine HMk.out.mono ?_
            rintro e w6 ⟨r, rfl, hr, rfl⟩
            have e1 : r = -1 := (hr.congr (fun x => ⟨fun hx => (HFf.out x).1 hx.2, fun hx => ⟨RunP.lt hO2.out.1.f (fun e he => (hO2.out.1.e e he).2) q hx, (HFf.out x).2 hx⟩⟩)).uniq HR0.out
            subst e1
            clear hr
            go_wp2_with fail
            go_ret
            exact ⟨rfl, HW5.out.1⟩
        · have hjk : j < k := by have := HDD.out.2.2.2.2.2.2.2.1; omega
          by_cases hlt : t < q
          · have hks : t < s.size := by rw [hss]; exact hlt
            obtain ⟨bt, hbe⟩ : ∃ bt, (s[t]'hks).toNat = bt := ⟨_, rfl⟩
            have hbz := zof_at s t hks
            rw [hbe] at hbz
            have hbt : bt < 256 := by rw [hbz]; exact zof_lt s t
            obtain ⟨hjR, hcR, hsay⟩ := HMd.out.step HDD.out.2.2.2.2.2.2.2.1 (zof s) t j (zof_lt s t) HSy.out
            rw [← hbz] at hcR
            have hcv : cls (KOf L0) bt < (rl (KOf L0) 256).length := (rep_key (KOf L0) bt hbt).1
            have q3 : wr.cell? ⟨b7, bt, none⟩ = some (.int .u8 ((cls (KOf L0) bt : Nat) : Int)) := by rw [HDst.out.at_, HDD.out.2.2.2.2.2.2.1 bt hbt]
            obtain ⟨hrow, hrz⟩ := HDD.out.2.1 j hjk
            have q4 := (HB.out.cell (p := ⟨gN, oN + j, none⟩) HDD.out.2.2.2.2.1).trans hrow
            obtain ⟨gr, orr, hAj, hgr, hcr⟩ := hrz (by omega)
            have q5 := (HB.out.cell (p := ⟨gr, orr + cls (KOf L0) bt, none⟩) hgr).trans (hcr _ hcv)
            rw [hAj] at q4
            obtain ⟨nx, hnx⟩ : ∃ nx, (R.getD j []).getD (cls (KOf L0) bt) 0 = nx := ⟨_, rfl⟩
            have HSn : Hid (Says nm.length SS (RunP L' f0 (zof s) (t + 1)) nx) := by
              have e1 : R[j][cls (KOf L0) (zof s t)] = nx := by
                rw [← hnx]
                have hc2 : cls (KOf L0) bt < R[j].length := hcR
                simp only [← hbz]
                simp [List.getD_eq_getElem?_getD, hjR, hc2]
              rw [← e1]
              exact hsay
            dsimp only at q5
            rw [hnx] at q5
            obtain ⟨C, hC⟩ : ∃ C, (rl (KOf L0) 256).length = C := ⟨_, rfl⟩
            rw [hC] at q4 hcv
            obtain ⟨cv, hcvv⟩ : ∃ cv, cls (KOf L0) bt = cv := ⟨_, rfl⟩
            have hcv256 : cv < 256 := by rw [← hcvv]; have := cls_le (KOf L0) bt; omega
            rw [hcvv] at q3 q5 hcv
            have i1 : (t : Int) < (q : Int) := by omega
            have i2 : ¬ ((k : Int) ≤ (j : Int)) := by omega
            have i3 : ¬ ((C : Int) ≤ (cv : Int)) := by omega
            have i4 : (j : Int) < (k : Int) := by omega
            have g1 : decide (k ≤ j) = false := by simp; omega
            have g2 : decide ((k : Int) ≤ (j : Int)) = false := by simp; omega
            have i5 : (cv : Int) < (C : Int) := by omega
            clear hsay
            clear hcR
            clear hbz hrow hrz hcr hAj hnx hC hcvv
            go_wp2_with fail
            go_quiet (fail)
            go_wp2_with fail
            go_quiet (fail)
            go_wp2_with fail
            go_roundw
            case rel => first
              | exact ⟨t + 1, nx, rfl, by go_num, by omega, HSn, below_drewN (below_drewN HB.out _) _⟩
              | exact ⟨t + 1, nx, rfl, by go_num, by omega, HSn, below_drewN HB.out _⟩
            case measure => simp [intOf]; omega
          · obtain rfl : t = q := by omega
            have hjm : j < ms.length := by have := HDD.out.2.2.2.2.2.2.2.2.1; omega
            have HR0 : Hid (Least (mkOf nM z) (RunP L0 F' (zof s) t) ms[j]) := HMd.out.mark hj HSy.out (HDD.out.2.2.2.2.2.2.2.2.2 j hj hjm)
            have q3 := (HB.out.cell (p := ⟨gK, oK + j, none⟩) HDD.out.2.2.2.2.2.1).trans (HDD.out.2.2.2.1 j hjk)
            have hgd : ms.getD j 0 = ms[j] := by simp [List.getD_eq_getElem?_getD, hjm]
            try dsimp only at q3
            rw [hgd] at q3
            obtain ⟨r0, hr0⟩ : ∃ r0, ms[j] = r0 := ⟨_, rfl⟩
            rw [hr0] at q3 HR0
            obtain ⟨g1, g2, g3, g4⟩ := HE.out wr r0 HB.out HR0.out
            have HG := Lib.hid (And.intro g1 (And.intro g3 g4))
            obtain ⟨y0, y1, y2, y3⟩ := g2.cells4
            have HRun := Lib.hid (rrun_any L0 N F' T' hO2.out.1 (by omega) a n c wr g3 HLen.out (by omega) s t hss (by omega))
            have i1 : ¬ ((k : Int) ≤ (j : Int)) := by omega
            have i2 : (j : Int) < (k : Int) := by omega
            clear hgd hr0 g1 g2 g3 g4 hjm
            go_wp2_with fail
            refine HRun.out.mono ?_
            rintro e w5 ⟨f, a5, c5, rfl, hO5, hf5, hB5⟩
            have HW5 := Lib.hid (And.intro (HG.out.1.trans (hB5.mono HG.out.1.size)) (HG.out.2.2.below hB5))
            have HMk := Lib.hid (rmark_any am nM cM z a5 N c5 f (by omega) (by omega) w5 HW5.out.2 (bls_at hO5))
            have HFf := Lib.hid hf5
            clear hO5 hB5 hf5 HRun
            go_wp2_with fail
            refine HMk.out.mono ?_
            rintro e w6 ⟨r, rfl, hr, rfl⟩
            have e1 : r = r0 := (hr.congr (fun x => ⟨fun hx => (HFf.out x).1 hx.2, fun hx => ⟨RunP.lt hO2.out.1.f (fun e he => (hO2.out.1.e e he).2) t hx, (HFf.out x).2 hx⟩⟩)).uniq HR0.out
            subst e1
            clear hr
            go_wp2_with fail
            go_ret
            exact ⟨rfl, HW5.out.1⟩
end Go.Proofs.Ytlnndkilaklifaa
