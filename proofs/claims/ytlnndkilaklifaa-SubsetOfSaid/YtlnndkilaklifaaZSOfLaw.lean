import Derived.Test.YtlnndkilaklifaaZSAwk
import Derived.Test.YtlnndkilaklifaaZSROf
import Derived.Test.YtlnndkilaklifaaZSROfM
import Derived.BigFrame
namespace Go.Proofs.Ytlnndkilaklifaa
open Go.RowKit Go.Maps Go.WideElems Go.ChangeMaps Go.MapKept
set_option linter.unusedVariables false
set_option linter.unusedSimpArgs false

set_option maxHeartbeats 4000000 in
set_option maxRecDepth 100000 in
theorem subsetOf_any (S F T : Int) (a : Option Addr) (n c : Nat) (L : List Eg) (am : Option Addr) (nM cM : Nat) (z : Nat → Int) (w : World) (hL : EdAt w a L) (hn : L.length = n) (hz : ZAt w am nM z) (hn1 : n ≤ 9223372036854775807) (hnM : nM ≤ 9223372036854775807) :
    Calls Try.prog 3 #[.agg #[.int .i64 S, .slice a n c, .int .i64 F, .int .i64 T], .slice am nM cM] w fun e w' => e = .returned (.bool true) ∧ Below w.heap.size w w' := by
  have hB0 := al w (.cells #[.int .i64 S, .slice a n c, .int .i64 F, .int .i64 T] 24)
  have H0 := Lib.hid (And.intro (nfa_new w S F T a n c) (And.intro hB0 (And.intro (hL.below hB0) (And.intro (hz.below hB0) hn))))
  clear hL hn hz hB0
  go_enter Try.func3, Try.ntmps3
  go_wp2_with fail
  generalize w.alloc (.cells #[.int .i64 S, .slice a n c, .int .i64 F, .int .i64 T] 24) = W at H0 ⊢
  refine (awake07_any _).mono ?_
  rintro e w1 ⟨rfl, b1⟩
  have H1 := Lib.hid (And.intro (H0.out.1.keep b1) (And.intro (H0.out.2.1.trans (b1.mono H0.out.2.1.size)) (And.intro (H0.out.2.2.1.below b1) (H0.out.2.2.2.1.below b1))))
  obtain ⟨c0, c1, c2, c3⟩ := H1.out.1.cells4
  clear b1
  by_cases hS : 12 < S
  · go_wp2_with fail
    go_ret
    exact ⟨rfl, H1.out.2.1⟩
  by_cases hn2 : 30 < n
  · go_wp2_with fail
    go_ret
    exact ⟨rfl, H1.out.2.1⟩
  by_cases hm2 : 40 < nM
  · go_wp2_with fail
    go_ret
    exact ⟨rfl, H1.out.2.1⟩
  rcases hr : riB S L F T with _ | _
  · have HBad := Lib.hid (of_bad S F T L a n c am nM cM w1 H1.out.2.2.1 H0.out.2.2.2.2 (by omega) hr)
    have HRr := Lib.hid (fun (W' : World) (hb : Below w1.heap.size w1 W') => rright_any S F T a n c L W' (H1.out.2.2.1.below hb) H0.out.2.2.2.2 (by unfold maxLen; omega))
    rw [hr] at HRr
    clear hr
    go_wp2_with fail
    refine HBad.out.mono ?_
    rintro e w2 ⟨rfl, b2⟩
    have k1 := al w2 (.cells (zC 30) 30)
    have hst : St (w2.alloc (.cells (zC 30) 30)) 30 w2.heap.size (zC 30) := St.new _ _ _
    have HSt := Lib.hid hst
    have hB4 : Below w1.heap.size w1 ((w2.alloc (.cells (zC 30) 30)).setRow w2.heap.size (zC 30)) := below_setRow9 (b2.trans (k1.mono b2.size)) b2.size _
    have HD4 : Hid (St ((w2.alloc (.cells (zC 30) 30)).setRow w2.heap.size (zC 30)) 30 w2.heap.size (zC 30)) := hst.setRow
    have H4 := Lib.hid (And.intro (H1.out.1.keep hB4) hB4)
    have HR4 := Lib.hid (HRr.out _ hB4)
    clear b2 k1 hst hB4 HBad HRr c0 c1 c2 c3
    go_upto_region 6 with (first | (refine wpList_alloc9 rfl 30 rfl (zC 30) (zero_run9 _) ?_) | (refine wpList_store_var9 rfl 30 _ _ rfl w2.heap.size 30 (zC 30) (zC 30) rfl rfl HSt.out rfl (by rw [info_dfa9, zDfa_size]) zDfa_one ?_))
    generalize (w2.alloc (.cells (zC 30) 30)).setRow w2.heap.size (zC 30) = W2 at H4 HD4 HR4 ⊢
    obtain ⟨b7, hb7⟩ : ∃ b7, w2.heap.size = b7 := ⟨_, rfl⟩
    rw [hb7] at HD4
    rw [hb7]
    clear hb7
    obtain ⟨c0, c1, c2, c3⟩ := H4.out.1.cells4
    go_wp2_with fail
    refine HR4.out.mono ?_
    rintro e w5 ⟨rfl, b5⟩
    have d1 : w5.cell? ⟨b7, 256, none⟩ = some (.slice none 0 0) := by rw [(HD4.out.keep b5).at_]; exact zDfa_tail.1
    have HF := Lib.hid (H1.out.2.1.trans ((H4.out.2.trans (b5.mono H4.out.2.size)).mono H1.out.2.1.size))
    clear b5
    go_wp2_with fail
    go_ret
    exact ⟨rfl, HF.out⟩
  · obtain ⟨N, F', T', L0, rfl, rfl, rfl, rfl, hO⟩ := right_nat hr
    have hO2 := Lib.hid (And.intro hO hr)
    have hN12 : N ≤ 12 := by omega
    have hlen0 : L0.length = n := by have := H0.out.2.2.2.2; rwa [List.length_map] at this
    have HLen := Lib.hid hlen0
    have HOf := Lib.hid (of_any ((N : Nat) : Int) ((T' : Nat) : Int) F' L0 a n c am nM cM z w1 H1.out.2.2.2 hnM H1.out.2.2.1 hlen0 (by omega) (by have := hO.f; omega) (fun e he => by have := hO.e e he; omega) hr)
    have HRr := Lib.hid (fun (W' : World) (hb : EdAt W' a (L0.map En.z)) => rright_any ((N : Nat) : Int) ((F' : Nat) : Int) ((T' : Nat) : Int) a n c (L0.map En.z) W' hb H0.out.2.2.2.2 (by unfold maxLen; omega))
    rw [hr] at HRr
    clear hr hO hlen0
    go_wp2_with fail
    refine HOf.out.mono ?_
    rintro e w3 ⟨cD, er, nm, L', f0, s0, k, R, SS, rfl, h1, h2, h3, h4, h5⟩
    have k1 := al w3 (.cells (zC 30) 30)
    have hst : St (w3.alloc (.cells (zC 30) 30)) 30 w3.heap.size (zC 30) := St.new _ _ _
    have HSt := Lib.hid hst
    have HMd := Lib.hid h2
    have HX := Lib.hid (And.intro h3 h4)
    have hB4 : Below w1.heap.size w1 ((w3.alloc (.cells (zC 30) 30)).setRow w3.heap.size cD) := below_setRow9 (h1.trans (k1.mono h1.size)) h1.size _
    have H4 := Lib.hid (And.intro (H1.out.1.keep hB4) (And.intro (H1.out.2.1.trans (hB4.mono H1.out.2.1.size)) (And.intro (H1.out.2.2.1.below hB4) (H1.out.2.2.2.below hB4))))
    have HD4 : Hid (St ((w3.alloc (.cells (zC 30) 30)).setRow w3.heap.size cD) 30 w3.heap.size cD) := hst.setRow
    have HA4 : Hid (Alt (mkOf nM z) nm L0 k R SS ((w3.alloc (.cells (zC 30) 30)).setRow w3.heap.size cD) cD er) := (Alt.keep (mf := mkOf nM z) h5 k1).setRow hst
    clear h1 h2 h3 h4 h5 k1 hst hB4 HOf c0 c1 c2 c3
    go_upto_region 6 with (first | (refine wpList_alloc9 rfl 30 rfl (zC 30) (zero_run9 _) ?_) | (refine wpList_store_var9 rfl 30 _ _ rfl w3.heap.size 30 (zC 30) cD rfl rfl HSt.out (by rw [zDfa_size, HX.out.1]) (by rw [info_dfa9, HX.out.1]) HX.out.2 ?_))
    generalize (w3.alloc (.cells (zC 30) 30)).setRow w3.heap.size cD = W2 at H4 HD4 HA4 ⊢
    obtain ⟨b7, hb7⟩ : ∃ b7, w3.heap.size = b7 := ⟨_, rfl⟩
    rw [hb7] at HD4
    rw [hb7]
    clear hb7 HSt
    obtain ⟨c0, c1, c2, c3⟩ := H4.out.1.cells4
    go_wp2_with fail
    refine (HRr.out W2 H4.out.2.2.1).mono ?_
    rintro e w4 ⟨rfl, b5⟩
    have H5 := Lib.hid (And.intro (H4.out.1.keep b5) (And.intro (H4.out.2.1.trans (b5.mono H4.out.2.1.size)) (And.intro (H4.out.2.2.1.below b5) (And.intro (H4.out.2.2.2.below b5) (And.intro (HD4.out.keep b5) (HA4.out.keep b5))))))
    clear b5 c0 c1 c2 c3 HD4 HA4 H4 HRr
    obtain ⟨c0, c1, c2, c3⟩ := H5.out.1.cells4
    have HRof := Lib.hid (rof7_any L0 N F' T' hO2.out.1 (by omega) a n c am nM cM z w4 H5.out.2.2.1 HLen.out (by omega) H5.out.2.2.2.1 (by omega))
    go_wp2_with fail
    refine HRof.out.mono ?_
    rintro e w5 ⟨b6, rfl | ⟨aN, aO, cN, cO, k2, s2, B2, R2, SS2, ws, ms2, s02, rfl, hk0, hk300, hM2, hG2, hO9⟩⟩
    · have HF := Lib.hid (H5.out.2.1.trans (b6.mono H5.out.2.1.size))
      clear b6
      go_wp2_with fail
      go_ret
      exact ⟨rfl, HF.out⟩
    · have H6 := Lib.hid (And.intro (H5.out.1.keep b6) (And.intro (H5.out.2.1.trans (b6.mono H5.out.2.1.size)) (And.intro (H5.out.2.2.1.below b6) (H5.out.2.2.2.2.1.keep b6))))
      obtain ⟨rfl, ms, hD, hml, hmq⟩ := alt_ref hO2.out.1 HMd.out.w (H5.out.2.2.2.2.2.keep b6) hM2 hk300
      have hzs := hG2.zs hM2.lR hM2.run.rowlen
      have hza := own_zat hO9 hM2.lm
      obtain ⟨aD, cDn, AD, hND, hzND⟩ := hD.rows
      obtain ⟨aK, cK, hKD, hzKD⟩ := hD.marks
      rw [hM2.lR] at hND hzND
      rw [hml] at hKD hzKD
      have HRows := Lib.hid (And.intro hzs (And.intro hza (And.intro hzND hzKD)))
      have HDc := Lib.hid (And.intro hND (And.intro hKD hD.cl))
      have HMq := Lib.hid hmq
      clear hM2 hG2 hO9 hzs hza hD hml hmq hND hzND hKD hzKD b6 c0 c1 c2 c3 HRof
      obtain ⟨c0, c1, c2, c3⟩ := H6.out.1.cells4
      have hlC : (rl (KOf L0) 256).length ≤ 256 := by rw [rl_len]; exact nrep_le _ _
      have i0 : ¬ ((k2 : Int) = 0) := by omega
      have HRp := Lib.hid (reps_any ((N : Nat) : Int) ((F' : Nat) : Int) ((T' : Nat) : Int) a n c (L0.map En.z) w5 H6.out.2.2.1 (by rw [List.length_map]; exact HLen.out) (by omega))
      go_wp2_with fail
      refine HRp.out.mono ?_
      rintro e w6 ⟨aP, cP, rfl, hP, b7'⟩
      obtain ⟨C, hC⟩ : ∃ C, (rl (keyLit (setF (L0.map En.z)) (setsOf (L0.map En.z)).length) 256).length = C := ⟨_, rfl⟩
      rw [hC] at hP ⊢
      have HC : Hid ((rl (KOf L0) 256).length = C) := hC
      have hC256 : C ≤ 256 := by have := HC.out; omega
      have H7 := Lib.hid (And.intro (H6.out.1.keep b7') (And.intro (H6.out.2.1.trans (b7'.mono H6.out.2.1.size)) (And.intro (H6.out.2.2.1.below b7') (H6.out.2.2.2.keep b7'))))
      have HRows7 := Lib.hid (And.intro (HRows.out.1.below b7') (And.intro (HRows.out.2.1.below b7') (And.intro (HRows.out.2.2.1.below b7') (HRows.out.2.2.2.below b7'))))
      have HP := Lib.hid (ownsRow_base (base := 0) hP (Nat.zero_le _))
      clear hP b7' hC hlC HRows H6 H5 HRp c0 c1 c2 c3
      obtain ⟨is, hi, hz0, hz1, hz2⟩ := info_parts Try.info_set9
      go_wp2_with fail
      go_loopw [10, 11] (fun v i wr => ∃ (k q : Nat), i = .int .i64 k ∧ k ≤ n ∧ q ≤ k ∧ Hid ((setsOf ((L0.map En.z).take k)).length = q) ∧ Hid (wr.ownsRow w6.heap.size 41 4 v q (sts (setsOf ((L0.map En.z).take k)))) ∧ Hid (Below w6.heap.size w6 wr)) (fun _ i _ => n - (intOf i).toNat)
      case atStart => exact ⟨0, 0, rfl, Nat.zero_le _, Nat.zero_le _, rfl, World.ownsRow_nil _ _ _ _, Below.refl _ _⟩
      case round =>
        obtain ⟨k, q, rfl, hk, hq, HQ, HA, HBl⟩ := hrel
        obtain ⟨aS, cS, rfl⟩ := ownsRow_slice HA.out
        obtain ⟨n0, n1, n2, n3⟩ := (H7.out.1.keep HBl.out).cells4
        have hsz0 := HBl.out.size
        by_cases hlt : k < n
        · have hkl : k < (L0.map En.z).length := by rw [List.length_map, HLen.out]; exact hlt
          obtain ⟨ge, off, rfl, hg, c0, c1, c2, c3, c4, c5, c6⟩ := (H7.out.2.2.1.below HBl.out).get k hkl
          have HS : Hid ((L0.map En.z).take (k + 1) = (L0.map En.z).take k ++ [(L0.map En.z)[k]]) := List.take_succ_eq_append_getElem hkl
          generalize (L0.map En.z)[k] = x at c0 c1 c2 c3 c4 c5 c6 HS
          obtain ⟨xf, xt, xp, xb⟩ := x
          dsimp only at c0 c1 c2 c3 c4 c5 c6 HS
          have i5 : (k : Int) < (n : Int) := by omega
          rcases xb with _ | _
          · have HZ : Hid (setsOf ((L0.map En.z).take (k + 1)) = setsOf ((L0.map En.z).take k) ++ [xp]) := by show _ = _; rw [HS.out]; simp [setsOf]
            have hO := HA.out
            go_wp2_with (at_builtin; refine wpList_append_own _ rfl _ _ 38 rfl w6.heap.size 41 is (.agg #[.int .u64 0, .int .u64 0, .int .u64 0, .int .u64 0]) 4 32 Try.underlying38 hi hz0 hz1 hz2 rfl (by decide) _ _ _ rfl (hO.alloc _) ⟨wr.heap.size, 0, none⟩ 1 1 (#[.int .u64 ((wd xp 0 : Nat) : Int), .int .u64 ((wd xp 1 : Nat) : Int), .int .u64 ((wd xp 2 : Nat) : Int), .int .u64 ((wd xp 3 : Nat) : Int)]).toList rfl rfl (World.news_of_block (cs := #[.int .u64 ((wd xp 0 : Nat) : Int), .int .u64 ((wd xp 1 : Nat) : Int), .int .u64 ((wd xp 2 : Nat) : Int), .int .u64 ((wd xp 3 : Nat) : Int)]) (t := 41) (fr := (0, 0)) (St.new wr _ _)) ?d2 ?d3 ?d4 ?d5 ?_)
            case d2 => exact ⟨rfl, rfl, rfl, rfl⟩
            case d3 => unfold maxLen; omega
            case d4 => omega
            case d5 => simp; omega
            intro v' w8 hown5 hgrow5 _
            obtain ⟨a9, e9, rfl⟩ := ownsRow_slice hown5
            have hal := al wr (.cells #[.int .u64 ((wd xp 0 : Nat) : Int), .int .u64 ((wd xp 1 : Nat) : Int), .int .u64 ((wd xp 2 : Nat) : Int), .int .u64 ((wd xp 3 : Nat) : Int)] 41)
            have hB5 : Hid (Below w6.heap.size w6 w8) := below_grown_own (HBl.out.trans (hal.mono hsz0)) (hO.alloc _) (by simp; omega) hgrow5
            have HO5 : Hid (w8.ownsRow w6.heap.size 41 4 (.slice a9 (q + 1) e9) (q + 1) (sts (setsOf ((L0.map En.z).take (k + 1))))) := by
              show World.ownsRow _ _ _ _ _ _ _
              rw [HZ.out, sts_snoc]
              exact hown5
            have HQ5 : Hid ((setsOf ((L0.map En.z).take (k + 1))).length = q + 1) := by show _ = _; rw [HZ.out, List.length_append, HQ.out]; rfl
            clear hown5 hgrow5 hal hO n0 n1 n2 n3 c0 c1 c2 c3 c4 c5 c6
            go_wp2_with fail
            go_roundw
            case rel => exact ⟨k + 1, q + 1, by go_num, by omega, by omega, HQ5, HO5, hB5⟩
            case measure => simp [intOf]; omega
          · have HZ : Hid (setsOf ((L0.map En.z).take (k + 1)) = setsOf ((L0.map En.z).take k)) := by show _ = _; rw [HS.out]; simp [setsOf]
            go_wp2_with fail
            go_roundw
            case rel => exact ⟨k + 1, q, by go_num, by omega, by omega, by show _ = _; rw [HZ.out]; exact HQ.out, by show World.ownsRow _ _ _ _ _ _ _; rw [HZ.out]; exact HA.out, HBl⟩
            case measure => simp [intOf]; omega
        · obtain rfl : k = n := by omega
          have HZ : Hid ((L0.map En.z).take k = L0.map En.z) := List.take_of_length_le (by rw [List.length_map, HLen.out]; exact Nat.le_refl _)
          have HQL : Hid ((setsOf (L0.map En.z)).length = q) := by have := HQ.out; rwa [HZ.out] at this
          have HSt : Hid (SetsAt wr aS q (setF (L0.map En.z))) := sts_sets (by have := HA.out; rwa [HZ.out] at this) HQL.out
          have hKq : keyLit (setF (L0.map En.z)) q = KOf L0 := by rw [← HQL.out]; rfl
          have HK := Lib.hid hKq
          have H9 := Lib.hid (And.intro (H7.out.2.1.trans (HBl.out.mono H7.out.2.1.size)) (And.intro (H7.out.2.2.2.keep HBl.out) (ownsRow_keep HP.out HBl.out)))
          have HRows9 := Lib.hid (And.intro (HRows7.out.1.below HBl.out) (And.intro (HRows7.out.2.1.below HBl.out) (And.intro (HRows7.out.2.2.1.below HBl.out) (HRows7.out.2.2.2.below HBl.out))))
          clear HA HQ HBl HP HRows7 H7 hKq
          obtain ⟨W9, rfl⟩ : ∃ W9, W9 = wr := ⟨wr, rfl⟩
          go_wp2_with fail
          clear n0 n1 n2 n3
          go_loopw [12, 13] (fun i _ wq => ∃ (b : Nat), i = .int .i64 b ∧ b ≤ 256 ∧ Hid (Below W9.heap.size W9 wq)) (fun i _ _ => 256 - (intOf i).toNat)
          case atStart => exact ⟨0, rfl, Nat.zero_le _, Below.refl _ _⟩
          case round =>
            obtain ⟨b, rfl, hb, HBb⟩ := hrel
            by_cases hlt : b < 256
            · have hCl := rclass_any aS q cS b (setF (L0.map En.z)) (by omega) hlt wr (HSt.out.keep HBb.out)
              rw [HK.out, ← rpO_fst (KOf L0) b hlt] at hCl
              have HCl := Lib.hid hCl
              obtain ⟨hcv, _⟩ := rep_key (KOf L0) b hlt
              rw [HC.out] at hcv
              have hC0 : 0 < C := by omega
              obtain ⟨gP, rfl, _, hgP, hcP⟩ := ownsRow_read H9.out.2.2 hC0
              have q0 : ∀ W', Below W9.heap.size W9 W' → W'.cell? ⟨b7, b, none⟩ = some (.int .u8 ((cls (KOf L0) b : Nat) : Int)) := fun W' h' => by rw [(H9.out.2.1.keep h').at_]; exact HDc.out.2.2 b hlt
              have q1 : ∀ W', Below W9.heap.size W9 W' → W'.cell? ⟨gP, cls (KOf L0) b, none⟩ = some (.int .i64 ((rpO (KOf L0) (cls (KOf L0) b) : Nat) : Int)) := fun W' h' => by
                refine (h'.cell (p := ⟨gP, cls (KOf L0) b, none⟩) hgP).trans ?_
                rw [(hcP _ (by omega)).1]
                have h9 : cls (KOf L0) b < (rl (KOf L0) 256).length := by rw [HC.out]; exact hcv
                show (nums64 (rl (KOf L0) 256))[cls (KOf L0) b]? = _
                rw [nums64_get _ _ h9]
                simp [rpO, List.getD_eq_getElem?_getD, h9]
              have HQ0 := Lib.hid q0
              have HQ1 := Lib.hid q1
              have hcl2 := cls_le (KOf L0) b
              clear hcP q0 q1 hCl
              generalize rpO (KOf L0) (cls (KOf L0) b) = rv at HCl HQ1
              generalize cls (KOf L0) b = cv at HQ0 HQ1 hcv hcl2
              have i6 : (b : Int) < 256 := by omega
              have i7 : ¬ ((C : Int) ≤ (cv : Int)) := by omega
              have i8 : (cv : Int) < (C : Int) := by omega
              have g1 : decide (C ≤ cv) = false := by simp; omega
              have g2 : decide ((C : Int) ≤ (cv : Int)) = false := by simp; omega
              go_wp2_with fail
              refine HCl.out.mono ?_
              rintro e w8 ⟨rfl, b8⟩
              have HB8 := Lib.hid (HBb.out.trans (b8.mono HBb.out.size))
              have q0 := HQ0.out w8 HB8.out
              have q1 := HQ1.out w8 HB8.out
              clear b8 HQ0 HQ1 HCl
              go_wp2_with fail
              go_roundw
              case rel => exact ⟨b + 1, by go_num, by omega, HB8⟩
              case measure => simp [intOf]; omega
            · obtain rfl : b = 256 := by omega
              have H10 := Lib.hid (And.intro (H9.out.1.trans (HBb.out.mono H9.out.1.size)) (H9.out.2.1.keep HBb.out))
              have HRw := Lib.hid (And.intro (HRows9.out.1.below HBb.out) (And.intro (HRows9.out.2.1.below HBb.out) (And.intro (HRows9.out.2.2.1.below HBb.out) (HRows9.out.2.2.2.below HBb.out))))
              have p1 : wr.cell? ⟨b7, 256, none⟩ = some (.slice aD k2 cDn) := by rw [H10.out.2.at_]; exact HDc.out.1
              have HSR := Lib.hid (rsameRows_any k2 k2 cDn cN aD aN AD (fun i => slA (ws i)) (fun _ => (rl (KOf L0) 256).length) (fun i => slC (ws i)) (fun _ => (rl (KOf L0) 256).length) (fun _ => (rl (KOf L0) 256).length) (fun i x => (R2.getD i []).getD x 0) (fun i x => (R2.getD i []).getD x 0) (by omega) (by omega) (fun i => by have := HC.out; omega) (fun i => by have := HC.out; omega) wr HRw.out.2.2.1 HRw.out.1)
              clear HRows9 H9
              go_wp2_with fail
              refine HSR.out.mono ?_
              rintro e w9 ⟨bo, rfl, hbo, b9⟩
              have hbt : bo = true := hbo.2 ⟨rfl, fun i hi => ⟨rfl, fun x hx => rfl⟩⟩
              subst hbt
              have p2 : w9.cell? ⟨b7, 257, none⟩ = some (.slice aK k2 cK) := by rw [(H10.out.2.keep b9).at_]; exact HDc.out.2.1
              have HSm := Lib.hid (rsame01_any k2 k2 cK cO aK aO (fun i => ms.getD i 0) (fun i => ms2.getD i 0) (by omega) (by omega) w9 (HRw.out.2.2.2.below b9) (HRw.out.2.1.below b9))
              have HF := Lib.hid (H10.out.1.trans (b9.mono H10.out.1.size))
              clear hbo b9 HSR p1
              go_wp2_with fail
              refine HSm.out.mono ?_
              rintro e w10 ⟨bo, rfl, hbo, b10⟩
              have hbt : bo = true := hbo.2 (by first | exact ⟨rfl, HMq.out⟩ | exact ⟨trivial, HMq.out⟩)
              subst hbt
              have HF2 := Lib.hid (HF.out.trans (b10.mono HF.out.size))
              clear hbo b10 HSm
              go_wp2_with fail
              go_ret
              exact ⟨rfl, HF2.out⟩
end Go.Proofs.Ytlnndkilaklifaa
