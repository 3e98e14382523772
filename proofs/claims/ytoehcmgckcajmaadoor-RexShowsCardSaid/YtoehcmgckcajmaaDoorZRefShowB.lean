import Derived.Test.YtoehcmgckcajmaaDoorZRefShowA
namespace Go.Proofs.YtoehcmgckcajmaaDoor
open Go.RowKit
set_option linter.unusedVariables false

theorem around_q (s : ByteArray) (b : Bool) (hs : s.size ≤ 1000000000) (w : World) (l : List Nat) (hl : s = strOf l) :
    Calls Tryd.prog 29 #[.string s, .bool b] w fun e w' => e = .returned (.string (strOf (parT b l))) ∧ w' = w := (around_any s b hs w l hl).mono fun e w' h => ⟨h.1, h.2.symm⟩
def pick2 {α : Type} (a b : α) (i : Nat) : α := if i = 0 then a else b

set_option maxHeartbeats 4000000 in
set_option maxRecDepth 100000 in
theorem rshow_bin (x : Pc) (s t : Rx) (hs : s.wf) (ht : t.wf) (hx : takesZ x.k = 2) (hok : RShowOk s) (hok2 : RShowOk t) : RShowOk (.bin x s t) := by
  intro g off n cap w hL hn hmax hcap
  obtain ⟨i1, hi1, hy0, hy1, hy2⟩ := info_parts Tryd.info_str
  obtain ⟨i2, hi2, hx0, hx1, hx2⟩ := info_parts Tryd.info_int
  obtain ⟨ms, hms⟩ : ∃ m, s.flat.length = m := ⟨_, rfl⟩
  obtain ⟨mt, hmt⟩ : ∃ m, t.flat.length = m := ⟨_, rfl⟩
  obtain ⟨m, hm⟩ : ∃ m, ms + mt = m := ⟨_, rfl⟩
  have hnm : n = ms + mt + 1 := by rw [← hn]; simp [Rx.flat, hms, hmt]; omega
  have hsp := s.flat_pos
  have htp := t.flat_pos
  obtain ⟨g', off', e, hg, c0, c1, c2, c3, c4⟩ := hL.get m (by simp [Rx.flat, hms, hmt]; omega)
  simp at e
  obtain ⟨rfl, rfl⟩ := e
  have ex : (Rx.bin x s t).flat[m]'(by simp [Rx.flat, hms, hmt]; omega) = x := by
    have h2 := (Rx.bin x s t).flat_top
    rw [hn, show n - 1 = m by omega] at h2
    exact (List.getElem?_eq_some_iff.1 h2).2
  rw [ex] at c0 c1 c2 c3 c4
  have k0 : Below w.heap.size w (w.alloc (.cells #[.int .i64 x.k, .int .u64 ((wd x.p 0 : Nat) : Int), .int .u64 ((wd x.p 1 : Nat) : Int), .int .u64 ((wd x.p 2 : Nat) : Int), .int .u64 ((wd x.p 3 : Nat) : Int)] 35)) := (Below.refl _ _).alloc (Nat.le_refl _) _
  have HP := Lib.hid (rparts_bin x s t hs ht hx g off n cap _ (hL.below k0) ms mt hms hmt hnm (by omega) hcap)
  have hall : ∀ j, j < n * 5 → w.cell? ⟨g, off + j, none⟩ = (pcs (s.flat ++ (t.flat ++ [x])))[j]? := by
    intro j hj
    obtain ⟨g2, off2, e2, _, hc⟩ := hL (by rw [hn]; omega)
    simp at e2
    obtain ⟨rfl, rfl⟩ := e2
    exact hc j (by rw [hn]; exact hj)
  have hLs : RxAt w (some ⟨g, off, none⟩) s.flat := by
    intro _
    refine ⟨g, off, rfl, hg, fun j hj => ?_⟩
    rw [hall j (by omega), pcs_append, List.getElem?_append_left (by rw [pcs_length]; omega)]
  have hLt : RxAt w (some ⟨g, off + ms * 5, none⟩) t.flat := by
    intro _
    refine ⟨g, off + ms * 5, rfl, hg, fun j hj => ?_⟩
    rw [Nat.add_assoc, hall _ (by omega), pcs_append, List.getElem?_append_right (by rw [pcs_length]; omega), pcs_length, hms, show ms * 5 + j - ms * 5 = j by omega, pcs_append, List.getElem?_append_left (by rw [pcs_length]; omega)]
  obtain ⟨kt, hkt⟩ : ∃ kt : Nat → Rx, kt = pick2 s t := ⟨_, rfl⟩
  obtain ⟨ko, hko⟩ : ∃ ko : Nat → Nat, ko = pick2 off (off + ms * 5) := ⟨_, rfl⟩
  obtain ⟨kn, hkn⟩ : ∃ kn : Nat → Nat, kn = pick2 ms mt := ⟨_, rfl⟩
  obtain ⟨kc, hkc⟩ : ∃ kc : Nat → Nat, kc = pick2 cap (cap - ms) := ⟨_, rfl⟩
  have HLS := Lib.hid hLs
  have HLT := Lib.hid hLt
  have HOK0 := Lib.hid hok
  have HOK1 := Lib.hid hok2
  have hcap1 := hcap.1
  have en : ((n : Nat) : Int) - 1 = ((m : Nat) : Int) := by omega
  have hmn : m < n := by omega
  have HMS := Lib.hid hms
  have HMT := Lib.hid hmt
  have hms1000 : ms + mt ≤ 1000 := by omega
  have hmcap : ms + mt ≤ cap := by omega
  have s0 := Lib.hid (St.new w 35 #[.int .i64 x.k, .int .u64 ((wd x.p 0 : Nat) : Int), .int .u64 ((wd x.p 1 : Nat) : Int), .int .u64 ((wd x.p 2 : Nat) : Int), .int .u64 ((wd x.p 3 : Nat) : Int)])
  have hk3 : x.k = 2 ∨ x.k = 3 := by have := takesZ_cases x.k; omega
  have HCAP := Lib.hid hcap
  clear hL hn hx hok hok2 hs ht ex hnm hLs hLt hall hcap hms hmt
  go_enter Tryd.func18, Tryd.ntmps18
  go_wp2_with fail
  refine HP.out.mono ?_
  rintro e w1 ⟨a, c, rfl, hown, b1⟩
  have hb1 := k0.trans (b1.mono (by simp))
  have hw1 := hb1.size
  have S1 := Lib.hid (s0.out.keep b1)
  have hPlt := S1.out.lt
  obtain ⟨gl, rfl, hgl1, hgl2, hgl3⟩ := ownsRow_read hown (by simp)
  have KD : Hid (Kids w1 g gl 2 kt ko kn kc) := by
    refine ⟨fun i hi => ?_, fun i hi => ?_, fun i hi => ?_, hgl2⟩
    · subst hkt hkn hkc
      rcases (by omega : i = 0 ∨ i = 1) with rfl | rfl
      · exact ⟨HOK0.out, HMS.out, by show ms ≤ 1000; omega, by show ms ≤ cap; omega, HCAP.out.2⟩
      · exact ⟨HOK1.out, HMT.out, by show mt ≤ 1000; omega, by show mt ≤ cap - ms; omega, by show cap - ms ≤ maxLen; have := HCAP.out.2; omega⟩
    · subst hkt hko
      rcases (by omega : i = 0 ∨ i = 1) with rfl | rfl
      · exact (HLS.out.below k0).below b1
      · exact (HLT.out.below k0).below b1
    · rw [(hgl3 i (by simpa using hi)).1]
      subst hko hkn hkc
      rcases (by omega : i = 0 ∨ i = 1) with rfl | rfl <;> rfl
  have HKT := Lib.hid hkt
  clear HP b1 k0 s0 c0 c1 c2 c3 c4 hown hgl3 hkt hko hkn hkc HLS HLT HOK0 HOK1
  simp only [List.length_cons, List.length_nil, Nat.zero_add, Nat.reduceAdd]
  go_wp2_with fail
  go_loopw [5, 6, 7] (fun vs vk i wr => ∃ k : Nat, i = .int .i64 k ∧ k ≤ 2 ∧ Hid (wr.ownsRow w1.heap.size 9 1 vs k (txs kt k)) ∧ Hid (wr.ownsRow w1.heap.size 3 1 vk k (kds kt k)) ∧ Hid (Below w1.heap.size w1 wr)) (fun _ _ i _ => 2 - (intOf i).toNat)
  case atStart => exact ⟨0, rfl, Nat.zero_le _, World.ownsRow_nil _ _ _ _, World.ownsRow_nil _ _ _ _, Below.refl _ _⟩
  case round =>
    obtain ⟨k, rfl, hk, HS, HK, HB⟩ := hrel
    obtain ⟨as1, cs1, rfl⟩ := ownsRow_slice HS.out
    obtain ⟨ak1, ck1, rfl⟩ := ownsRow_slice HK.out
    have hbw := HB.out.size
    by_cases hlt : k < 2
    · have KR := Lib.hid (KD.out.below HB.out)
      obtain ⟨hok, hlen, h1000, hkc, hkm⟩ := KR.out.each k hlt
      have cl := KR.out.cell k hlt
      have HOK := Lib.hid (hok g (ko k) (kn k) (kc k) wr (KR.out.rx k hlt) hlen h1000 ⟨hkc, hkm⟩)
      have hzl := showT_len (kt k)
      have HTX := Lib.hid (txs_snoc kt k)
      have HKD := Lib.hid (kds_snoc kt k)
      have hpos := (kt k).flat_pos
      unfold maxLen at hkm
      clear hok
      go_wp2_with fail
      refine HOK.out.mono ?_
      rintro e w2 ⟨rfl, b2⟩
      have HS2 := ownsRow_keep HS.out b2
      have HK2 := Lib.hid (ownsRow_keep HK.out b2)
      have HB2 := HB.out.trans (b2.mono hbw)
      have hb2 := HB2.size
      clear b2 HOK HS HK HB cl
      go_wp2_with (at_builtin; refine wpList_append_own _ rfl _ _ 60 rfl w1.heap.size 9 i1 (.string ⟨#[]⟩) 1 16 Tryd.underlying60 hi1 hy0 hy1 hy2 rfl (by decide) _ _ _ rfl (HS2.alloc _) ⟨w2.heap.size, 0, none⟩ 1 1 [.string (strOf (showT (kt k)))] rfl rfl ?c1 ?c2 ?c3 ?c4 ?c5 ?_)
      case c1 =>
        intro j u hj
        match j, hj with
        | 0, hj => simp at hj; subst hj; simp [Addr.add]
      case c2 => intro u hu; simp at hu; subst hu; rfl
      case c3 => unfold maxLen; omega
      case c4 => omega
      case c5 => simp; omega
      intro v' w5 hown5 hgrow5 _
      have hB5 : Below w1.heap.size w2 w5 := ((Below.refl _ w2).alloc hb2 _).trans (grown_kept hgrow5 (HS2.alloc _) (by simp; omega))
      have ok5 : Lib.OthersKept 9 none w2 w5 := ((Lib.OthersKept.refl _ _ w2).alloc _).grown hgrow5 (Lib.ownsRow_kind (HS2.alloc _))
      have HK5 := ownsRow_others HK2.out ok5 (by decide)
      have HS5 : w5.ownsRow w1.heap.size 9 1 v' (k + 1) (txs kt (k + 1)) := by rw [HTX.out]; exact hown5
      have HB5 := Lib.hid (HB2.trans hB5)
      obtain ⟨a5, c5, rfl⟩ := ownsRow_slice HS5
      have H5 := Lib.hid HS5
      have hb5 := HB5.out.size
      have K5 := Lib.hid (KD.out.below HB5.out)
      have cl := K5.out.cell k hlt
      obtain ⟨q, hq, ck⟩ := K5.out.last k hlt
      obtain ⟨nk, hnk⟩ : ∃ nk, kn k = nk := ⟨_, rfl⟩
      obtain ⟨tk, htk⟩ : ∃ tk, (kt k).top.k = tk := ⟨_, rfl⟩
      rw [hnk] at cl hq hlen
      rw [htk] at ck HKD
      have eq1 : ((nk : Nat) : Int) - 1 = ((q : Nat) : Int) := by omega
      have hqn : q < nk := by omega
      have hwq : IntKind.i64.wrap ((q : Nat) : Int) = ((q : Nat) : Int) := IntWalk.i64_in _ (by omega)
      have hnk2 : nk ≤ 1000 := by omega
      skip
      have glt5 := K5.out.glt
      clear hown5 hgrow5 hB5 ok5 HS5 HS2 HB2 HK2 hnk htk KR hlen hpos
      go_wp2_with fail
      go_region_law (
        refine step_append_lies _ (by rfl) _ _ _ (by rfl) w1.heap.size 3 i2 (.int .i64 0) 1 8 Tryd.underlying61 hi2 hx0 hx1 hx2 (by rfl) (by decide) _ k (kds kt k) (by rfl) (by first | exact HK5.drew.alloc _ | exact (HK5.alloc _).drew) ⟨w5.heap.size, 0, none⟩ 1 1 [.int .i64 tk] (by rfl) (by rfl) (World.news_of_block (cs := #[.int .i64 tk]) (by first | exact heap_alloc_new _ _ | exact St.new _ _ _)) (by intro u hu; simp at hu; subst hu; rfl) (by omega) (by unfold maxLen; omega) (by omega) (by simp; omega) _ (by rfl) ?_
        intro gg cap6 w6 hown6 hgrow6 hat6 hlt6)
      all_goals
        have hB6 : Below w1.heap.size w5 w6 := by
          refine Below.trans (b := _) ?_ (grown_kept hgrow6 (by first | exact HK5.drew.alloc _ | exact (HK5.alloc _).drew) (by simp; omega))
          first | exact (Below.refl _ _).drew.alloc hb5 _ | exact ((Below.refl _ _).alloc hb5 _).drew
        have ok6 : Lib.OthersKept 3 none w5 w6 := by
          refine Lib.OthersKept.grown ?_ hgrow6 (Lib.ownsRow_kind (by first | exact HK5.drew.alloc _ | exact (HK5.alloc _).drew))
          first | exact (Lib.OthersKept.refl _ _ _).drew.alloc _ | exact ((Lib.OthersKept.refl _ _ _).alloc _).drew
        have HS6 := Lib.hid (ownsRow_others H5.out ok6 (by decide))
        have HK6 : Hid (w6.ownsRow w1.heap.size 3 1 (.slice (some ⟨gg, 0, none⟩) (k + 1) cap6) (k + 1) (kds kt (k + 1))) := by show World.ownsRow _ _ _ _ _ _ _; rw [HKD.out]; exact hown6
        have HB6 := Lib.hid (HB5.out.trans hB6)
        clear hown6 hgrow6 hat6 hB6 ok6 cl ck HK5
        go_wp2_with fail
        go_roundw
        case rel => exact ⟨k + 1, by go_num, by omega, HS6, HK6, HB6⟩
        case measure => simp [intOf]; omega
    · obtain rfl : k = 2 := by omega
      have s5 := S1.out.below HB.out hPlt
      obtain ⟨d0, d1, d2, d3, d4⟩ := st5 s5
      have hbF := hb1.trans (HB.out.mono hw1)
      have hrs := HS.out
      have hrk := HK.out
      have htx : txs kt 2 = [.string (strOf (showT s)), .string (strOf (showT t))] := by rw [HKT.out]; rfl
      have hkd : kds kt 2 = [.int .i64 s.top.k, .int .i64 t.top.k] := by rw [HKT.out]; rfl
      rw [htx] at hrs
      rw [hkd] at hrk
      obtain ⟨gs, rfl, _, hgs2, hgs3⟩ := ownsRow_read hrs (by omega)
      obtain ⟨gkk, rfl, _, hgk2, hgk3⟩ := ownsRow_read hrk (by omega)
      have ts0 : wr.cell? ⟨gs, 0, none⟩ = some (.string (strOf (showT s))) := by rw [(hgs3 0 (by omega)).1]; rfl
      have ts1 : wr.cell? ⟨gs, 1, none⟩ = some (.string (strOf (showT t))) := by rw [(hgs3 1 (by omega)).1]; rfl
      have tk0 : wr.cell? ⟨gkk, 0, none⟩ = some (.int .i64 s.top.k) := by rw [(hgk3 0 (by omega)).1]; rfl
      have tk1 : wr.cell? ⟨gkk, 1, none⟩ = some (.int .i64 t.top.k) := by rw [(hgk3 1 (by omega)).1]; rfl
      have hzl := showT_len s
      have hzl2 := showT_len t
      rw [HMS.out] at hzl
      rw [HMT.out] at hzl2
      have hz1 : (strOf (showT s)).size ≤ 4000000 := by rw [strOf_size]; omega
      have hz2 : (strOf (showT t)).size ≤ 4000000 := by rw [strOf_size]; omega
      have HSH : Hid (showT (.bin x s t) = if x.k = 2 then parT (decide (strT s.top.k < 1)) (showT s) ++ parT (decide (strT t.top.k < 2)) (showT t) else showT s ++ 124 :: parT (decide (strT t.top.k < 1)) (showT t)) := rfl
      obtain ⟨us, hus⟩ : ∃ tt, s.top.k = tt := ⟨_, rfl⟩
      obtain ⟨ut, hut⟩ : ∃ tt, t.top.k = tt := ⟨_, rfl⟩
      rw [hus] at tk0 HSH
      rw [hut] at tk1 HSH
      clear hrs hrk hgs3 hgk3 htx hkd hzl hzl2 HS HK HB hbw KD S1 hus hut
      obtain ⟨b0, hb0⟩ : ∃ b, (us == 3) = b := ⟨_, rfl⟩
      obtain ⟨b3, hb3⟩ : ∃ b, (ut == 3) = b := ⟨_, rfl⟩
      obtain ⟨b2, hb2⟩ : ∃ b, (ut == 2) = b := ⟨_, rfl⟩
      have hd1 : decide (strT us < 1) = b0 := by
        rw [← hb0]; unfold strT
        by_cases h : us = 3
        · simp [h]
        · rw [if_neg h]; have : (us == 3) = false := by simpa using h
          rw [this]; split <;> simp
      have hd3 : decide (strT ut < 1) = b3 := by
        rw [← hb3]; unfold strT
        by_cases h : ut = 3
        · simp [h]
        · rw [if_neg h]; have : (ut == 3) = false := by simpa using h
          rw [this]; split <;> simp
      have hd2 : decide (strT ut < 2) = (b2 || b3) := by
        rw [← hb3, ← hb2]; unfold strT
        by_cases h : ut = 3
        · simp [h]
        · have e3 : (ut == 3) = false := by simpa using h
          rw [if_neg h, e3]
          by_cases h2 : ut = 2
          · simp [h2]
          · have e2 : (ut == 2) = false := by simpa using h2
            rw [if_neg h2, e2]; simp
      rw [hd1, hd2, hd3] at HSH
      clear hd1 hd2 hd3
      have HA1 := Lib.hid (fun W b => around_q (strOf (showT s)) b (by omega) W (showT s) rfl)
      have HA2 := Lib.hid (fun W b => around_q (strOf (showT t)) b (by omega) W (showT t) rfl)
      have hp1 : ∀ b, (strOf (parT b (showT s))).size ≤ 4000002 := fun b => by have := parT_len b (showT s); rw [strOf_size] at hz1 ⊢; omega
      have hp2 : ∀ b, (strOf (parT b (showT t))).size ≤ 4000002 := fun b => by have := parT_len b (showT t); rw [strOf_size] at hz2 ⊢; omega
      rcases hk3 with h | h
      · rw [h] at d0
        have HSH2 : Hid (showT (.bin x s t) = parT b0 (showT s) ++ parT (b2 || b3) (showT t)) := by show _ = _; rw [HSH.out, if_pos h]
        have hq1 := hp1 true
        have hq2 := hp1 false
        have hq3 := hp2 true
        have hq4 := hp2 false
        clear hp1 hp2 HSH h
        rcases b2 with _ | _
        · have g2 : (ut == 2) = false := hb2
          rcases b0 with _ | _ <;> rcases b3 with _ | _
          all_goals
            go_wp2_with fail
            go_quiet (first
              | (go_at_call_of 29 (Value.string (strOf (showT s))); exact Calls.quiet_of_same (HA1.out _ _))
              | (go_at_call_of 29 (Value.string (strOf (showT t))); exact Calls.quiet_of_same (HA2.out _ _))
              | fail)
            go_wp2_with fail
            go_ret
            exact ⟨by rw [HSH2.out, ← strOf_append]; rfl, below_drewN hbF _⟩
        · rcases b0 with _ | _
          all_goals
            go_wp2_with fail
            go_quiet (first
              | (go_at_call_of 29 (Value.string (strOf (showT s))); exact Calls.quiet_of_same (HA1.out _ _))
              | (go_at_call_of 29 (Value.string (strOf (showT t))); exact Calls.quiet_of_same (HA2.out _ _)))
            go_wp2_with fail
            go_ret
            exact ⟨by rw [HSH2.out, ← strOf_append]; rfl, below_drewN hbF _⟩
      · rw [h] at d0
        have HSH2 : Hid (showT (.bin x s t) = showT s ++ [124] ++ parT b3 (showT t)) := by show _ = _; rw [HSH.out, if_neg (by omega)]; simp
        have hq3 := hp2 true
        have hq4 := hp2 false
        clear hp1 hp2 HSH h
        rcases b3 with _ | _
        all_goals
          go_wp2_with fail
          go_quiet (first
            | (go_at_call 29; exact Calls.quiet_of_same (HA2.out _ _)))
          go_wp2_with fail
          go_ret
          exact ⟨by rw [HSH2.out, ← strOf_append, ← strOf_append]; rfl, below_drewN hbF _⟩
end Go.Proofs.YtoehcmgckcajmaaDoor
