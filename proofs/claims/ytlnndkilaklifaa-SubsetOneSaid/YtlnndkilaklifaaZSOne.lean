import Derived.Test.YtlnndkilaklifaaZSAlike
import Derived.BigFrame
import Derived.ChangeKeysEq
namespace Go.Proofs.Ytlnndkilaklifaa
open Go.RowKit Go.Maps Go.WideElems Go.ChangeMaps Go.MapKept
set_option linter.unusedVariables false
set_option linter.unusedSimpArgs false

/-- A guarded load of an array. -/
theorem wpList_load_want9 {P : Program} {ops : Array Oper} {rest : List Oper} {o : Oper} {a : Act} {w : World} {Q : Exit → Act → World → Prop} (hw : Region.wanted o (yielded ops a.tmps) = true) (ty : TypeId) (x : Operand) (ho : o.op = .load ty x)
    (ad : Addr) (hx : a.eval x = .pointer (some ad)) (cs : Array Value) (d : TypeDesc) (hc : ∀ j v, cs.toList[j]? = some v → w.cell? (ad.add j) = some v)
    (hu : P.underlying ty = some d) (hd : (match d with | .struct _ | .array _ _ => true | _ => false) = true) (hi : (P.info? ty).map (·.size) = some cs.size)
    (h : wpList P ops Q rest (a.put o.dst (.agg cs)) w) : wpList P ops Q (o :: rest) a w :=
  BigFrame.wpList_want hw fun _ hK => by
    unfold Oper.wp execOp
    simp only [ho, hx, Instr.loadAt, Instr.sureAddr, Sem.run_bind, Sem.run_pure, Result.andThen_ok, run_loadVar_part w ad ty cs d hc hu hd hi]
    exact hK _ _ h
theorem eq_items9 (d : Nat) (cs : Array Value) (W : World) (hc : ∀ j, j < 256 → ∃ v, cs[j]? = some (.int .u8 v)) : ∀ is : List Nat, (∀ i ∈ is, i < 256) → (Op.eqItems (d + 1) 5 (Try.prog.cellsOf 5) cs cs is).run Try.prog W = .ok true W := by
  intro is
  have c1 : Try.prog.cellsOf 5 = 1 := by kernel_rfl
  induction is with
  | nil => intro _; rfl
  | cons j is ih =>
    intro h
    obtain ⟨v, hv⟩ := hc j (h j (by simp))
    have hagg : (isAgg 5).run Try.prog W = .ok false W := by
      unfold isAgg
      rw [Sem.run_bind, run_underlying Try.underlying5 W]
      rfl
    have hp : (part 5 cs (j * Try.prog.cellsOf 5)).run Try.prog W = .ok (.int .u8 v) W := by
      simp [part, hagg, c1, hv]
    have he : (Op.equalIn (d + 1) 5 (.int .u8 v) (.int .u8 v)).run Try.prog W = .ok true W := by
      rw [run_equalIn_int W d _ _ _ _ _ Try.underlying5]
      simp
    simp only [Op.eqItems, Sem.run_bind, hp, Result.andThen_ok, he]
    simpa using ih (fun i hi => h i (by simp [hi]))
theorem eq_cls9 (cs : Array Value) (W : World) (hc : ∀ j, j < 256 → ∃ v, cs[j]? = some (.int .u8 v)) : (Op.equalIn 10000 27 (.agg cs) (.agg cs)).run Try.prog W = .ok true W := by
  obtain ⟨i0, hi, _, _, _⟩ := info_parts Try.info_u8
  rw [run_equalIn_array W 9999 cs cs Try.underlying27 hi]
  exact eq_items9 9998 cs W hc _ (fun i hi => by simpa using hi)
theorem mk_one (N T : Nat) (hT : T < N) (z : Nat → Int) (hz : ∀ x, x < N → z x = if x = T then 0 else -1) : mkOf N z = fun x => if x = T then 0 else -1 := by
  funext x
  unfold mkOf
  by_cases h : x < N
  · rw [if_pos h, hz x h]
    by_cases e : x = T
    · rw [if_pos e]; rfl
    · rw [if_neg e]; rfl
  · rw [if_neg h, if_neg (by omega)]

set_option maxHeartbeats 4000000 in
set_option maxRecDepth 100000 in
theorem subsetOne_any (S F T : Int) (a : Option Addr) (n c : Nat) (L : List Eg) (w : World) (hL : EdAt w a L) (hn : L.length = n) (hn1 : n ≤ 9223372036854775807) :
    Calls Try.prog 5 #[.agg #[.int .i64 S, .slice a n c, .int .i64 F, .int .i64 T]] w fun e w' => e = .returned (.bool true) ∧ Below w.heap.size w w' := by
  have hB0 := al w (.cells #[.int .i64 S, .slice a n c, .int .i64 F, .int .i64 T] 24)
  have H0 := Lib.hid (And.intro (nfa_new w S F T a n c) (And.intro hB0 (And.intro (hL.below hB0) hn)))
  clear hL hn hB0
  go_enter Try.func5, Try.ntmps5
  go_wp2_with fail
  generalize w.alloc (.cells #[.int .i64 S, .slice a n c, .int .i64 F, .int .i64 T] 24) = W at H0 ⊢
  refine (awake07_any _).mono ?_
  rintro e w1 ⟨rfl, b1⟩
  have H1 := Lib.hid (And.intro (H0.out.1.keep b1) (And.intro (H0.out.2.1.trans (b1.mono H0.out.2.1.size)) (H0.out.2.2.1.below b1)))
  obtain ⟨c0, c1, c2, c3⟩ := H1.out.1.cells4
  clear b1
  by_cases hS : 12 < S
  · go_wp2_with fail
    go_ret
    exact ⟨rfl, H1.out.2.1⟩
  by_cases hn2 : 30 < n
  · go_wp2_with fail
    go_ret
    exact ⟨rfl, H1.out.2.1⟩
  rcases hr : riB S L F T with _ | _
  · have HOne := Lib.hid (one_bad S F T L a n c w1 H1.out.2.2 H0.out.2.2.2 (by omega) hr)
    have HRr := Lib.hid (fun (W' : World) (hb : Below w1.heap.size w1 W') => rright_any S F T a n c L W' (H1.out.2.2.below hb) H0.out.2.2.2 (by unfold maxLen; omega))
    rw [hr] at HRr
    clear hr
    go_wp2_with fail
    refine HOne.out.mono ?_
    rintro e w2 ⟨rfl, b2⟩
    have k1 := al w2 (.cells (zC 30) 30)
    have hst : St (w2.alloc (.cells (zC 30) 30)) 30 w2.heap.size (zC 30) := St.new _ _ _
    have HSt := Lib.hid hst
    have hB4 : Below w1.heap.size w1 ((w2.alloc (.cells (zC 30) 30)).setRow w2.heap.size (zC 30)) := below_setRow9 (b2.trans (k1.mono b2.size)) b2.size _
    have HD4 : Hid (St ((w2.alloc (.cells (zC 30) 30)).setRow w2.heap.size (zC 30)) 30 w2.heap.size (zC 30)) := hst.setRow
    have H4 := Lib.hid (And.intro (H1.out.1.keep hB4) hB4)
    have HR4 := Lib.hid (HRr.out _ hB4)
    clear b2 k1 hst hB4 HOne HRr c0 c1 c2 c3
    go_upto_region 6 with (first | (refine wpList_alloc9 rfl 30 rfl (zC 30) (zero_run9 _) ?_) | (refine wpList_store_var9 rfl 30 _ _ rfl w2.heap.size 30 (zC 30) (zC 30) rfl rfl HSt.out rfl (by rw [info_dfa9, zDfa_size]) zDfa_one ?_))
    generalize (w2.alloc (.cells (zC 30) 30)).setRow w2.heap.size (zC 30) = W2 at H4 HD4 HR4 ⊢
    obtain ⟨b7, hb7⟩ : ∃ b7, w2.heap.size = b7 := ⟨_, rfl⟩
    rw [hb7] at HD4
    rw [hb7]
    clear hb7
    obtain ⟨c0, c1, c2, c3⟩ := H4.out.1.cells4
    go_wp2_with fail
    refine HR4.out.mono ?_
    rintro e w5 ⟨rfl, b5⟩
    have d1 : w5.cell? ⟨b7, 256, none⟩ = some (.slice none 0 0) := by rw [(HD4.out.keep b5).at_]; exact zDfa_tail.1
    have HF := Lib.hid (H1.out.2.1.trans ((H4.out.2.trans (b5.mono H4.out.2.size)).mono H1.out.2.1.size))
    clear b5
    go_wp2_with fail
    go_ret
    exact ⟨rfl, HF.out⟩
  · obtain ⟨N, F', T', L0, rfl, rfl, rfl, rfl, hO⟩ := right_nat hr
    have hO2 := Lib.hid (And.intro hO hr)
    have hN12 : N ≤ 12 := by omega
    have hTN : T' < N := hO.t
    have hlen0 : L0.length = n := by have := H0.out.2.2.2; rwa [List.length_map] at this
    have HLen := Lib.hid hlen0
    have HOne := Lib.hid (one_any ((N : Nat) : Int) F' T' L0 a n c w1 H1.out.2.2 hlen0 (by omega) (by have := hO.f; omega) (by omega) (fun e he => by have := hO.e e he; omega) hr)
    have HRr := Lib.hid (fun (W' : World) (hb : EdAt W' a (L0.map En.z)) => rright_any ((N : Nat) : Int) ((F' : Nat) : Int) ((T' : Nat) : Int) a n c (L0.map En.z) W' hb H0.out.2.2.2 (by unfold maxLen; omega))
    rw [hr] at HRr
    clear hr hO hlen0
    go_wp2_with fail
    refine HOne.out.mono ?_
    rintro e w2 ⟨cD1, er1, nm1, L1, f1, s1, k1, R1, SS1, rfl, b2, M1, z1, o1, A1⟩
    have kk := al w2 (.cells (zC 30) 30)
    have hst : St (w2.alloc (.cells (zC 30) 30)) 30 w2.heap.size (zC 30) := St.new _ _ _
    have HSt := Lib.hid hst
    have HX := Lib.hid (And.intro z1 (And.intro o1 M1))
    have hB4 : Below w1.heap.size w1 ((w2.alloc (.cells (zC 30) 30)).setRow w2.heap.size cD1) := below_setRow9 (b2.trans (kk.mono b2.size)) b2.size _
    have HD4 : Hid (St ((w2.alloc (.cells (zC 30) 30)).setRow w2.heap.size cD1) 30 w2.heap.size cD1) := hst.setRow
    have HA4 : Hid (Alt (fun x => if x = T' then 0 else -1) nm1 L0 k1 R1 SS1 ((w2.alloc (.cells (zC 30) 30)).setRow w2.heap.size cD1) cD1 er1) := (Alt.keep (mf := fun x => if x = T' then 0 else -1) A1 kk).setRow hst
    have H4 := Lib.hid (And.intro (H1.out.1.keep hB4) (And.intro (H1.out.2.1.trans (hB4.mono H1.out.2.1.size)) (H1.out.2.2.below hB4)))
    clear b2 kk hst hB4 HOne c0 c1 c2 c3 M1 z1 o1 A1
    go_upto_region 6 with (first | (refine wpList_alloc9 rfl 30 rfl (zC 30) (zero_run9 _) ?_) | (refine wpList_store_var9 rfl 30 _ _ rfl w2.heap.size 30 (zC 30) cD1 rfl rfl HSt.out (by rw [zDfa_size, HX.out.1]) (by rw [info_dfa9, HX.out.1]) HX.out.2.1 ?_))
    generalize (w2.alloc (.cells (zC 30) 30)).setRow w2.heap.size cD1 = W2 at H4 HD4 HA4 ⊢
    obtain ⟨b3, hb3⟩ : ∃ b3, w2.heap.size = b3 := ⟨_, rfl⟩
    rw [hb3] at HD4
    rw [hb3]
    clear hb3 HSt
    obtain ⟨c0, c1, c2, c3⟩ := H4.out.1.cells4
    go_wp2_with fail
    refine (HRr.out W2 H4.out.2.2).mono ?_
    rintro e w3 ⟨rfl, b5⟩
    have H5 := Lib.hid (And.intro (H4.out.1.keep b5) (And.intro (H4.out.2.1.trans (b5.mono H4.out.2.1.size)) (And.intro (H4.out.2.2.below b5) (And.intro (HD4.out.keep b5) (HA4.out.keep b5)))))
    clear b5 c0 c1 c2 c3 HD4 HA4 H4 HRr
    obtain ⟨c0, c1, c2, c3⟩ := H5.out.1.cells4
    have hm9 := make_row9 N (by omega)
    go_upto_region 9 with fail
    obtain ⟨gm, hgm⟩ : ∃ gm, w3.heap.size = gm := ⟨_, rfl⟩
    have HSm : Hid (St (w3.alloc (.cells (madeCells #[.int .i64 0] N) 3)) 3 gm (ints (List.replicate N 0)).toArray ∧ Below w3.heap.size w3 (w3.alloc (.cells (madeCells #[.int .i64 0] N) 3))) := by
      refine ⟨?_, al _ _⟩
      rw [← made_ints9, ← hgm]
      exact St.new _ _ _
    have hgm2 := Lib.hid hgm
    rw [hgm]
    generalize w3.alloc (.cells (madeCells #[.int .i64 0] N) 3) = W3 at HSm ⊢
    clear hgm c0 c1 c2 c3 hm9
    go_wp2_with fail
    go_loopw [6] (fun v wq => ∃ k : Nat, v = .int .i64 k ∧ k ≤ N ∧ Hid (St wq 3 gm (ints (List.replicate k (-1) ++ List.replicate (N - k) 0)).toArray ∧ Below w3.heap.size w3 wq)) (fun v _ => N - (intOf v).toNat)
    case atStart => exact ⟨0, rfl, Nat.zero_le _, by simpa using HSm.out.1, HSm.out.2⟩
    case round =>
      clear HSm
      obtain ⟨k, rfl, hk, HA⟩ := hrel
      obtain ⟨c0, c1, c2, c3⟩ := (H5.out.1.keep HA.out.2).cells4
      by_cases hlt : k < N
      · have hst := HA.out.1
        rw [ints_zero _ N k hlt] at hst
        have e0 : wr.cell? ⟨gm, k, none⟩ = some (.int .i64 0) := by rw [hst.at_, ints_at _ N k (by simp)]
        have e1 := hst.thaw_ k
        have HZ : Hid (St (wr.setCell ⟨gm, k, none⟩ (.int .i64 (-1))) 3 gm (ints (List.replicate (k + 1) (-1) ++ List.replicate (N - (k + 1)) 0)).toArray ∧ Below w3.heap.size w3 (wr.setCell ⟨gm, k, none⟩ (.int .i64 (-1)))) := by
          refine ⟨?_, HA.out.2.setCell (p := ⟨gm, k, none⟩) (by have := hgm2.out; show _ ≤ gm; omega) _⟩
          have := hst.set k (.int .i64 (-1))
          rw [ints_set _ N k (by simp) hlt] at this
          rwa [show List.replicate k (-1 : Int) ++ [-1] = List.replicate (k + 1) (-1) from List.replicate_succ'.symm] at this
        have i1 : (k : Int) < (N : Int) := by omega
        clear hst HA
        go_wp2_with fail
        go_roundw
        case rel => exact ⟨k + 1, by go_num, by omega, HZ⟩
        case measure => simp [intOf]; omega
      · obtain rfl : k = N := by omega
        have hst : St wr 3 gm (ints (List.replicate k (-1))).toArray := by simpa using HA.out.1
        have e0 : wr.cell? ⟨gm, T', none⟩ = some (.int .i64 (-1)) := by rw [hst.at_]; simp [ints, hTN]
        have e1 := hst.thaw_ T'
        have HZ : Hid (ZAt (wr.setCell ⟨gm, T', none⟩ (.int .i64 0)) (some ⟨gm, 0, none⟩) k (fun x => if x = T' then 0 else -1) ∧ Below w3.heap.size w3 (wr.setCell ⟨gm, T', none⟩ (.int .i64 0))) := by
          have hs2 := hst.set T' (.int .i64 0)
          refine ⟨fun _ => ⟨gm, 0, rfl, hs2.lt, fun j hj => ?_⟩, HA.out.2.setCell (p := ⟨gm, T', none⟩) (by have := hgm2.out; show _ ≤ gm; omega) _⟩
          rw [Nat.zero_add, hs2.at_]
          show _ = some (Value.int .i64 (if j = T' then 0 else -1))
          by_cases e : j = T'
          · subst e
            rw [Array.getElem?_setIfInBounds_self_of_lt (by simp [ints, hTN]), if_pos rfl]
          · rw [Array.getElem?_setIfInBounds_ne (fun h => e h.symm), if_neg e]
            simp [ints, hj]
        have i1 : (T' : Int) < (k : Int) := by omega
        clear hst HA
        go_upto_region 14 with fail
        generalize wr.setCell ⟨gm, T', none⟩ (.int .i64 0) = W5 at HZ ⊢
        clear e0 e1 c0 c1 c2 c3
        have H6 := Lib.hid (And.intro (H5.out.1.keep HZ.out.2) (And.intro (H5.out.2.1.trans (HZ.out.2.mono H5.out.2.1.size)) (And.intro (H5.out.2.2.1.below HZ.out.2) (And.intro (H5.out.2.2.2.1.keep HZ.out.2) (H5.out.2.2.2.2.keep HZ.out.2)))))
        have HOf := Lib.hid (of_any ((k : Nat) : Int) ((T' : Nat) : Int) F' L0 a n c (some ⟨gm, 0, none⟩) k k (fun x => if x = T' then 0 else -1) W5 HZ.out.1 (by omega) H6.out.2.2.1 HLen.out (by omega) (by have := hO2.out.1.f; omega) (fun e he => by have := hO2.out.1.e e he; omega) hO2.out.2)
        rw [mk_one k T' hTN _ (fun x _ => rfl)] at HOf
        obtain ⟨c0, c1, c2, c3⟩ := H6.out.1.cells4
        go_wp2_with fail
        refine HOf.out.mono ?_
        rintro e w7 ⟨cD2, er2, nm2, L2, f2, s2, k2, R2, SS2, rfl, b7, M2, z2, o2, A2⟩
        have kk := al w7 (.cells (zC 30) 30)
        have hst : St (w7.alloc (.cells (zC 30) 30)) 30 w7.heap.size (zC 30) := St.new _ _ _
        have HSt := Lib.hid hst
        have HX2 := Lib.hid (And.intro z2 (And.intro o2 M2))
        have hB8 : Below W5.heap.size W5 ((w7.alloc (.cells (zC 30) 30)).setRow w7.heap.size cD2) := below_setRow9 (b7.trans (kk.mono b7.size)) b7.size _
        have HD8 : Hid (St ((w7.alloc (.cells (zC 30) 30)).setRow w7.heap.size cD2) 30 w7.heap.size cD2) := hst.setRow
        have HA8 : Hid (Alt (fun x => if x = T' then 0 else -1) nm2 L0 k2 R2 SS2 ((w7.alloc (.cells (zC 30) 30)).setRow w7.heap.size cD2) cD2 er2) := (Alt.keep (mf := fun x => if x = T' then 0 else -1) A2 kk).setRow hst
        have H8 := Lib.hid (And.intro (H6.out.2.1.trans (hB8.mono H6.out.2.1.size)) (And.intro (H6.out.2.2.2.1.keep hB8) (H6.out.2.2.2.2.keep hB8)))
        clear b7 kk hst hB8 HOf c0 c1 c2 c3 M2 z2 o2 A2
        go_upto_region 15 with (first | (refine wpList_alloc9 rfl 30 rfl (zC 30) (zero_run9 _) ?_) | (refine wpList_store_var9 rfl 30 _ _ rfl w7.heap.size 30 (zC 30) cD2 rfl rfl HSt.out (by rw [zDfa_size, HX2.out.1]) (by rw [info_dfa9, HX2.out.1]) HX2.out.2.1 ?_))
        generalize (w7.alloc (.cells (zC 30) 30)).setRow w7.heap.size cD2 = W8 at H8 HD8 HA8 ⊢
        obtain ⟨b7, hb7⟩ : ∃ b7, w7.heap.size = b7 := ⟨_, rfl⟩
        rw [hb7] at HD8
        rw [hb7]
        clear hb7 HSt H6 HZ H5
        obtain ⟨her, cA, m, q, x1, x2, y1, y2, B1, B2, C1, C2, l1, l2, z1, z2, u1, u2, v1, v2, t1, t2, HB⟩ := alt_both HX.out.2.2.w HX2.out.2.2.w H8.out.2.2 HA8.out
        subst her
        have HBo := Lib.hid HB
        have p1 : W8.cell? ⟨b3, 256, none⟩ = some (.slice x1 m y1) := by rw [H8.out.2.1.at_, HB.n1]
        have p2 : W8.cell? ⟨b7, 256, none⟩ = some (.slice x2 m y2) := by rw [HD8.out.at_, HB.n2]
        have HSR := Lib.hid (rsameRows_any m m y1 y2 x1 x2 B1 B2 C1 C2 l1 l2 z1 z2 (by have := HB.le.1; omega) (by have := HB.le.1; omega) (fun i => by have := HB.le.2.1 i; omega) (fun i => by have := HB.le.2.2 i; omega) W8 HB.r1 HB.r2)
        clear HB
        go_wp2_with fail
        refine HSR.out.mono ?_
        rintro e w9 ⟨bo, rfl, hbo, b9⟩
        have hbt : bo = true := hbo.2 HBo.out.eq
        subst hbt
        have p3 : w9.cell? ⟨b3, 257, none⟩ = some (.slice u1 q v1) := by rw [(H8.out.2.1.keep b9).at_, HBo.out.m1]
        have p4 : w9.cell? ⟨b7, 257, none⟩ = some (.slice u2 q v2) := by rw [(HD8.out.keep b9).at_, HBo.out.m2]
        have HSm := Lib.hid (rsame01_any q q v1 v2 u1 u2 t1 t2 (by have := HBo.out.ye.1; omega) (by have := HBo.out.ye.1; omega) w9 (HBo.out.mz1.below b9) (HBo.out.mz2.below b9))
        have H9 := Lib.hid (And.intro (H8.out.1.trans (b9.mono H8.out.1.size)) (And.intro (H8.out.2.1.keep b9) (HD8.out.keep b9)))
        clear hbo b9 HSR p1 p2
        go_wp2_with fail
        refine HSm.out.mono ?_
        rintro e w10 ⟨bo, rfl, hbo, b10⟩
        have hbt : bo = true := hbo.2 (by first | exact ⟨rfl, HBo.out.ye.2⟩ | exact ⟨trivial, HBo.out.ye.2⟩)
        subst hbt
        have hinfo : (Try.prog.info? 27).map (·.size) = some cA.size := by rw [HBo.out.sz]; kernel_rfl
        have part9 : ∀ (b : Nat) (cD : Array Value), St w10 30 b cD → (∀ j, j < 256 → cD[j]? = cA[j]?) → ∀ j v, cA.toList[j]? = some v → w10.cell? ((⟨b, 0, none⟩ : Addr).add j) = some v := fun b cD hs hc j v hj => by
          have hj2 : j < 256 := by
            have := (List.getElem?_eq_some_iff.1 hj).1
            simpa [HBo.out.sz] using this
          have e : (⟨b, 0, none⟩ : Addr).add j = ⟨b, j, none⟩ := by unfold Addr.add; split <;> simp_all
          rw [e, hs.at_, hc j hj2, ← Array.getElem?_toList, hj]
        have HP1 := Lib.hid (part9 b3 cD1 (H9.out.2.1.keep b10) (fun j hj => (HBo.out.cl j hj).1))
        have HP2 := Lib.hid (part9 b7 cD2 (H9.out.2.2.keep b10) (fun j hj => (HBo.out.cl j hj).2.1))
        have heq : ∀ W, (Op.equalIn 10000 27 (.agg cA) (.agg cA)).run Try.prog W = .ok true W := fun W => eq_cls9 cA W (fun j hj => (HBo.out.cl j hj).2.2)
        have HF := Lib.hid (H9.out.1.trans (b10.mono H9.out.1.size))
        clear hbo b10 HSm p3 p4 part9
        go_wp2_with (first | (refine wpList_load_want9 (by rfl) 27 _ rfl ⟨b3, 0, none⟩ rfl cA (.array 256 5) HP1.out Try.underlying27 rfl hinfo ?_) | (refine wpList_load_want9 (by rfl) 27 _ rfl ⟨b7, 0, none⟩ rfl cA (.array 256 5) HP2.out Try.underlying27 rfl hinfo ?_))
        go_ret
        exact ⟨rfl, HF.out⟩
end Go.Proofs.Ytlnndkilaklifaa
