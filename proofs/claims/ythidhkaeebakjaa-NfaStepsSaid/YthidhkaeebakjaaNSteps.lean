import Derived.Test.YthidhkaeebakjaaNAwk
import Derived.Test.YthidhkaeebakjaaStr
import Derived.Test.YthidhkaeebakjaaSetEq
import Derived.Deep.RegionHeld3
import Derived.Deep.DeepCutAuto
namespace Go.Proofs.Ythidhkaeebakjaa
open Go.RowKit Go.Maps Go.WideElems Go.ChangeMaps Go.MapKept
set_option linter.unusedVariables false
set_option linter.unusedSimpArgs false

theorem setsOf_snoc (L : List Eg) (x : Eg) : setsOf (L ++ [x]) = if x.b then setsOf L else setsOf L ++ [x.p] := by
  unfold setsOf
  rw [List.filter_append, List.map_append]
  cases h : x.b <;> simp [h]
theorem setsOf_take (L : List Eg) (k : Nat) (hk : k < L.length) (hb : L[k].b = false) : ∃ h : (setsOf (L.take k)).length < (setsOf L).length, (setsOf L)[(setsOf (L.take k)).length] = L[k].p := by
  have h1 : setsOf L = setsOf (L.take k) ++ (L[k].p :: setsOf (L.drop (k + 1))) := by
    have : L = L.take k ++ (L[k] :: L.drop (k + 1)) := by rw [← List.drop_eq_getElem_cons hk, List.take_append_drop]
    rw [show setsOf L = setsOf (L.take k ++ (L[k] :: L.drop (k + 1))) by rw [← this]]
    unfold setsOf
    rw [List.filter_append, List.map_append, List.filter_cons_of_pos (by simp [hb])]
    rfl
  refine ⟨by rw [h1]; simp, ?_⟩
  simp only [h1]
  rw [List.getElem_append_right (Nat.le_refl _)]
  simp

set_option maxHeartbeats 4000000 in
set_option maxRecDepth 100000 in
theorem nfaSteps_any (S F T : Int) (a : Option Addr) (n c : Nat) (L : List Eg) (ai : Option Addr) (m ci : Nat) (g : Nat → Bool) (s : ByteArray) (q : Nat) (hs : s.size = q) (hq : q ≤ 9223372036854775807) (w : World) (hL : EdAt w a L) (hn : L.length = n) (hi : BAt w ai m g) (hcap : n ≤ 9223372036854775807) (hm : m ≤ 9223372036854775807) :
    Calls Try.prog 3 #[.agg #[.int .i64 S, .slice a n c, .int .i64 F, .int .i64 T], .slice ai m ci, .string s] w fun e w' => e = .returned (.bool true) ∧ Below w.heap.size w w' := by
  have hB0 := al w (.cells #[.int .i64 S, .slice a n c, .int .i64 F, .int .i64 T] 24)
  have H0 := Lib.hid (And.intro (nfa_new w S F T a n c) (And.intro hB0 (And.intro (hL.below hB0) (And.intro (hi.below hB0) (And.intro hn hs)))))
  have hss := hs
  clear hL hn hi hs hB0
  go_enter Try.func3, Try.ntmps3
  go_wp2_with fail
  generalize w.alloc (.cells #[.int .i64 S, .slice a n c, .int .i64 F, .int .i64 T] 24) = W at H0 ⊢
  refine (awake06_any _).mono ?_
  rintro e w1 ⟨rfl, b1⟩
  have H1 := Lib.hid (And.intro (H0.out.1.keep b1) (And.intro (H0.out.2.1.trans (b1.mono H0.out.2.1.size)) (And.intro (H0.out.2.2.1.below b1) (H0.out.2.2.2.1.below b1))))
  obtain ⟨c0, c1, c2, c3⟩ := H1.out.1.cells4
  clear b1
  by_cases hS : 60 < S
  · go_wp2_with fail
    go_ret
    exact ⟨rfl, H1.out.2.1⟩
  by_cases hn2 : 200 < n
  · go_wp2_with fail
    go_ret
    exact ⟨rfl, H1.out.2.1⟩
  by_cases hm2 : 100 < m
  · go_wp2_with fail
    go_ret
    exact ⟨rfl, H1.out.2.1⟩
  by_cases hq2 : 20 < q
  · go_wp2_with fail
    go_ret
    exact ⟨rfl, H1.out.2.1⟩
  have HRr := Lib.hid (rright_any S F T a n c L w1 H1.out.2.2.1 H0.out.2.2.2.2.1 (by unfold maxLen; omega))
  rcases hr : riB S L F T with _ | _
  · rw [hr] at HRr
    have HRp := Lib.hid (fun W (hb : Below w1.heap.size w1 W) => right_any S F T a n c L W (H1.out.2.2.1.below hb) H0.out.2.2.2.2.1 (by unfold maxLen; omega))
    have HH := Lib.hid (fun W (hb : Below w1.heap.size w1 W) => has_no S F T a n c L W (H1.out.2.2.1.below hb) H0.out.2.2.2.2.1 (by unfold maxLen; omega) hr s)
    rw [hr] at HRp
    clear hr
    go_wp2_with fail
    refine HRr.out.mono ?_
    rintro e w2 ⟨rfl, b2⟩
    obtain ⟨c0, c1, c2, c3⟩ := (H1.out.1.keep b2).cells4
    have HB2 := Lib.hid b2
    have hlt2 := (H1.out.1.keep b2).lt
    clear b2
    go_wp2_with fail
    refine (HRp.out w2 HB2.out).mono ?_
    rintro e w3 ⟨rfl, b3⟩
    have HB3 := Lib.hid (HB2.out.trans (b3.mono HB2.out.size))
    obtain ⟨c0, c1, c2, c3⟩ := (H1.out.1.keep HB3.out).cells4
    clear b3
    go_wp2_with fail
    refine (HH.out w3 HB3.out).mono ?_
    rintro e w4 ⟨rfl, b4⟩
    have HB4 := Lib.hid (H1.out.2.1.trans ((HB3.out.trans (b4.mono HB3.out.size)).mono H1.out.2.1.size))
    clear b4 c0 c1 c2 c3
    go_wp2_with fail
    go_ret
    exact ⟨rfl, HB4.out⟩
  · obtain ⟨N, F', T', L', rfl, rfl, rfl, rfl, hO⟩ := right_nat hr
    rw [hr] at HRr
    have hN : N ≤ 60 := by omega
    have hn' : L'.length = n := by have := H0.out.2.2.2.2.1; simpa using this
    have HO := Lib.hid (And.intro hr (And.intro hO hn'))
    clear hr hO hn' hS
    go_wp2_with fail
    refine HRr.out.mono ?_
    rintro e w2 ⟨rfl, b2⟩
    have H2 := Lib.hid (And.intro (H1.out.1.keep b2) (And.intro (H1.out.2.1.trans (b2.mono H1.out.2.1.size)) (And.intro (H1.out.2.2.1.below b2) (H1.out.2.2.2.below b2))))
    obtain ⟨c0, c1, c2, c3⟩ := H2.out.1.cells4
    clear b2
    go_wp2_with fail
    refine (sets_any N F' T' a n c (L'.map En.z) w2 H2.out.2.2.1 H0.out.2.2.2.2.1 (by omega)).mono ?_
    rintro e w3 ⟨aS, nS, cS, rfl, hnS, hoS, b3⟩
    have H3 := Lib.hid (And.intro (H2.out.1.keep b3) (And.intro (H2.out.2.1.trans (b3.mono H2.out.2.1.size)) (And.intro (H2.out.2.2.1.below b3) (And.intro (H2.out.2.2.2.below b3) (And.intro hnS hoS)))))
    have hnSl : nS ≤ 200 := by rw [← hnS]; exact Nat.le_trans (setsOf_len _) (by rw [H0.out.2.2.2.2.1]; omega)
    obtain ⟨c0, c1, c2, c3⟩ := H3.out.1.cells4
    clear b3 hnS hoS
    go_wp2_with fail
    clear c0 c1 c2 c3
    go_loopw [8, 9] (fun v8 v9 wr => ∃ (i k : Nat), v9 = .int .i64 i ∧ i ≤ n ∧ v8 = .int .i64 k ∧ k ≤ i ∧ Hid ((setsOf ((L'.map En.z).take i)).length = k) ∧ Hid (Below w3.heap.size w3 wr)) (fun _ v9 _ => n - (intOf v9).toNat)
    case atStart => exact ⟨0, 0, rfl, Nat.zero_le _, rfl, Nat.zero_le _, rfl, Below.refl _ _⟩
    case round =>
      obtain ⟨i, k, rfl, hin, rfl, hki, HK, HB⟩ := hrel
      obtain ⟨c0, c1, c2, c3⟩ := (H3.out.1.keep HB.out).cells4
      by_cases hlt : i < n
      · have hil : i < (L'.map En.z).length := by rw [H0.out.2.2.2.2.1]; exact hlt
        obtain ⟨ge, off, rfl, hg, e0, e1, e2, e3, e4, e5, e6⟩ := (H3.out.2.2.1.below HB.out).get i hil
        have HS : Hid ((L'.map En.z).take (i + 1) = (L'.map En.z).take i ++ [(L'.map En.z)[i]]) := List.take_succ_eq_append_getElem hil
        have HT : Hid ((L'.map En.z)[i].b = false → ∃ h : (setsOf ((L'.map En.z).take i)).length < (setsOf (L'.map En.z)).length, (setsOf (L'.map En.z))[(setsOf ((L'.map En.z).take i)).length] = (L'.map En.z)[i].p) := fun h => setsOf_take _ i hil h
        generalize (L'.map En.z)[i] = x at e0 e1 e2 e3 e4 e5 e6 HS HT
        obtain ⟨xf, xt, xp, xb⟩ := x
        dsimp only at e0 e1 e2 e3 e4 e5 e6 HS HT
        have i1 : (i : Int) < (n : Int) := by omega
        clear hil
        rcases xb with _ | _
        · obtain ⟨h1, h2⟩ := HT.out rfl
          have hkS : k < nS := by have := HK.out; have := H3.out.2.2.2.2.1; omega
          obtain ⟨gS, rfl, _, _, hcS⟩ := ownsRow_read (ownsRow_keep H3.out.2.2.2.2.2 HB.out) (by omega)
          have hpk : (setsOf (L'.map En.z))[k]? = some xp := by
            have h3 := List.getElem?_eq_getElem h1
            rw [h2] at h3
            rw [← HK.out]; exact h3
          obtain ⟨hkl, hpk2⟩ := List.getElem?_eq_some_iff.1 hpk
          have rd : ∀ j, j < 4 → wr.cell? ⟨gS, k * 4 + j, none⟩ = (stCells xp)[j]? := fun j hj => by rw [(hcS _ (by omega)).1, sts_get _ k hkl j hj, hpk2]
          have q0 : wr.cell? ⟨gS, k * 4, none⟩ = some (.int .u64 ((wd xp 0 : Nat) : Int)) := rd 0 (by omega)
          have q1 : wr.cell? ⟨gS, k * 4 + 1, none⟩ = some (.int .u64 ((wd xp 1 : Nat) : Int)) := rd 1 (by omega)
          have q2 : wr.cell? ⟨gS, k * 4 + 2, none⟩ = some (.int .u64 ((wd xp 2 : Nat) : Int)) := rd 2 (by omega)
          have q3 : wr.cell? ⟨gS, k * 4 + 3, none⟩ = some (.int .u64 ((wd xp 3 : Nat) : Int)) := rd 3 (by omega)
          have HZ : Hid ((setsOf ((L'.map En.z).take (i + 1))).length = k + 1) := by show _ = _; rw [HS.out, setsOf_snoc, if_neg (by simp), List.length_append, HK.out]; rfl
          have i2 : (k : Int) < (nS : Int) := by omega
          have i3 : decide ((nS : Int) ≤ (k : Int)) = false := by simp; omega
          have heq := run_eq_set
          clear h1 h2 hcS hpk hkl hpk2 rd
          go_wp2_with fail
          go_quiet (fail)
          go_wp2_with fail
          go_roundw
          case rel => exact ⟨i + 1, k + 1, by go_num, by omega, by go_num, by omega, HZ, Lib.hid (below_drewN HB.out _)⟩
          case measure => simp [intOf]; omega
        · have HZ : Hid ((setsOf ((L'.map En.z).take (i + 1))).length = k) := by show _ = _; rw [HS.out, setsOf_snoc, if_pos rfl, HK.out]
          go_wp2_with fail
          go_roundw
          case rel => exact ⟨i + 1, k, by go_num, by omega, rfl, by omega, HZ, HB⟩
          case measure => simp [intOf]; omega
      · obtain rfl : i = n := by omega
        obtain rfl : k = nS := by have := HK.out; have := H3.out.2.2.2.2.1; rw [List.take_of_length_le (by rw [H0.out.2.2.2.2.1]; exact Nat.le_refl _)] at *; omega
        have hFN := HO.out.2.1.f
        have hTN := HO.out.2.1.t
        have HBW := Lib.hid (H3.out.2.1.trans (HB.out.mono H3.out.2.1.size))
        have hbex : ∃ (bt : Nat) (nz : Bool), bt < 256 ∧ s.toList.isEmpty = !nz ∧ (nz = true → ∃ h : 0 < s.size, (s[0]'h).toNat = bt) ∧ (nz = false → bt = 0) := by
          by_cases hq0 : 0 < s.size
          · exact ⟨(s[0]'hq0).toNat, true, UInt8.toNat_lt _, ne_empty s hq0, fun _ => ⟨hq0, rfl⟩, (fun h => by cases h)⟩
          · refine ⟨0, false, by omega, ?_, (fun h => by cases h), fun _ => rfl⟩
            rw [ByteArray.toList_eq]
            have h0 : s.data.size = 0 := by show s.size = 0; omega
            rw [Array.eq_empty_of_size_eq_zero h0]; rfl
        obtain ⟨bt, nz, hbt, hnz, hy, hno⟩ := hbex
        have hnz2 : (!s.toList.isEmpty) = nz := by rw [hnz, Bool.not_not]
        have HY := Lib.hid (And.intro hy hno)
        clear hy hno
        go_upto_if 79 with (fail)
        go_cut [10] from 80 to 81 (fun v wx => v = .int .u8 ((bt : Nat) : Int) ∧ wx = wr)
        case first =>
          rcases nz with _ | _
          · have h0 := HY.out.2 rfl
            go_wp2_with fail
            go_meet
            exact ⟨by rw [h0]; rfl, rfl⟩
          · obtain ⟨h0, hbe⟩ := HY.out.1 rfl
            go_wp2_with fail
            go_meet
            exact ⟨rfl, rfl⟩
        case rest =>
          obtain ⟨rfl, rfl⟩ := hcut
          obtain ⟨V, hV⟩ : ∃ V, V = wc := ⟨_, rfl⟩
          have hVS := H3.out.1.keep HB.out
          have hVL := H3.out.2.2.1.below HB.out
          have hVI := H3.out.2.2.2.1.below HB.out
          rw [← hV] at hVS hVL hVI HBW c0 c1 c2 c3
          have HVw := HBW
          have hlV := hVS.lt
          have HSo : Hid (∀ W', Below V.heap.size V W' → Below V.heap.size V W' ∧ W'.cell? ⟨w.heap.size, 0, none⟩ = some (.int .i64 ((N : Nat) : Int)) ∧ W'.cell? ⟨w.heap.size, 1, none⟩ = some (.slice a i c) ∧ W'.cell? ⟨w.heap.size, 2, none⟩ = some (.int .i64 ((F' : Nat) : Int)) ∧ W'.cell? ⟨w.heap.size, 3, none⟩ = some (.int .i64 ((T' : Nat) : Int))) := fun W' h => ⟨h, (h.cell (p := ⟨w.heap.size, 0, none⟩) hlV).trans c0, (h.cell (p := ⟨w.heap.size, 1, none⟩) hlV).trans c1, (h.cell (p := ⟨w.heap.size, 2, none⟩) hlV).trans c2, (h.cell (p := ⟨w.heap.size, 3, none⟩) hlV).trans c3⟩
          have hwb : IntKind.i64.wrap ((bt : Nat) : Int) = ((bt : Nat) : Int) := IntWalk.i64_in _ (by omega)
          have C1 := Lib.hid (fun W (hb : Below V.heap.size V W) => right_any N F' T' a i c (L'.map En.z) W (hVL.below hb) H0.out.2.2.2.2.1 (by unfold maxLen; omega))
          rw [HO.out.1] at C1
          have C2 := Lib.hid (fun W (hb : Below V.heap.size V W) => close_any L' N F' T' HO.out.2.1 HO.out.1 hN a i c W (hVL.below hb) HO.out.2.2 (by omega) ai m ci g (hVI.below hb) (by omega))
          have C3 := Lib.hid (fun W (hb : Below V.heap.size V W) => rclose_any L' N F' T' HO.out.2.1 (by omega) a i c W (hVL.below hb) HO.out.2.2 (by omega) ai m ci g (hVI.below hb) (by omega))
          have C4 := Lib.hid (fun W (hb : Below V.heap.size V W) => move_any L' N F' T' HO.out.2.1 HO.out.1 hN a i c W (hVL.below hb) HO.out.2.2 (by omega) ai m ci g (hVI.below hb) (by omega) bt hbt)
          have C5 := Lib.hid (fun W (hb : Below V.heap.size V W) => rmove_any L' N F' T' HO.out.2.1 (by omega) a i c W (hVL.below hb) HO.out.2.2 (by omega) ai m ci g (hVI.below hb) (by omega) bt hbt)
          have C6 := Lib.hid (fun W (hb : Below V.heap.size V W) => has_yes L' N F' T' HO.out.2.1 HO.out.1 (by omega) a i c W (hVL.below hb) HO.out.2.2 (by omega) s q H0.out.2.2.2.2.2 (by omega))
          have C7 := Lib.hid (fun W (hb : Below V.heap.size V W) => rrun_any L' N F' T' HO.out.2.1 (by omega) a i c W (hVL.below hb) HO.out.2.2 (by omega) s q H0.out.2.2.2.2.2 (by omega))
          have i1 : (T' : Int) < (N : Int) := by omega
          rw [← hV]
          clear hVS hVL hVI hV hlV hnz hnz2 HY hss
          go_wp2_with fail
          -- REG19
          refine wp_region_held_drew (S := fun W' => Below V.heap.size V W' ∧ W'.cell? ⟨w.heap.size, 0, none⟩ = some (.int .i64 ((N : Nat) : Int)) ∧ W'.cell? ⟨w.heap.size, 1, none⟩ = some (.slice a i c) ∧ W'.cell? ⟨w.heap.size, 2, none⟩ = some (.int .i64 ((F' : Nat) : Int)) ∧ W'.cell? ⟨w.heap.size, 3, none⟩ = some (.int .i64 ((T' : Nat) : Int))) (by kernel_rfl) (HSo.out _ (Below.refl _ _).drew) (fun hHeld => ?_)
          (refine wpAnyH_take (i := 0) (oi := ?_) (v := ?_) ?_ (by kernel_rfl) (by kernel_rfl) (by kernel_rfl) ?_ (Or.inl ⟨?_, ?_⟩) (by assumption) ?_; rotate_left 2; (focus ((simp only [List.getElem?_toArray, List.getElem?_cons_zero]); first | done | rfl)); (focus (exact fun _ _ _ h => h)); (focus rfl); (focus (intro wz hSw; (try dsimp only at hSw); go_simp; first | done | with_reducible rfl)); try simp only [Act.put, List.setIfInBounds_toArray, List.set_cons_zero, List.set_cons_succ])
          (refine wpAnyH_take (i := 1) (oi := ?_) (v := ?_) ?_ (by kernel_rfl) (by kernel_rfl) (by kernel_rfl) ?_ (Or.inl ⟨?_, ?_⟩) (by assumption) ?_; rotate_left 2; (focus ((simp only [List.getElem?_toArray, List.getElem?_cons_succ, List.getElem?_cons_zero]); first | done | rfl)); (focus (exact fun _ _ _ h => h)); (focus rfl); (focus (intro wz hSw; (try dsimp only at hSw); go_simp; first | done | with_reducible rfl)); try simp only [Act.put, List.setIfInBounds_toArray, List.set_cons_zero, List.set_cons_succ])
          (refine wpAnyH_take (i := 2) (oi := ?_) (v := ?_) ?_ (by kernel_rfl) (by kernel_rfl) (by kernel_rfl) ?_ (Or.inl ⟨?_, ?_⟩) (by assumption) ?_; rotate_left 2; (focus ((simp only [List.getElem?_toArray, List.getElem?_cons_succ, List.getElem?_cons_zero]); first | done | rfl)); (focus (exact fun _ _ _ h => h)); (focus rfl); (focus (intro wz hSw; (try dsimp only at hSw); go_simp; first | done | with_reducible rfl)); try simp only [Act.put, List.setIfInBounds_toArray, List.set_cons_zero, List.set_cons_succ])
          (refine wpAnyH_take (i := 3) (oi := ?_) (v := ?_) ?_ (by kernel_rfl) (by kernel_rfl) (by kernel_rfl) ?_ (Or.inl ⟨?_, ?_⟩) (by assumption) ?_; rotate_left 2; (focus ((simp only [List.getElem?_toArray, List.getElem?_cons_succ, List.getElem?_cons_zero]); first | done | rfl)); (focus (exact fun _ _ _ h => h)); (focus rfl); (focus (intro wz hSw; (try dsimp only at hSw); go_simp; first | done | with_reducible rfl)); try simp only [Act.put, List.setIfInBounds_toArray, List.set_cons_zero, List.set_cons_succ])
          (refine wpAnyH_take (i := 4) (oi := ?_) (v := ?_) ?_ (by kernel_rfl) (by kernel_rfl) (by kernel_rfl) ?_ (Or.inl ⟨?_, ?_⟩) (by assumption) ?_; rotate_left 2; (focus ((simp only [List.getElem?_toArray, List.getElem?_cons_succ, List.getElem?_cons_zero]); first | done | rfl)); (focus (exact fun _ _ _ h => h)); (focus rfl); (focus (intro wz hSw; (try dsimp only at hSw); go_simp; first | done | with_reducible rfl)); try simp only [Act.put, List.setIfInBounds_toArray, List.set_cons_zero, List.set_cons_succ])
          (refine wpAnyH_take (i := 5) (oi := ?_) (v := ?_) ?_ (by kernel_rfl) (by kernel_rfl) (by kernel_rfl) ?_ (Or.inl ⟨?_, ?_⟩) (by assumption) ?_; rotate_left 2; (focus ((simp only [List.getElem?_toArray, List.getElem?_cons_succ, List.getElem?_cons_zero]); first | done | rfl)); (focus (exact fun _ _ _ h => h)); (focus rfl); (focus (intro wz hSw; (try dsimp only at hSw); go_simp; first | done | with_reducible rfl)); try simp only [Act.put, List.setIfInBounds_toArray, List.set_cons_zero, List.set_cons_succ])
          refine wpAnyH_ready (rs := [6]) (by kernel_rfl) (by simp) ?_
          refine AllReadyH.cons (o := ?_) ?_ (fun K hK => ?_) ?_
          rotate_left
          (focus ((simp only [List.getElem?_toArray, List.getElem?_cons_succ, List.getElem?_cons_zero]); first | done | rfl))
          · skip
            go_simp
            go_at_call 10
            refine (C1.out _ hHeld.1).mono ?_
            rintro e wa ⟨rfl, va⟩
            have hbn : Below V.heap.size V wa := hHeld.1.trans (va.mono hHeld.1.size)
            try go_wp2_with fail
            refine hK.out _ _ (HSo.out _ hbn) (fun hHeld => ?_)
            clear hK K hbn
            try simp only [Act.put, List.setIfInBounds_toArray, List.set_cons_zero, List.set_cons_succ]
            (refine wpAnyH_take (i := 7) (oi := ?_) (v := ?_) ?_ (by kernel_rfl) (by kernel_rfl) (by kernel_rfl) ?_ (Or.inl ⟨?_, ?_⟩) (by assumption) ?_; rotate_left 2; (focus ((simp only [List.getElem?_toArray, List.getElem?_cons_succ, List.getElem?_cons_zero]); first | done | rfl)); (focus (exact fun _ _ _ h => h)); (focus rfl); (focus (intro wz hSw; (try dsimp only at hSw); go_simp; first | done | with_reducible rfl)); try simp only [Act.put, List.setIfInBounds_toArray, List.set_cons_zero, List.set_cons_succ])
            (refine wpAnyH_take (i := 8) (oi := ?_) (v := ?_) ?_ (by kernel_rfl) (by kernel_rfl) (by kernel_rfl) ?_ (Or.inl ⟨?_, ?_⟩) (by assumption) ?_; rotate_left 2; (focus ((simp only [List.getElem?_toArray, List.getElem?_cons_succ, List.getElem?_cons_zero]); first | done | rfl)); (focus (exact fun _ _ _ h => h)); (focus rfl); (focus (intro wz hSw; (try dsimp only at hSw); go_simp; first | done | with_reducible rfl)); try simp only [Act.put, List.setIfInBounds_toArray, List.set_cons_zero, List.set_cons_succ])
            (refine wpAnyH_take (i := 9) (oi := ?_) (v := ?_) ?_ (by kernel_rfl) (by kernel_rfl) (by kernel_rfl) ?_ (Or.inl ⟨?_, ?_⟩) (by assumption) ?_; rotate_left 2; (focus ((simp only [List.getElem?_toArray, List.getElem?_cons_succ, List.getElem?_cons_zero]); first | done | rfl)); (focus (exact fun _ _ _ h => h)); (focus rfl); (focus (intro wz hSw; (try dsimp only at hSw); go_simp; first | done | with_reducible rfl)); try simp only [Act.put, List.setIfInBounds_toArray, List.set_cons_zero, List.set_cons_succ])
            (refine wpAnyH_take (i := 10) (oi := ?_) (v := ?_) ?_ (by kernel_rfl) (by kernel_rfl) (by kernel_rfl) ?_ (Or.inl ⟨?_, ?_⟩) (by assumption) ?_; rotate_left 2; (focus ((simp only [List.getElem?_toArray, List.getElem?_cons_succ, List.getElem?_cons_zero]); first | done | rfl)); (focus (exact fun _ _ _ h => h)); (focus rfl); (focus (intro wz hSw; (try dsimp only at hSw); go_simp; first | done | with_reducible rfl)); try simp only [Act.put, List.setIfInBounds_toArray, List.set_cons_zero, List.set_cons_succ])
            (refine wpAnyH_take (i := 12) (oi := ?_) (v := ?_) ?_ (by kernel_rfl) (by kernel_rfl) (by kernel_rfl) ?_ (Or.inl ⟨?_, ?_⟩) (by assumption) ?_; rotate_left 2; (focus ((simp only [List.getElem?_toArray, List.getElem?_cons_succ, List.getElem?_cons_zero]); first | done | rfl)); (focus (exact fun _ _ _ h => h)); (focus rfl); (focus (intro wz hSw; (try dsimp only at hSw); go_simp; first | done | with_reducible rfl)); try simp only [Act.put, List.setIfInBounds_toArray, List.set_cons_zero, List.set_cons_succ])
            (refine wpAnyH_take (i := 13) (oi := ?_) (v := ?_) ?_ (by kernel_rfl) (by kernel_rfl) (by kernel_rfl) ?_ (Or.inl ⟨?_, ?_⟩) (by assumption) ?_; rotate_left 2; (focus ((simp only [List.getElem?_toArray, List.getElem?_cons_succ, List.getElem?_cons_zero]); first | done | rfl)); (focus (exact fun _ _ _ h => h)); (focus rfl); (focus (intro wz hSw; (try dsimp only at hSw); go_simp; first | done | with_reducible rfl)); try simp only [Act.put, List.setIfInBounds_toArray, List.set_cons_zero, List.set_cons_succ])
            refine wpAnyH_ready (rs := [11]) (by kernel_rfl) (by simp) ?_
            refine AllReadyH.cons (o := ?_) ?_ (fun K hK => ?_) ?_
            rotate_left
            (focus ((simp only [List.getElem?_toArray, List.getElem?_cons_succ, List.getElem?_cons_zero]); first | done | rfl))
            · skip
              go_simp
              go_at_call 14
              refine (C2.out _ hHeld.1).mono ?_
              rintro e wb ⟨f2, a2, c2, rfl, ho2, hf2, vb⟩
              have hbn : Below V.heap.size V wb := hHeld.1.trans (vb.mono hHeld.1.size)
              have O2 := Lib.hid (And.intro (bls_at ho2) hf2)
              clear ho2 hf2 vb
              try go_wp2_with fail
              refine hK.out _ _ (HSo.out _ hbn) (fun hHeld => ?_)
              clear hK K hbn
              try simp only [Act.put, List.setIfInBounds_toArray, List.set_cons_zero, List.set_cons_succ]
              refine wpAnyH_ready (rs := [14]) (by kernel_rfl) (by simp) ?_
              refine AllReadyH.cons (o := ?_) ?_ (fun K hK => ?_) ?_
              rotate_left
              (focus ((simp only [List.getElem?_toArray, List.getElem?_cons_succ, List.getElem?_cons_zero]); first | done | rfl))
              · skip
                go_simp
                go_at_call 15
                refine (C3.out _ hHeld.1).mono ?_
                rintro e wc ⟨f3, a3, c3, rfl, ho3, hf3, vc⟩
                have hbn : Below V.heap.size V wc := hHeld.1.trans (vc.mono hHeld.1.size)
                have O3 := Lib.hid (And.intro (O2.out.1.below vc) (And.intro (bls_at ho3) hf3))
                clear ho3 hf3 vc
                try go_wp2_with fail
                refine hK.out _ _ (HSo.out _ hbn) (fun hHeld => ?_)
                clear hK K hbn
                try simp only [Act.put, List.setIfInBounds_toArray, List.set_cons_zero, List.set_cons_succ]
                refine wpAnyH_ready (rs := [15]) (by kernel_rfl) (by simp) ?_
                refine AllReadyH.cons (o := ?_) ?_ (fun K hK => ?_) ?_
                rotate_left
                (focus ((simp only [List.getElem?_toArray, List.getElem?_cons_succ, List.getElem?_cons_zero]); first | done | rfl))
                · skip
                  go_simp
                  go_at_call 13
                  refine (same_yes N c2 c3 a2 a3 f2 f3 (by omega) _ O3.out.1 O3.out.2.1 (fun j _ => by rw [Bool.eq_iff_iff, O2.out.2 j, O3.out.2.2 j])).mono ?_
                  rintro e wd ⟨rfl, vd⟩
                  have hbn : Below V.heap.size V wd := hHeld.1.trans (vd.mono hHeld.1.size)
                  clear vd
                  try go_wp2_with fail
                  refine hK.out _ _ (HSo.out _ hbn) (fun hHeld => ?_)
                  clear hK K hbn
                  try simp only [Act.put, List.setIfInBounds_toArray, List.set_cons_zero, List.set_cons_succ]
                  (refine wpAnyH_take (i := 16) (oi := ?_) (v := ?_) ?_ (by kernel_rfl) (by kernel_rfl) (by kernel_rfl) ?_ (Or.inl ⟨?_, ?_⟩) (by assumption) ?_; rotate_left 2; (focus ((simp only [List.getElem?_toArray, List.getElem?_cons_succ, List.getElem?_cons_zero]); first | done | rfl)); (focus (exact fun _ _ _ h => h)); (focus rfl); (focus (intro wz hSw; (try dsimp only at hSw); go_simp; first | done | with_reducible rfl)); try simp only [Act.put, List.setIfInBounds_toArray, List.set_cons_zero, List.set_cons_succ])
                  (refine wpAnyH_take (i := 17) (oi := ?_) (v := ?_) ?_ (by kernel_rfl) (by kernel_rfl) (by kernel_rfl) ?_ (Or.inl ⟨?_, ?_⟩) (by assumption) ?_; rotate_left 2; (focus ((simp only [List.getElem?_toArray, List.getElem?_cons_succ, List.getElem?_cons_zero]); first | done | rfl)); (focus (exact fun _ _ _ h => h)); (focus rfl); (focus (intro wz hSw; (try dsimp only at hSw); go_simp; first | done | with_reducible rfl)); try simp only [Act.put, List.setIfInBounds_toArray, List.set_cons_zero, List.set_cons_succ])
                  (refine wpAnyH_take (i := 18) (oi := ?_) (v := ?_) ?_ (by kernel_rfl) (by kernel_rfl) (by kernel_rfl) ?_ (Or.inl ⟨?_, ?_⟩) (by assumption) ?_; rotate_left 2; (focus ((simp only [List.getElem?_toArray, List.getElem?_cons_succ, List.getElem?_cons_zero]); first | done | rfl)); (focus (exact fun _ _ _ h => h)); (focus rfl); (focus (intro wz hSw; (try dsimp only at hSw); go_simp; first | done | with_reducible rfl)); try simp only [Act.put, List.setIfInBounds_toArray, List.set_cons_zero, List.set_cons_succ])
                  (refine wpAnyH_take (i := 19) (oi := ?_) (v := ?_) ?_ (by kernel_rfl) (by kernel_rfl) (by kernel_rfl) ?_ (Or.inl ⟨?_, ?_⟩) (by assumption) ?_; rotate_left 2; (focus ((simp only [List.getElem?_toArray, List.getElem?_cons_succ, List.getElem?_cons_zero]); first | done | rfl)); (focus (exact fun _ _ _ h => h)); (focus rfl); (focus (intro wz hSw; (try dsimp only at hSw); go_simp; first | done | with_reducible rfl)); try simp only [Act.put, List.setIfInBounds_toArray, List.set_cons_zero, List.set_cons_succ])
                  (refine wpAnyH_take (i := 20) (oi := ?_) (v := ?_) ?_ (by kernel_rfl) (by kernel_rfl) (by kernel_rfl) ?_ (Or.inl ⟨?_, ?_⟩) (by assumption) ?_; rotate_left 2; (focus ((simp only [List.getElem?_toArray, List.getElem?_cons_succ, List.getElem?_cons_zero]); first | done | rfl)); (focus (exact fun _ _ _ h => h)); (focus rfl); (focus (intro wz hSw; (try dsimp only at hSw); go_simp; first | done | with_reducible rfl)); try simp only [Act.put, List.setIfInBounds_toArray, List.set_cons_zero, List.set_cons_succ])
                  (refine wpAnyH_take (i := 22) (oi := ?_) (v := ?_) ?_ (by kernel_rfl) (by kernel_rfl) (by kernel_rfl) ?_ (Or.inl ⟨?_, ?_⟩) (by assumption) ?_; rotate_left 2; (focus ((simp only [List.getElem?_toArray, List.getElem?_cons_succ, List.getElem?_cons_zero]); first | done | rfl)); (focus (exact fun _ _ _ h => h)); (focus rfl); (focus (intro wz hSw; (try dsimp only at hSw); go_simp; first | done | with_reducible rfl)); try simp only [Act.put, List.setIfInBounds_toArray, List.set_cons_zero, List.set_cons_succ])
                  (refine wpAnyH_take (i := 23) (oi := ?_) (v := ?_) ?_ (by kernel_rfl) (by kernel_rfl) (by kernel_rfl) ?_ (Or.inl ⟨?_, ?_⟩) (by assumption) ?_; rotate_left 2; (focus ((simp only [List.getElem?_toArray, List.getElem?_cons_succ, List.getElem?_cons_zero]); first | done | rfl)); (focus (exact fun _ _ _ h => h)); (focus rfl); (focus (intro wz hSw; (try dsimp only at hSw); go_simp; first | done | with_reducible rfl)); try simp only [Act.put, List.setIfInBounds_toArray, List.set_cons_zero, List.set_cons_succ])
                  (refine wpAnyH_take (i := 24) (oi := ?_) (v := ?_) ?_ (by kernel_rfl) (by kernel_rfl) (by kernel_rfl) ?_ (Or.inl ⟨?_, ?_⟩) (by assumption) ?_; rotate_left 2; (focus ((simp only [List.getElem?_toArray, List.getElem?_cons_succ, List.getElem?_cons_zero]); first | done | rfl)); (focus (exact fun _ _ _ h => h)); (focus rfl); (focus (intro wz hSw; (try dsimp only at hSw); go_simp; first | done | with_reducible rfl)); try simp only [Act.put, List.setIfInBounds_toArray, List.set_cons_zero, List.set_cons_succ])
                  (refine wpAnyH_take (i := 25) (oi := ?_) (v := ?_) ?_ (by kernel_rfl) (by kernel_rfl) (by kernel_rfl) ?_ (Or.inl ⟨?_, ?_⟩) (by assumption) ?_; rotate_left 2; (focus ((simp only [List.getElem?_toArray, List.getElem?_cons_succ, List.getElem?_cons_zero]); first | done | rfl)); (focus (exact fun _ _ _ h => h)); (focus rfl); (focus (intro wz hSw; (try dsimp only at hSw); go_simp; first | done | with_reducible rfl)); try simp only [Act.put, List.setIfInBounds_toArray, List.set_cons_zero, List.set_cons_succ])
                  refine wpAnyH_ready (rs := [21]) (by kernel_rfl) (by simp) ?_
                  refine AllReadyH.cons (o := ?_) ?_ (fun K hK => ?_) ?_
                  rotate_left
                  (focus ((simp only [List.getElem?_toArray, List.getElem?_cons_succ, List.getElem?_cons_zero]); first | done | rfl))
                  · skip
                    go_simp
                    go_at_call 16
                    refine (C4.out _ hHeld.1).mono ?_
                    rintro e wf ⟨f4, a4, c4, rfl, ho4, hf4, vf⟩
                    have hbn : Below V.heap.size V wf := hHeld.1.trans (vf.mono hHeld.1.size)
                    have O4 := Lib.hid (And.intro (bls_at ho4) hf4)
                    clear ho4 hf4 vf
                    try go_wp2_with fail
                    refine hK.out _ _ (HSo.out _ hbn) (fun hHeld => ?_)
                    clear hK K hbn
                    try simp only [Act.put, List.setIfInBounds_toArray, List.set_cons_zero, List.set_cons_succ]
                    refine wpAnyH_ready (rs := [26]) (by kernel_rfl) (by simp) ?_
                    refine AllReadyH.cons (o := ?_) ?_ (fun K hK => ?_) ?_
                    rotate_left
                    (focus ((simp only [List.getElem?_toArray, List.getElem?_cons_succ, List.getElem?_cons_zero]); first | done | rfl))
                    · skip
                      go_simp
                      go_at_call 17
                      refine (C5.out _ hHeld.1).mono ?_
                      rintro e wg ⟨f5, a5, c5, rfl, ho5, hf5, vg⟩
                      have hbn : Below V.heap.size V wg := hHeld.1.trans (vg.mono hHeld.1.size)
                      have O5 := Lib.hid (And.intro (O4.out.1.below vg) (And.intro (bls_at ho5) hf5))
                      clear ho5 hf5 vg
                      try go_wp2_with fail
                      refine hK.out _ _ (HSo.out _ hbn) (fun hHeld => ?_)
                      clear hK K hbn
                      try simp only [Act.put, List.setIfInBounds_toArray, List.set_cons_zero, List.set_cons_succ]
                      refine wpAnyH_ready (rs := [27]) (by kernel_rfl) (by simp) ?_
                      refine AllReadyH.cons (o := ?_) ?_ (fun K hK => ?_) ?_
                      rotate_left
                      (focus ((simp only [List.getElem?_toArray, List.getElem?_cons_succ, List.getElem?_cons_zero]); first | done | rfl))
                      · skip
                        go_simp
                        go_at_call 13
                        refine (same_yes N c4 c5 a4 a5 f4 f5 (by omega) _ O5.out.1 O5.out.2.1 (fun j _ => by rw [Bool.eq_iff_iff, O4.out.2 j, O5.out.2.2 j])).mono ?_
                        rintro e wh ⟨rfl, vh⟩
                        have hbn : Below V.heap.size V wh := hHeld.1.trans (vh.mono hHeld.1.size)
                        clear vh
                        try go_wp2_with fail
                        refine hK.out _ _ (HSo.out _ hbn) (fun hHeld => ?_)
                        clear hK K hbn
                        try simp only [Act.put, List.setIfInBounds_toArray, List.set_cons_zero, List.set_cons_succ]
                        (refine wpAnyH_take (i := 28) (oi := ?_) (v := ?_) ?_ (by kernel_rfl) (by kernel_rfl) (by kernel_rfl) ?_ (Or.inl ⟨?_, ?_⟩) (by assumption) ?_; rotate_left 2; (focus ((simp only [List.getElem?_toArray, List.getElem?_cons_succ, List.getElem?_cons_zero]); first | done | rfl)); (focus (exact fun _ _ _ h => h)); (focus rfl); (focus (intro wz hSw; (try dsimp only at hSw); go_simp; first | done | with_reducible rfl)); try simp only [Act.put, List.setIfInBounds_toArray, List.set_cons_zero, List.set_cons_succ])
                        (refine wpAnyH_take (i := 29) (oi := ?_) (v := ?_) ?_ (by kernel_rfl) (by kernel_rfl) (by kernel_rfl) ?_ (Or.inl ⟨?_, ?_⟩) (by assumption) ?_; rotate_left 2; (focus ((simp only [List.getElem?_toArray, List.getElem?_cons_succ, List.getElem?_cons_zero]); first | done | rfl)); (focus (exact fun _ _ _ h => h)); (focus rfl); (focus (intro wz hSw; (try dsimp only at hSw); go_simp; first | done | with_reducible rfl)); try simp only [Act.put, List.setIfInBounds_toArray, List.set_cons_zero, List.set_cons_succ])
                        (refine wpAnyH_take (i := 30) (oi := ?_) (v := ?_) ?_ (by kernel_rfl) (by kernel_rfl) (by kernel_rfl) ?_ (Or.inl ⟨?_, ?_⟩) (by assumption) ?_; rotate_left 2; (focus ((simp only [List.getElem?_toArray, List.getElem?_cons_succ, List.getElem?_cons_zero]); first | done | rfl)); (focus (exact fun _ _ _ h => h)); (focus rfl); (focus (intro wz hSw; (try dsimp only at hSw); go_simp; first | done | with_reducible rfl)); try simp only [Act.put, List.setIfInBounds_toArray, List.set_cons_zero, List.set_cons_succ])
                        (refine wpAnyH_take (i := 31) (oi := ?_) (v := ?_) ?_ (by kernel_rfl) (by kernel_rfl) (by kernel_rfl) ?_ (Or.inl ⟨?_, ?_⟩) (by assumption) ?_; rotate_left 2; (focus ((simp only [List.getElem?_toArray, List.getElem?_cons_succ, List.getElem?_cons_zero]); first | done | rfl)); (focus (exact fun _ _ _ h => h)); (focus rfl); (focus (intro wz hSw; (try dsimp only at hSw); go_simp; first | done | with_reducible rfl)); try simp only [Act.put, List.setIfInBounds_toArray, List.set_cons_zero, List.set_cons_succ])
                        (refine wpAnyH_take (i := 33) (oi := ?_) (v := ?_) ?_ (by kernel_rfl) (by kernel_rfl) (by kernel_rfl) ?_ (Or.inl ⟨?_, ?_⟩) (by assumption) ?_; rotate_left 2; (focus ((simp only [List.getElem?_toArray, List.getElem?_cons_succ, List.getElem?_cons_zero]); first | done | rfl)); (focus (exact fun _ _ _ h => h)); (focus rfl); (focus (intro wz hSw; (try dsimp only at hSw); go_simp; first | done | with_reducible rfl)); try simp only [Act.put, List.setIfInBounds_toArray, List.set_cons_zero, List.set_cons_succ])
                        (refine wpAnyH_take (i := 34) (oi := ?_) (v := ?_) ?_ (by kernel_rfl) (by kernel_rfl) (by kernel_rfl) ?_ (Or.inl ⟨?_, ?_⟩) (by assumption) ?_; rotate_left 2; (focus ((simp only [List.getElem?_toArray, List.getElem?_cons_succ, List.getElem?_cons_zero]); first | done | rfl)); (focus (exact fun _ _ _ h => h)); (focus rfl); (focus (intro wz hSw; (try dsimp only at hSw); go_simp; first | done | with_reducible rfl)); try simp only [Act.put, List.setIfInBounds_toArray, List.set_cons_zero, List.set_cons_succ])
                        (refine wpAnyH_take (i := 36) (oi := ?_) (v := ?_) ?_ (by kernel_rfl) (by kernel_rfl) (by kernel_rfl) ?_ (Or.inl ⟨?_, ?_⟩) (by assumption) ?_; rotate_left 2; (focus ((simp only [List.getElem?_toArray, List.getElem?_cons_succ, List.getElem?_cons_zero]); first | done | rfl)); (focus (exact fun _ _ _ h => h)); (focus rfl); (focus (intro wz hSw; (try dsimp only at hSw); go_simp; first | done | with_reducible rfl)); try simp only [Act.put, List.setIfInBounds_toArray, List.set_cons_zero, List.set_cons_succ])
                        (refine wpAnyH_take (i := 37) (oi := ?_) (v := ?_) ?_ (by kernel_rfl) (by kernel_rfl) (by kernel_rfl) ?_ (Or.inl ⟨?_, ?_⟩) (by assumption) ?_; rotate_left 2; (focus ((simp only [List.getElem?_toArray, List.getElem?_cons_succ, List.getElem?_cons_zero]); first | done | rfl)); (focus (exact fun _ _ _ h => h)); (focus rfl); (focus (intro wz hSw; (try dsimp only at hSw); go_simp; first | done | with_reducible rfl)); try simp only [Act.put, List.setIfInBounds_toArray, List.set_cons_zero, List.set_cons_succ])
                        refine wpAnyH_ready (rs := [32]) (by kernel_rfl) (by simp) ?_
                        refine AllReadyH.cons (o := ?_) ?_ (fun K hK => ?_) ?_
                        rotate_left
                        (focus ((simp only [List.getElem?_toArray, List.getElem?_cons_succ, List.getElem?_cons_zero]); first | done | rfl))
                        · skip
                          go_simp
                          go_at_call 11
                          refine (C6.out _ hHeld.1).mono ?_
                          rintro e wi ⟨x, rfl, hx, vi⟩
                          have hbn : Below V.heap.size V wi := hHeld.1.trans (vi.mono hHeld.1.size)
                          have O6 := Lib.hid hx
                          clear hx vi
                          try go_wp2_with fail
                          refine hK.out _ _ (HSo.out _ hbn) (fun hHeld => ?_)
                          clear hK K hbn
                          try simp only [Act.put, List.setIfInBounds_toArray, List.set_cons_zero, List.set_cons_succ]
                          refine wpAnyH_ready (rs := [35]) (by kernel_rfl) (by simp) ?_
                          refine AllReadyH.cons (o := ?_) ?_ (fun K hK => ?_) ?_
                          rotate_left
                          (focus ((simp only [List.getElem?_toArray, List.getElem?_cons_succ, List.getElem?_cons_zero]); first | done | rfl))
                          · skip
                            go_simp
                            go_at_call 18
                            refine (C7.out _ hHeld.1).mono ?_
                            rintro e wj ⟨f7, a7, c7, rfl, ho7, hf7, vj⟩
                            have hbn : Below V.heap.size V wj := hHeld.1.trans (vj.mono hHeld.1.size)
                            obtain ⟨g7, rfl, _, _, hc7⟩ := ownsRow_read ho7 (by omega)
                            have r7 : wj.cell? ⟨g7, T', none⟩ = some (.bool x) := by rw [(hc7 T' (by omega)).1, show x = f7 T' by rw [Bool.eq_iff_iff, O6.out, hf7]]; simp [bls, hTN]
                            clear hc7 ho7 hf7 vj
                            try go_wp2_with fail
                            refine hK.out _ _ (HSo.out _ hbn) (fun hHeld => ?_)
                            clear hK K hbn
                            try simp only [Act.put, List.setIfInBounds_toArray, List.set_cons_zero, List.set_cons_succ]
                            (refine wpAnyH_take (i := 38) (oi := ?_) (v := ?_) ?_ (by kernel_rfl) (by kernel_rfl) (by kernel_rfl) ?_ (Or.inl ⟨?_, ?_⟩) (by assumption) ?_; rotate_left 2; (focus ((simp only [List.getElem?_toArray, List.getElem?_cons_succ, List.getElem?_cons_zero]); first | done | rfl)); (focus (exact fun _ _ _ h => h)); (focus rfl); (focus (intro wz hSw; (try dsimp only at hSw); go_simp; first | done | with_reducible rfl)); try simp only [Act.put, List.setIfInBounds_toArray, List.set_cons_zero, List.set_cons_succ])
                            refine wpAnyH_ready (rs := [39]) (by kernel_rfl) (by simp) ?_
                            refine AllReadyH.cons (o := ?_) ?_ (fun K hK => ?_) ?_
                            rotate_left
                            (focus ((simp only [List.getElem?_toArray, List.getElem?_cons_succ, List.getElem?_cons_zero]); first | done | rfl))
                            · skip
                              go_simp
                              refine hK.out _ _ (HSo.out _ hHeld.1) (fun hHeld => ?_)
                              clear hK K
                              try simp only [Act.put, List.setIfInBounds_toArray, List.set_cons_zero, List.set_cons_succ]
                              (refine wpAnyH_take (i := 40) (oi := ?_) (v := ?_) ?_ (by kernel_rfl) (by kernel_rfl) (by kernel_rfl) ?_ (Or.inl ⟨?_, ?_⟩) (by assumption) ?_; rotate_left 2; (focus ((simp only [List.getElem?_toArray, List.getElem?_cons_succ, List.getElem?_cons_zero]); first | done | rfl)); (focus (exact fun _ _ _ h => h)); (focus rfl); (focus (intro wz hSw; (try dsimp only at hSw); go_simp; first | done | with_reducible rfl)); try simp only [Act.put, List.setIfInBounds_toArray, List.set_cons_zero, List.set_cons_succ])
                              (refine wpAnyH_take (i := 41) (oi := ?_) (v := ?_) ?_ (by kernel_rfl) (by kernel_rfl) (by kernel_rfl) ?_ (Or.inl ⟨?_, ?_⟩) (by assumption) ?_; rotate_left 2; (focus ((simp only [List.getElem?_toArray, List.getElem?_cons_succ, List.getElem?_cons_zero]); first | done | rfl)); (focus (exact fun _ _ _ h => h)); (focus rfl); (focus (intro wz hSw; (try dsimp only at hSw); go_simp; first | done | with_reducible rfl)); try simp only [Act.put, List.setIfInBounds_toArray, List.set_cons_zero, List.set_cons_succ])
                              (refine wpAnyH_take (i := 42) (oi := ?_) (v := ?_) ?_ (by kernel_rfl) (by kernel_rfl) (by kernel_rfl) ?_ (Or.inl ⟨?_, ?_⟩) (by assumption) ?_; rotate_left 2; (focus ((simp only [List.getElem?_toArray, List.getElem?_cons_succ, List.getElem?_cons_zero]); first | done | rfl)); (focus (exact fun _ _ _ h => h)); (focus rfl); (focus (intro wz hSw; (try dsimp only at hSw); go_simp; first | done | with_reducible rfl)); try simp only [Act.put, List.setIfInBounds_toArray, List.set_cons_zero, List.set_cons_succ])
                              refine wpAnyH_done (by kernel_rfl) ?_ _
                              have HFin := Lib.hid (HVw.out.trans (hHeld.1.mono HVw.out.size))
                              clear hHeld r7
                              go_wp2_with fail
                              go_ret
                              exact ⟨rfl, HFin.out⟩
                            exact AllReadyH.nil
                          exact AllReadyH.nil
                        exact AllReadyH.nil
                      exact AllReadyH.nil
                    exact AllReadyH.nil
                  exact AllReadyH.nil
                exact AllReadyH.nil
              exact AllReadyH.nil
            exact AllReadyH.nil
          exact AllReadyH.nil
          -- END19
end Go.Proofs.Ythidhkaeebakjaa
