/-
  What is proved: for every automaton and every three texts the law MunchSure returns true and leaves its arguments as they were. No condition.
-/
import Derived.Test.YtjehgdjlncofeaaZPRef8
import Derived.Test.YtjehgdjlncofeaaZUAwk2
import Derived.Test.YtjehgdjlncofeaaZUFrame
import Derived.Test.YtjehgdjlncofeaaZURef
import Derived.Test.YtjehgdjlncofeaaZUSure
namespace Go.Proofs.Ytjehgdjlncofeaa
open Go.RowKit Go.Maps Go.WideElems Go.ChangeMaps Go.MapKept
set_option linter.unusedVariables false
set_option linter.unusedSimpArgs false

theorem zof_append (a b : ByteArray) (i : Nat) (h : i < a.size) : zof (a ++ b) i = zof a i := by
  have h1 : i < (a ++ b).size := by rw [ByteArray.size_append]; omega
  rw [← zof_at _ i h1, ← zof_at a i h]
  have h2 : (a ++ b)[i]'h1 = a[i]'h := by
    show (a ++ b).data[i]'h1 = a.data[i]'h
    simp only [ByteArray.data_append]
    exact Array.getElem_append_left _
  rw [h2]
theorem runF_z0 (D : Dd) (z : Nat → Nat) (k : Nat) : runF D 0 (fun i => z (0 + i)) k = runF D 0 z k := runF_congr D 0 (fun i _ => by rw [Nat.zero_add])
/-- What stands behind the byte that leads nowhere is nothing to the longest token. -/
theorem sure_same (D : Dd) (T t1 : ByteArray) (k : Nat) (hk : k + 1 ≤ T.size) (hd : runF D 0 (zof T) (k + 1) = -1) : longF D (zof T) 0 T.size = longF D (zof (T.extract 0 (k + 1) ++ t1)) 0 (T.extract 0 (k + 1) ++ t1).size := by
  have hz : (T.extract 0 (k + 1)).size = k + 1 := by rw [ByteArray.size_extract]; omega
  have he : ∀ i, i < k + 1 → zof (T.extract 0 (k + 1) ++ t1) i = zof T i := fun i hi => by
    rw [zof_append _ _ _ (by omega), zof_extract T 0 (k + 1) i (by omega) (by omega), Nat.zero_add]
  have hd2 : runF D 0 (zof (T.extract 0 (k + 1) ++ t1)) (k + 1) = -1 := by rw [runF_congr D 0 he]; exact hd
  rw [longF_dead (D := D) (z := zof T) (p := 0) (k := k + 1) (r := T.size) ((runF_z0 D (zof T) (k + 1)).trans hd) (by omega) hk, longF_dead (D := D) (z := zof (T.extract 0 (k + 1) ++ t1)) (p := 0) (k := k + 1) (r := (T.extract 0 (k + 1) ++ t1).size) ((runF_z0 D _ (k + 1)).trans hd2) (by omega) (by rw [ByteArray.size_append]; omega)]
  exact longF_congr D (p := 0) (p' := 0) (fun i hi => by rw [Nat.zero_add]; exact (he i (by omega)).symm)
theorem seen_run (D : Dd) (T : ByteArray) (k : Nat) (hk : k + 1 ≤ T.size) : runF D 0 (zof (T.extract 0 (k + 1))) (k + 1) = runF D 0 (zof T) (k + 1) ∧ runF D 0 (zof ((T.extract 0 (k + 1)).extract 0 k)) k = runF D 0 (zof T) k := by
  have hz : (T.extract 0 (k + 1)).size = k + 1 := by rw [ByteArray.size_extract]; omega
  constructor
  · exact runF_congr D 0 (fun i hi => by rw [zof_extract T 0 (k + 1) i (by omega) (by omega), Nat.zero_add])
  · exact runF_congr D 0 (fun i hi => by rw [zof_extract _ 0 k i (by omega) (by omega), Nat.zero_add, zof_extract T 0 (k + 1) i (by omega) (by omega), Nat.zero_add])
theorem wrapI12 (x : Int) (h1 : -9223372036854775808 ≤ x) (h2 : x ≤ 9223372036854775807) : IntKind.i64.wrap x = x := by
  exact IntWalk.i64_in _ (by omega)
theorem longI_zero (D : Dd) (s : ByteArray) : longI D s 0 = longF D (zof s) 0 s.size := longI_nat D s 0

set_option maxHeartbeats 4000000 in
set_option maxRecDepth 100000 in
theorem munchSureL_any (D : Dd) (s t0 t1 : ByteArray) (hn : D.n ≤ 9223372036854775807) (hm : D.m ≤ 9223372036854775807) (hl : ∀ i, i < D.n → D.len i ≤ 9223372036854775807) (hs9 : s.size ≤ 9223372036854775807) (ht9 : t0.size ≤ 9223372036854775807) (hu9 : t1.size ≤ 9223372036854775807) (w : World) (hD : DM w D) :
    Calls Try.prog 5 #[.agg D.cD, .string s, .agg #[.string t0, .string t1]] w fun e w' => e = .returned (.bool true) ∧ Below w.heap.size w w' := by
  have kb := al w (.cells D.cD 26)
  have kb2 := al (w.alloc (.cells D.cD 26)) (.cells #[.string t0, .string t1] 44)
  have hs2 := St.new (w.alloc (.cells D.cD 26)) 44 #[.string t0, .string t1]
  rw [alloc_sz10] at hs2
  have HB : Hid (DBx ((w.alloc (.cells D.cD 26)).alloc (.cells #[.string t0, .string t1] 44)) w.heap.size D ∧ Below w.heap.size w ((w.alloc (.cells D.cD 26)).alloc (.cells #[.string t0, .string t1] 44)) ∧ St ((w.alloc (.cells D.cD 26)).alloc (.cells #[.string t0, .string t1] 44)) 44 (w.heap.size + 1) #[.string t0, .string t1]) := ⟨(DBx.new hD).keep kb2, kb.trans (kb2.mono kb.size), hs2⟩
  have HL := Lib.hid hl
  clear kb kb2 hs2 hD hl
  go_enter Try.func5, Try.ntmps5
  go_upto_region 1 with fail
  try simp only [alloc_sz10]
  generalize (w.alloc (.cells D.cD 26)).alloc (.cells #[.string t0, .string t1] 44) = W0 at HB ⊢
  obtain ⟨b2, hb2⟩ : ∃ b2, w.heap.size + 1 = b2 := ⟨_, rfl⟩
  rw [hb2] at HB
  rw [hb2]
  clear hb2
  obtain ⟨b, hb0⟩ : ∃ b0, w.heap.size = b0 := ⟨_, rfl⟩
  have Hb0 := Lib.hid hb0
  rw [hb0] at HB
  rw [hb0]
  clear hb0
  have HFw : Hid (∀ W', Below W0.heap.size W0 W' → Below w.heap.size w W') := fun W' h => by
    have hz := HB.out.2.1.size
    rw [Hb0.out]
    exact HB.out.2.1.trans (h.mono (by have := Hb0.out; omega))
  have HK : Hid (∀ W', Below W0.heap.size W0 W' → DBx W' b D ∧ W'.cell? ⟨b2, 0, none⟩ = some (.string t0) ∧ W'.cell? ⟨b2, 1, none⟩ = some (.string t1) ∧ Below W0.heap.size W0 W') := fun W' h => ⟨HB.out.1.keep h, (HB.out.2.2.keep h).at_ 0, (HB.out.2.2.keep h).at_ 1, h⟩
  have HW := Lib.hid (awake12_any W0)
  go_upto_region 3 with (go_at_call 7; refine HW.out.mono ?_; rintro e w1 ⟨rfl, b1⟩)
  have H1 := Lib.hid (HK.out w1 b1)
  clear b1 HW
  have HSm := Lib.hid (small_any D hn hm HL.out w1 H1.out.1.dm)
  go_wp2_with (first
    | (refine wpList_load_any9 (by rfl) 26 _ rfl ⟨b, 0, none⟩ rfl D.cD _ H1.out.1.st.part Try.underlying26 rfl H1.out.1.dm.info ?_)
    | (go_at_call 8; refine HSm.out.mono ?_))
  rintro e w2 ⟨x, rfl, hx, b2'⟩
  have H2 := Lib.hid (HK.out w2 (H1.out.2.2.2.trans (b2'.mono H1.out.2.2.2.size)))
  clear b2' HSm
  rcases x with _ | _
  · have HF := Lib.hid (HFw.out _ H2.out.2.2.2)
    clear hx
    go_wp2_with fail
    go_ret
    exact ⟨rfl, HF.out⟩
  have hsm := hx rfl
  have Hsm := Lib.hid hsm
  clear hx hsm hn hm
  have HRt := Lib.hid (rright8_iff D w2 H2.out.1.dm Hsm.out.1 Hsm.out.2.1 Hsm.out.2.2)
  go_wp2_with (first
    | (refine wpList_load_any9 (by rfl) 26 _ rfl ⟨b, 0, none⟩ rfl D.cD _ H2.out.1.st.part Try.underlying26 rfl H2.out.1.dm.info ?_)
    | (go_at_call 9; refine HRt.out.mono ?_))
  rintro e w3 ⟨y, rfl, hy, b3⟩
  have H3 := Lib.hid (HK.out w3 (H2.out.2.2.2.trans (b3.mono H2.out.2.2.2.size)))
  clear b3 HRt H2 H1
  have HF3 := Lib.hid (HFw.out _ H3.out.2.2.2)
  rcases y with _ | _
  · clear hy
    go_wp2_with fail
    go_ret
    exact ⟨rfl, HF3.out⟩
  obtain ⟨C, hR⟩ := hy.1 rfl
  have HR := Lib.hid hR
  clear hy hR
  have c0 := H3.out.2.1
  have c1 := H3.out.2.2.1
  by_cases h6 : 30 < s.size
  · have i1 : (30 : Int) < (s.size : Int) := by omega
    go_wp2_with fail
    go_ret
    exact ⟨rfl, HF3.out⟩
  have i1 : ¬ ((30 : Int) < (s.size : Int)) := by omega
  by_cases h7 : 30 < t0.size
  · have i2 : (30 : Int) < (t0.size : Int) := by omega
    go_wp2_with fail
    go_ret
    exact ⟨rfl, HF3.out⟩
  have i2 : ¬ ((30 : Int) < (t0.size : Int)) := by omega
  by_cases h8 : 30 < t1.size
  · have i3 : (30 : Int) < (t1.size : Int) := by omega
    go_wp2_with fail
    go_ret
    exact ⟨rfl, HF3.out⟩
  have i3 : ¬ ((30 : Int) < (t1.size : Int)) := by omega
  have hcat : ¬ (9223372036854775807 < s.size + t0.size) := by omega
  obtain ⟨T, hTT⟩ : ∃ T, s ++ t0 = T := ⟨_, rfl⟩
  have hTz : T.size = s.size + t0.size := by rw [← hTT, ByteArray.size_append]
  have HTz := Lib.hid hTz
  have hTl : T.size ≤ 60 := by omega
  have HTl := Lib.hid hTl
  have HSu := Lib.hid (sure_any D C HR.out T T.size rfl (by omega) w3 H3.out.1.dm)
  clear hTz hTl
  go_upto_region 6 with (first
    | (refine wpList_load_any9 (by rfl) 26 _ rfl ⟨b, 0, none⟩ rfl D.cD _ H3.out.1.st.part Try.underlying26 rfl H3.out.1.dm.info ?_)
    | (go_at_call 17; refine HSu.out.mono ?_; rintro e w4 ⟨n, rfl, hsu, b4⟩))
  have Hsu := Lib.hid hsu
  have hnT : n ≤ T.size := by
    rcases hsu with ⟨k, h1, h2, _⟩ | ⟨h1, _⟩ <;> omega
  have H4 := Lib.hid (HK.out w4 (H3.out.2.2.2.trans (b4.mono H3.out.2.2.2.size)))
  clear b4 HSu hsu c0 c1 H3
  have c0 := H4.out.2.1
  have c1 := H4.out.2.2.1
  have j1 : ¬ ((n : Int) < 0) := by omega
  have j2 : ¬ ((s.size : Int) + (t0.size : Int) < (n : Int)) := by have := HTz.out; omega
  have HM1 := Lib.hid (munchLongest_any D C HR.out T (by have := HTl.out; omega) 0 w4 H4.out.1.dm)
  rw [longI_zero] at HM1
  obtain ⟨mk, ln, hml⟩ : ∃ mk ln, longF D (zof T) 0 T.size = (mk, ln) := ⟨_, _, rfl⟩
  rw [hml] at HM1
  go_upto_region 9 with (first
    | (refine wpList_load_any9 (by rfl) 26 _ rfl ⟨b, 0, none⟩ rfl D.cD _ H4.out.1.st.part Try.underlying26 rfl H4.out.1.dm.info ?_)
    | (go_at_call 14; refine HM1.out.mono ?_; rintro e w5 ⟨rfl, b5⟩))
  have H5 := Lib.hid (HK.out w5 (H4.out.2.2.2.trans (b5.mono H4.out.2.2.2.size)))
  clear b5 HM1 c0 c1 H4
  have c0 := H5.out.2.1
  have c1 := H5.out.2.2.1
  have j3 : (n : Int) ≤ (T.size : Int) := by omega
  have j4 : n ≤ T.size := hnT
  go_upto_region 10 with fail
  have HTT := Lib.hid hTT
  clear hTT
  obtain ⟨V, hV⟩ : ∃ V, T.extract 0 n = V := ⟨_, rfl⟩
  rw [hV]
  have hVz : V.size = n := by rw [← hV, ByteArray.size_extract]; omega
  have HV := Lib.hid (And.intro hV hVz)
  have hcat2 : ¬ (9223372036854775807 < V.size + t1.size) := by have := HTl.out; omega
  have HM2 := Lib.hid (munchLongest_any D C HR.out (V ++ t1) (by rw [ByteArray.size_append]; have := HTl.out; omega) 0 w5 H5.out.1.dm)
  rw [longI_zero] at HM2
  obtain ⟨mk2, ln2, hml2⟩ : ∃ mk ln, longF D (zof (V ++ t1)) 0 (V ++ t1).size = (mk, ln) := ⟨_, _, rfl⟩
  rw [hml2] at HM2
  have Hml := Lib.hid (And.intro hml hml2)
  clear hml hml2 hV hVz
  go_upto_region 11 with (first
    | (refine wpList_load_any9 (by rfl) 26 _ rfl ⟨b, 0, none⟩ rfl D.cD _ H5.out.1.st.part Try.underlying26 rfl H5.out.1.dm.info ?_)
    | (go_at_call 14; refine HM2.out.mono ?_; rintro e w6 ⟨rfl, b6⟩))
  have H6 := Lib.hid (HK.out w6 (H5.out.2.2.2.trans (b6.mono H5.out.2.2.2.size)))
  clear b6 HM2 c0 c1 H5 hcat hcat2 i1 i2 i3 j1 j2 j3 j4
  have c0 := H6.out.2.1
  have c1 := H6.out.2.2.1
  by_cases hnm : n < s.size + t0.size
  · obtain ⟨k, hk, hkm, hd, ha⟩ : ∃ k, n = k + 1 ∧ k < T.size ∧ runF D 0 (zof T) (k + 1) = -1 ∧ runF D 0 (zof T) k ≠ -1 := by
      rcases Hsu.out with ⟨k, h1, h2, h3, h4⟩ | ⟨h1, _⟩
      · exact ⟨k, h1, h2, h3, h4 k (Nat.le_refl _)⟩
      · have := HTz.out; omega
    have hsame := sure_same D T t1 k (by omega) hd
    rw [← hk, HV.out.1, Hml.out.1, Hml.out.2] at hsame
    have e1 : mk = mk2 := congrArg Prod.fst hsame
    have e2 : ln = ln2 := congrArg Prod.snd hsame
    subst e1 e2
    have hsr := seen_run D T k (by omega)
    rw [← hk, HV.out.1] at hsr
    rw [← hk] at hd
    rw [hd] at hsr
    have hz2 : (V.extract 0 k).size = k := by rw [ByteArray.size_extract]; have := HV.out.2; omega
    have HSr := Lib.hid (And.intro hsr (And.intro ha hz2))
    have q1 : ((n : Int) - 1) = (k : Int) := by omega
    have q2 : (n : Int) < (s.size : Int) + (t0.size : Int) := by omega
    have q3 : ((n : Int) == (s.size : Int) + (t0.size : Int)) = false := by rw [beq_eq_false_iff_ne]; omega
    have q4 : (k : Int) ≤ (V.size : Int) := by have := HV.out.2; omega
    have q5 : k ≤ V.size := by have := HV.out.2; omega
    have Hk : Hid (n = k + 1 ∧ k < 60) := ⟨hk, by have := HTl.out; omega⟩
    clear hsame hsr hz2 hk hkm hd ha hnm hnT
    have HM3 : Hid (∀ W, Below W0.heap.size W0 W → Calls Try.prog 18 #[.agg D.cD, .int .i64 0, .string V] W (fun e w' => e = .returned (.int .i64 (-1)) ∧ Below W.heap.size W w')) := fun W h => by
      have := rrun8_any D C HR.out 0 V n HV.out.2 (by have := Hk.out; omega) W (HB.out.1.keep h).dm
      rw [HSr.out.1.1] at this
      exact this
    obtain ⟨r, hr⟩ : ∃ r, runF D 0 (zof (V.extract 0 k)) k = r := ⟨_, rfl⟩
    have Hr : Hid ((r != -1) = true) := by
      show _ = _
      rw [bne_iff_ne, ← hr, HSr.out.1.2]
      exact HSr.out.2.1
    have HM4 : Hid (∀ W, Below W0.heap.size W0 W → Calls Try.prog 18 #[.agg D.cD, .int .i64 0, .string (V.extract 0 k)] W (fun e w' => e = .returned (.int .i64 r) ∧ Below W.heap.size W w')) := fun W h => by
      have := rrun8_any D C HR.out 0 (V.extract 0 k) k HSr.out.2.2 (by have := Hk.out; omega) W (HB.out.1.keep h).dm
      rw [hr] at this
      exact this
    clear hr
    have hmn : ((mk : Int) != mk) = false := by simp
    have hln : ((ln : Int) != (ln : Int)) = false := by simp
    have hw1 : IntKind.i64.wrap ((s.size : Int) + (t0.size : Int)) = (s.size : Int) + (t0.size : Int) := wrapI12 _ (by omega) (by omega)
    have hw2 : IntKind.i64.wrap (k : Int) = (k : Int) := wrapI12 _ (by omega) (by have := Hk.out; omega)
    go_upto_region 13 with fail
    have HSo : Hid (∀ W', Below W0.heap.size W0 W' → Below W0.heap.size W0 W' ∧ DBx W' b D ∧ W'.cell? ⟨b2, 0, none⟩ = some (.string t0)) := fun W' h => ⟨h, (HK.out W' h).1, (HK.out W' h).2.1⟩
    have hr2 := Hr.out
    refine wp_region_held_drew (S := fun W' => Below W0.heap.size W0 W' ∧ DBx W' b D ∧ W'.cell? ⟨b2, 0, none⟩ = some (.string t0)) (by kernel_rfl) (HSo.out _ H6.out.2.2.2.drew) (fun hHeld => ?_)
    (refine wpAnyH_take (i := 0) (oi := ?_) (v := ?_) ?_ (by kernel_rfl) (by kernel_rfl) (by kernel_rfl) ?_ (Or.inl ⟨?_, ?_⟩) (by assumption) ?_; rotate_left 2; (focus ((simp only [List.getElem?_toArray, List.getElem?_cons_zero]); first | done | rfl)); (focus (exact fun _ _ _ h => h)); (focus rfl); (focus (intro wz hSw; (try dsimp only at hSw); go_simp; first | done | with_reducible rfl)); try simp only [Act.put, List.setIfInBounds_toArray, List.set_cons_zero, List.set_cons_succ])
    (refine wpAnyH_take (i := 1) (oi := ?_) (v := ?_) ?_ (by kernel_rfl) (by kernel_rfl) (by kernel_rfl) ?_ (Or.inl ⟨?_, ?_⟩) (by assumption) ?_; rotate_left 2; (focus ((simp only [List.getElem?_toArray, List.getElem?_cons_succ, List.getElem?_cons_zero]); first | done | rfl)); (focus (exact fun _ _ _ h => h)); (focus rfl); (focus (intro wz hSw; (try dsimp only at hSw); go_simp; first | done | with_reducible rfl)); try simp only [Act.put, List.setIfInBounds_toArray, List.set_cons_zero, List.set_cons_succ])
    (refine wpAnyH_take (i := 2) (oi := ?_) (v := ?_) ?_ (by kernel_rfl) (by kernel_rfl) (by kernel_rfl) ?_ (Or.inl ⟨?_, ?_⟩) (by assumption) ?_; rotate_left 2; (focus ((simp only [List.getElem?_toArray, List.getElem?_cons_succ, List.getElem?_cons_zero]); first | done | rfl)); (focus (exact fun _ _ _ h => h)); (focus rfl); (focus (intro wz hSw; (try dsimp only at hSw); go_simp; first | done | with_reducible rfl)); try simp only [Act.put, List.setIfInBounds_toArray, List.set_cons_zero, List.set_cons_succ])
    (refine wpAnyH_take (i := 3) (oi := ?_) (v := ?_) ?_ (by kernel_rfl) (by kernel_rfl) (by kernel_rfl) ?_ (Or.inl ⟨?_, ?_⟩) (by assumption) ?_; rotate_left 2; (focus ((simp only [List.getElem?_toArray, List.getElem?_cons_succ, List.getElem?_cons_zero]); first | done | rfl)); (focus (exact fun _ _ _ h => h)); (focus rfl); (focus (intro wz hSw; (try dsimp only at hSw); go_simp; first | done | with_reducible rfl)); try simp only [Act.put, List.setIfInBounds_toArray, List.set_cons_zero, List.set_cons_succ])
    (refine wpAnyH_take (i := 4) (oi := ?_) (v := ?_) ?_ (by kernel_rfl) (by kernel_rfl) (by kernel_rfl) ?_ (Or.inl ⟨?_, ?_⟩) (by assumption) ?_; rotate_left 2; (focus ((simp only [List.getElem?_toArray, List.getElem?_cons_succ, List.getElem?_cons_zero]); first | done | rfl)); (focus (exact fun _ _ _ h => h)); (focus rfl); (focus (intro wz hSw; (try dsimp only at hSw); go_simp; first | done | with_reducible rfl)); try simp only [Act.put, List.setIfInBounds_toArray, List.set_cons_zero, List.set_cons_succ])
    (refine wpAnyH_take (i := 5) (oi := ?_) (v := ?_) ?_ (by kernel_rfl) (by kernel_rfl) (by kernel_rfl) ?_ (Or.inl ⟨?_, ?_⟩) (by assumption) ?_; rotate_left 2; (focus ((simp only [List.getElem?_toArray, List.getElem?_cons_succ, List.getElem?_cons_zero]); first | done | rfl)); (focus (exact fun _ _ _ h => h)); (focus rfl); (focus (intro wz hSw; (try dsimp only at hSw); go_simp; first | done | with_reducible rfl)); try simp only [Act.put, List.setIfInBounds_toArray, List.set_cons_zero, List.set_cons_succ])
    (refine wpAnyH_take (i := 6) (oi := ?_) (v := ?_) ?_ (by kernel_rfl) (by kernel_rfl) (by kernel_rfl) ?_ (Or.inl ⟨?_, ?_⟩) (by assumption) ?_; rotate_left 2; (focus ((simp only [List.getElem?_toArray, List.getElem?_cons_succ, List.getElem?_cons_zero]); first | done | rfl)); (focus (exact fun _ _ _ h => h)); (focus rfl); (focus (intro wz hSw; (try dsimp only at hSw); go_simp; first | done | with_reducible rfl)); try simp only [Act.put, List.setIfInBounds_toArray, List.set_cons_zero, List.set_cons_succ])
    (refine wpAnyH_take (i := 7) (oi := ?_) (v := ?_) ?_ (by kernel_rfl) (by kernel_rfl) (by kernel_rfl) ?_ (Or.inl ⟨?_, ?_⟩) (by assumption) ?_; rotate_left 2; (focus ((simp only [List.getElem?_toArray, List.getElem?_cons_succ, List.getElem?_cons_zero]); first | done | rfl)); (focus (exact fun _ _ _ h => h)); (focus rfl); (focus (intro wz hSw; (try dsimp only at hSw); go_simp; first | done | with_reducible rfl)); try simp only [Act.put, List.setIfInBounds_toArray, List.set_cons_zero, List.set_cons_succ])
    (refine wpAnyH_take (i := 8) (oi := ?_) (v := ?_) ?_ (by kernel_rfl) (by kernel_rfl) (by kernel_rfl) ?_ (Or.inl ⟨?_, ?_⟩) (by assumption) ?_; rotate_left 2; (focus ((simp only [List.getElem?_toArray, List.getElem?_cons_succ, List.getElem?_cons_zero]); first | done | rfl)); (focus (exact fun _ _ _ h => h)); (focus rfl); (focus (intro wz hSw; (try dsimp only at hSw); go_simp; first | done | with_reducible rfl)); try simp only [Act.put, List.setIfInBounds_toArray, List.set_cons_zero, List.set_cons_succ])
    (refine wpAnyH_take (i := 9) (oi := ?_) (v := .agg D.cD) ?_ (by kernel_rfl) (by kernel_rfl) (by kernel_rfl) ?_ (Or.inl ⟨?_, ?_⟩) (by assumption) ?_; rotate_left; (focus ((simp only [List.getElem?_toArray, List.getElem?_cons_succ, List.getElem?_cons_zero]); first | done | rfl)); (focus (exact fun _ _ _ h => h)); (focus rfl); (focus (intro wz hSw; exact exec_load_any9 (o := _) (ρ := _) wz 26 (.tmp 3) rfl ⟨b, 0, none⟩ rfl D.cD _ (DBx.st (And.left (And.right hSw))).part Try.underlying26 rfl (DBx.dm (And.left (And.right hSw))).info)); try simp only [Act.put, List.setIfInBounds_toArray, List.set_cons_zero, List.set_cons_succ])
    (refine wpAnyH_take (i := 10) (oi := ?_) (v := ?_) ?_ (by kernel_rfl) (by kernel_rfl) (by kernel_rfl) ?_ (Or.inl ⟨?_, ?_⟩) (by assumption) ?_; rotate_left 2; (focus ((simp only [List.getElem?_toArray, List.getElem?_cons_succ, List.getElem?_cons_zero]); first | done | rfl)); (focus (exact fun _ _ _ h => h)); (focus rfl); (focus (intro wz hSw; (try dsimp only at hSw); go_simp; first | done | with_reducible rfl)); try simp only [Act.put, List.setIfInBounds_toArray, List.set_cons_zero, List.set_cons_succ])
    refine wpAnyH_ready (rs := [11]) (by kernel_rfl) (by simp) ?_
    refine AllReadyH.cons (o := ?_) ?_ (fun K hK => ?_) ?_
    rotate_left
    (focus ((simp only [List.getElem?_toArray, List.getElem?_cons_succ, List.getElem?_cons_zero]); first | done | rfl))
    · skip
      go_simp
      go_at_call 18
      refine (HM3.out _ hHeld.1).mono ?_
      rintro e w7 ⟨rfl, b7⟩
      have hbn : Below W0.heap.size W0 w7 := hHeld.1.trans (b7.mono hHeld.1.size)
      clear b7
      try go_wp2_with fail
      refine hK.out _ _ (HSo.out _ hbn) (fun hHeld => ?_)
      clear hK K
      try simp only [Act.put, List.setIfInBounds_toArray, List.set_cons_zero, List.set_cons_succ]
      clear hbn
      (refine wpAnyH_take (i := 12) (oi := ?_) (v := ?_) ?_ (by kernel_rfl) (by kernel_rfl) (by kernel_rfl) ?_ (Or.inl ⟨?_, ?_⟩) (by assumption) ?_; rotate_left 2; (focus ((simp only [List.getElem?_toArray, List.getElem?_cons_succ, List.getElem?_cons_zero]); first | done | rfl)); (focus (exact fun _ _ _ h => h)); (focus rfl); (focus (intro wz hSw; (try dsimp only at hSw); go_simp; first | done | with_reducible rfl)); try simp only [Act.put, List.setIfInBounds_toArray, List.set_cons_zero, List.set_cons_succ])
      (refine wpAnyH_take (i := 13) (oi := ?_) (v := ?_) ?_ (by kernel_rfl) (by kernel_rfl) (by kernel_rfl) ?_ (Or.inl ⟨?_, ?_⟩) (by assumption) ?_; rotate_left 2; (focus ((simp only [List.getElem?_toArray, List.getElem?_cons_succ, List.getElem?_cons_zero]); first | done | rfl)); (focus (exact fun _ _ _ h => h)); (focus rfl); (focus (intro wz hSw; (try dsimp only at hSw); go_simp; first | done | with_reducible rfl)); try simp only [Act.put, List.setIfInBounds_toArray, List.set_cons_zero, List.set_cons_succ])
      (refine wpAnyH_take (i := 14) (oi := ?_) (v := .agg D.cD) ?_ (by kernel_rfl) (by kernel_rfl) (by kernel_rfl) ?_ (Or.inl ⟨?_, ?_⟩) (by assumption) ?_; rotate_left; (focus ((simp only [List.getElem?_toArray, List.getElem?_cons_succ, List.getElem?_cons_zero]); first | done | rfl)); (focus (exact fun _ _ _ h => h)); (focus rfl); (focus (intro wz hSw; exact exec_load_any9 (o := _) (ρ := _) wz 26 (.tmp 3) rfl ⟨b, 0, none⟩ rfl D.cD _ (DBx.st (And.left (And.right hSw))).part Try.underlying26 rfl (DBx.dm (And.left (And.right hSw))).info)); try simp only [Act.put, List.setIfInBounds_toArray, List.set_cons_zero, List.set_cons_succ])
      (refine wpAnyH_take (i := 15) (oi := ?_) (v := ?_) ?_ (by kernel_rfl) (by kernel_rfl) (by kernel_rfl) ?_ (Or.inl ⟨?_, ?_⟩) (by assumption) ?_; rotate_left 2; (focus ((simp only [List.getElem?_toArray, List.getElem?_cons_succ, List.getElem?_cons_zero]); first | done | rfl)); (focus (exact fun _ _ _ h => h)); (focus rfl); (focus (intro wz hSw; (try dsimp only at hSw); go_simp; first | done | with_reducible rfl)); try simp only [Act.put, List.setIfInBounds_toArray, List.set_cons_zero, List.set_cons_succ])
      (refine wpAnyH_take (i := 16) (oi := ?_) (v := ?_) ?_ (by kernel_rfl) (by kernel_rfl) (by kernel_rfl) ?_ (Or.inl ⟨?_, ?_⟩) (by assumption) ?_; rotate_left 2; (focus ((simp only [List.getElem?_toArray, List.getElem?_cons_succ, List.getElem?_cons_zero]); first | done | rfl)); (focus (exact fun _ _ _ h => h)); (focus rfl); (focus (intro wz hSw; (try dsimp only at hSw); go_simp; first | done | with_reducible rfl)); try simp only [Act.put, List.setIfInBounds_toArray, List.set_cons_zero, List.set_cons_succ])
      (refine wpAnyH_take (i := 17) (oi := ?_) (v := ?_) ?_ (by kernel_rfl) (by kernel_rfl) (by kernel_rfl) ?_ (Or.inl ⟨?_, ?_⟩) (by assumption) ?_; rotate_left 2; (focus ((simp only [List.getElem?_toArray, List.getElem?_cons_succ, List.getElem?_cons_zero]); first | done | rfl)); (focus (exact fun _ _ _ h => h)); (focus rfl); (focus (intro wz hSw; (try dsimp only at hSw); go_simp; first | done | with_reducible rfl)); try simp only [Act.put, List.setIfInBounds_toArray, List.set_cons_zero, List.set_cons_succ])
      (refine wpAnyH_take (i := 18) (oi := ?_) (v := ?_) ?_ (by kernel_rfl) (by kernel_rfl) (by kernel_rfl) ?_ (Or.inl ⟨?_, ?_⟩) (by assumption) ?_; rotate_left 2; (focus ((simp only [List.getElem?_toArray, List.getElem?_cons_succ, List.getElem?_cons_zero]); first | done | rfl)); (focus (exact fun _ _ _ h => h)); (focus rfl); (focus (intro wz hSw; (try dsimp only at hSw); go_simp; first | done | with_reducible rfl)); try simp only [Act.put, List.setIfInBounds_toArray, List.set_cons_zero, List.set_cons_succ])
      refine wpAnyH_ready (rs := [19]) (by kernel_rfl) (by simp) ?_
      refine AllReadyH.cons (o := ?_) ?_ (fun K hK => ?_) ?_
      rotate_left
      (focus ((simp only [List.getElem?_toArray, List.getElem?_cons_succ, List.getElem?_cons_zero]); first | done | rfl))
      · skip
        go_simp
        go_at_call 18
        refine (HM4.out _ hHeld.1).mono ?_
        rintro e w8 ⟨rfl, b8⟩
        have hbn : Below W0.heap.size W0 w8 := hHeld.1.trans (b8.mono hHeld.1.size)
        clear b8
        try go_wp2_with fail
        refine hK.out _ _ (HSo.out _ hbn) (fun hHeld => ?_)
        clear hK K
        try simp only [Act.put, List.setIfInBounds_toArray, List.set_cons_zero, List.set_cons_succ]
        (refine wpAnyH_take (i := 20) (oi := ?_) (v := ?_) ?_ (by kernel_rfl) (by kernel_rfl) (by kernel_rfl) ?_ (Or.inl ⟨?_, ?_⟩) (by assumption) ?_; rotate_left 2; (focus ((simp only [List.getElem?_toArray, List.getElem?_cons_succ, List.getElem?_cons_zero]); first | done | rfl)); (focus (exact fun _ _ _ h => h)); (focus rfl); (focus (intro wz hSw; (try dsimp only at hSw); go_simp; first | done | with_reducible rfl)); try simp only [Act.put, List.setIfInBounds_toArray, List.set_cons_zero, List.set_cons_succ])
        (refine wpAnyH_take (i := 21) (oi := ?_) (v := ?_) ?_ (by kernel_rfl) (by kernel_rfl) (by kernel_rfl) ?_ (Or.inl ⟨?_, ?_⟩) (by assumption) ?_; rotate_left 2; (focus ((simp only [List.getElem?_toArray, List.getElem?_cons_succ, List.getElem?_cons_zero]); first | done | rfl)); (focus (exact fun _ _ _ h => h)); (focus rfl); (focus (intro wz hSw; (try dsimp only at hSw); go_simp; first | done | with_reducible rfl)); try simp only [Act.put, List.setIfInBounds_toArray, List.set_cons_zero, List.set_cons_succ])
        (refine wpAnyH_take (i := 22) (oi := ?_) (v := ?_) ?_ (by kernel_rfl) (by kernel_rfl) (by kernel_rfl) ?_ (Or.inl ⟨?_, ?_⟩) (by assumption) ?_; rotate_left 2; (focus ((simp only [List.getElem?_toArray, List.getElem?_cons_succ, List.getElem?_cons_zero]); first | done | rfl)); (focus (exact fun _ _ _ h => h)); (focus rfl); (focus (intro wz hSw; (try dsimp only at hSw); go_simp; first | done | with_reducible rfl)); try simp only [Act.put, List.setIfInBounds_toArray, List.set_cons_zero, List.set_cons_succ])
        (refine wpAnyH_take (i := 23) (oi := ?_) (v := ?_) ?_ (by kernel_rfl) (by kernel_rfl) (by kernel_rfl) ?_ (Or.inl ⟨?_, ?_⟩) (by assumption) ?_; rotate_left 2; (focus ((simp only [List.getElem?_toArray, List.getElem?_cons_succ, List.getElem?_cons_zero]); first | done | rfl)); (focus (exact fun _ _ _ h => h)); (focus rfl); (focus (intro wz hSw; (try dsimp only at hSw); go_simp; first | done | with_reducible rfl)); try simp only [Act.put, List.setIfInBounds_toArray, List.set_cons_zero, List.set_cons_succ])
        refine wpAnyH_done (by kernel_rfl) ?_ _
        have HF := Lib.hid (HFw.out _ hHeld.1)
        clear hHeld
        go_wp2_with fail
        go_ret
        exact ⟨rfl, HF.out⟩
      exact AllReadyH.nil
    exact AllReadyH.nil
  · obtain rfl : n = T.size := by have := HTz.out; omega
    have q2 : ¬ (((T.size : Nat) : Int) < (s.size : Int) + (t0.size : Int)) := by have := HTz.out; omega
    have q3 : (((T.size : Nat) : Int) == (s.size : Int) + (t0.size : Int)) = true := by rw [beq_iff_eq]; have := HTz.out; omega
    clear hnm hnT
    have hw1 : IntKind.i64.wrap ((s.size : Int) + (t0.size : Int)) = (s.size : Int) + (t0.size : Int) := wrapI12 _ (by omega) (by omega)
    go_upto_region 13 with fail
    have HSo : Hid (∀ W', Below W0.heap.size W0 W' → Below W0.heap.size W0 W' ∧ DBx W' b D ∧ W'.cell? ⟨b2, 0, none⟩ = some (.string t0)) := fun W' h => ⟨h, (HK.out W' h).1, (HK.out W' h).2.1⟩
    refine wp_region_held_drew (S := fun W' => Below W0.heap.size W0 W' ∧ DBx W' b D ∧ W'.cell? ⟨b2, 0, none⟩ = some (.string t0)) (by kernel_rfl) (HSo.out _ H6.out.2.2.2.drew) (fun hHeld => ?_)
    (refine wpAnyH_take (i := 0) (oi := ?_) (v := ?_) ?_ (by kernel_rfl) (by kernel_rfl) (by kernel_rfl) ?_ (Or.inl ⟨?_, ?_⟩) (by assumption) ?_; rotate_left 2; (focus ((simp only [List.getElem?_toArray, List.getElem?_cons_zero]); first | done | rfl)); (focus (exact fun _ _ _ h => h)); (focus rfl); (focus (intro wz hSw; (try dsimp only at hSw); go_simp; first | done | with_reducible rfl)); try simp only [Act.put, List.setIfInBounds_toArray, List.set_cons_zero, List.set_cons_succ])
    (refine wpAnyH_take (i := 1) (oi := ?_) (v := ?_) ?_ (by kernel_rfl) (by kernel_rfl) (by kernel_rfl) ?_ (Or.inl ⟨?_, ?_⟩) (by assumption) ?_; rotate_left 2; (focus ((simp only [List.getElem?_toArray, List.getElem?_cons_succ, List.getElem?_cons_zero]); first | done | rfl)); (focus (exact fun _ _ _ h => h)); (focus rfl); (focus (intro wz hSw; (try dsimp only at hSw); go_simp; first | done | with_reducible rfl)); try simp only [Act.put, List.setIfInBounds_toArray, List.set_cons_zero, List.set_cons_succ])
    (refine wpAnyH_take (i := 2) (oi := ?_) (v := ?_) ?_ (by kernel_rfl) (by kernel_rfl) (by kernel_rfl) ?_ (Or.inl ⟨?_, ?_⟩) (by assumption) ?_; rotate_left 2; (focus ((simp only [List.getElem?_toArray, List.getElem?_cons_succ, List.getElem?_cons_zero]); first | done | rfl)); (focus (exact fun _ _ _ h => h)); (focus rfl); (focus (intro wz hSw; (try dsimp only at hSw); go_simp; first | done | with_reducible rfl)); try simp only [Act.put, List.setIfInBounds_toArray, List.set_cons_zero, List.set_cons_succ])
    (refine wpAnyH_take (i := 3) (oi := ?_) (v := ?_) ?_ (by kernel_rfl) (by kernel_rfl) (by kernel_rfl) ?_ (Or.inl ⟨?_, ?_⟩) (by assumption) ?_; rotate_left 2; (focus ((simp only [List.getElem?_toArray, List.getElem?_cons_succ, List.getElem?_cons_zero]); first | done | rfl)); (focus (exact fun _ _ _ h => h)); (focus rfl); (focus (intro wz hSw; (try dsimp only at hSw); go_simp; first | done | with_reducible rfl)); try simp only [Act.put, List.setIfInBounds_toArray, List.set_cons_zero, List.set_cons_succ])
    (refine wpAnyH_take (i := 4) (oi := ?_) (v := ?_) ?_ (by kernel_rfl) (by kernel_rfl) (by kernel_rfl) ?_ (Or.inl ⟨?_, ?_⟩) (by assumption) ?_; rotate_left 2; (focus ((simp only [List.getElem?_toArray, List.getElem?_cons_succ, List.getElem?_cons_zero]); first | done | rfl)); (focus (exact fun _ _ _ h => h)); (focus rfl); (focus (intro wz hSw; (try dsimp only at hSw); go_simp; first | done | with_reducible rfl)); try simp only [Act.put, List.setIfInBounds_toArray, List.set_cons_zero, List.set_cons_succ])
    (refine wpAnyH_take (i := 5) (oi := ?_) (v := ?_) ?_ (by kernel_rfl) (by kernel_rfl) (by kernel_rfl) ?_ (Or.inl ⟨?_, ?_⟩) (by assumption) ?_; rotate_left 2; (focus ((simp only [List.getElem?_toArray, List.getElem?_cons_succ, List.getElem?_cons_zero]); first | done | rfl)); (focus (exact fun _ _ _ h => h)); (focus rfl); (focus (intro wz hSw; (try dsimp only at hSw); go_simp; first | done | with_reducible rfl)); try simp only [Act.put, List.setIfInBounds_toArray, List.set_cons_zero, List.set_cons_succ])
    (refine wpAnyH_take (i := 6) (oi := ?_) (v := ?_) ?_ (by kernel_rfl) (by kernel_rfl) (by kernel_rfl) ?_ (Or.inl ⟨?_, ?_⟩) (by assumption) ?_; rotate_left 2; (focus ((simp only [List.getElem?_toArray, List.getElem?_cons_succ, List.getElem?_cons_zero]); first | done | rfl)); (focus (exact fun _ _ _ h => h)); (focus rfl); (focus (intro wz hSw; (try dsimp only at hSw); go_simp; first | done | with_reducible rfl)); try simp only [Act.put, List.setIfInBounds_toArray, List.set_cons_zero, List.set_cons_succ])
    (refine wpAnyH_take (i := 7) (oi := ?_) (v := ?_) ?_ (by kernel_rfl) (by kernel_rfl) (by kernel_rfl) ?_ (Or.inl ⟨?_, ?_⟩) (by assumption) ?_; rotate_left 2; (focus ((simp only [List.getElem?_toArray, List.getElem?_cons_succ, List.getElem?_cons_zero]); first | done | rfl)); (focus (exact fun _ _ _ h => h)); (focus rfl); (focus (intro wz hSw; (try dsimp only at hSw); go_simp; first | done | with_reducible rfl)); try simp only [Act.put, List.setIfInBounds_toArray, List.set_cons_zero, List.set_cons_succ])
    (refine wpAnyH_take (i := 8) (oi := ?_) (v := ?_) ?_ (by kernel_rfl) (by kernel_rfl) (by kernel_rfl) ?_ (Or.inl ⟨?_, ?_⟩) (by assumption) ?_; rotate_left 2; (focus ((simp only [List.getElem?_toArray, List.getElem?_cons_succ, List.getElem?_cons_zero]); first | done | rfl)); (focus (exact fun _ _ _ h => h)); (focus rfl); (focus (intro wz hSw; (try dsimp only at hSw); go_simp; first | done | with_reducible rfl)); try simp only [Act.put, List.setIfInBounds_toArray, List.set_cons_zero, List.set_cons_succ])
    (refine wpAnyH_take (i := 9) (oi := ?_) (v := undef) ?_ (by kernel_rfl) (by kernel_rfl) (by kernel_rfl) ?_ (Or.inr ⟨?_, rfl⟩) (by assumption) ?_; rotate_left; (focus ((simp only [List.getElem?_toArray, List.getElem?_cons_succ, List.getElem?_cons_zero]); first | done | rfl)); (focus (exact fun _ _ _ h => h)); (focus (first | rfl | kernel_rfl | (simp [Region.wanted, yielded]; done))); try simp only [Act.put, List.setIfInBounds_toArray, List.set_cons_zero, List.set_cons_succ])
    (refine wpAnyH_take (i := 10) (oi := ?_) (v := undef) ?_ (by kernel_rfl) (by kernel_rfl) (by kernel_rfl) ?_ (Or.inr ⟨?_, rfl⟩) (by assumption) ?_; rotate_left; (focus ((simp only [List.getElem?_toArray, List.getElem?_cons_succ, List.getElem?_cons_zero]); first | done | rfl)); (focus (exact fun _ _ _ h => h)); (focus (first | rfl | kernel_rfl | (simp [Region.wanted, yielded]; done))); try simp only [Act.put, List.setIfInBounds_toArray, List.set_cons_zero, List.set_cons_succ])
    (refine wpAnyH_take (i := 11) (oi := ?_) (v := undef) ?_ (by kernel_rfl) (by kernel_rfl) (by kernel_rfl) ?_ (Or.inr ⟨?_, rfl⟩) (by assumption) ?_; rotate_left; (focus ((simp only [List.getElem?_toArray, List.getElem?_cons_succ, List.getElem?_cons_zero]); first | done | rfl)); (focus (exact fun _ _ _ h => h)); (focus (first | rfl | kernel_rfl | (simp [Region.wanted, yielded]; done))); try simp only [Act.put, List.setIfInBounds_toArray, List.set_cons_zero, List.set_cons_succ])
    (refine wpAnyH_take (i := 12) (oi := ?_) (v := undef) ?_ (by kernel_rfl) (by kernel_rfl) (by kernel_rfl) ?_ (Or.inr ⟨?_, rfl⟩) (by assumption) ?_; rotate_left; (focus ((simp only [List.getElem?_toArray, List.getElem?_cons_succ, List.getElem?_cons_zero]); first | done | rfl)); (focus (exact fun _ _ _ h => h)); (focus (first | rfl | kernel_rfl | (simp [Region.wanted, yielded]; done))); try simp only [Act.put, List.setIfInBounds_toArray, List.set_cons_zero, List.set_cons_succ])
    (refine wpAnyH_take (i := 13) (oi := ?_) (v := undef) ?_ (by kernel_rfl) (by kernel_rfl) (by kernel_rfl) ?_ (Or.inr ⟨?_, rfl⟩) (by assumption) ?_; rotate_left; (focus ((simp only [List.getElem?_toArray, List.getElem?_cons_succ, List.getElem?_cons_zero]); first | done | rfl)); (focus (exact fun _ _ _ h => h)); (focus (first | rfl | kernel_rfl | (simp [Region.wanted, yielded]; done))); try simp only [Act.put, List.setIfInBounds_toArray, List.set_cons_zero, List.set_cons_succ])
    (refine wpAnyH_take (i := 14) (oi := ?_) (v := undef) ?_ (by kernel_rfl) (by kernel_rfl) (by kernel_rfl) ?_ (Or.inr ⟨?_, rfl⟩) (by assumption) ?_; rotate_left; (focus ((simp only [List.getElem?_toArray, List.getElem?_cons_succ, List.getElem?_cons_zero]); first | done | rfl)); (focus (exact fun _ _ _ h => h)); (focus (first | rfl | kernel_rfl | (simp [Region.wanted, yielded]; done))); try simp only [Act.put, List.setIfInBounds_toArray, List.set_cons_zero, List.set_cons_succ])
    (refine wpAnyH_take (i := 15) (oi := ?_) (v := undef) ?_ (by kernel_rfl) (by kernel_rfl) (by kernel_rfl) ?_ (Or.inr ⟨?_, rfl⟩) (by assumption) ?_; rotate_left; (focus ((simp only [List.getElem?_toArray, List.getElem?_cons_succ, List.getElem?_cons_zero]); first | done | rfl)); (focus (exact fun _ _ _ h => h)); (focus (first | rfl | kernel_rfl | (simp [Region.wanted, yielded]; done))); try simp only [Act.put, List.setIfInBounds_toArray, List.set_cons_zero, List.set_cons_succ])
    (refine wpAnyH_take (i := 16) (oi := ?_) (v := undef) ?_ (by kernel_rfl) (by kernel_rfl) (by kernel_rfl) ?_ (Or.inr ⟨?_, rfl⟩) (by assumption) ?_; rotate_left; (focus ((simp only [List.getElem?_toArray, List.getElem?_cons_succ, List.getElem?_cons_zero]); first | done | rfl)); (focus (exact fun _ _ _ h => h)); (focus (first | rfl | kernel_rfl | (simp [Region.wanted, yielded]; done))); try simp only [Act.put, List.setIfInBounds_toArray, List.set_cons_zero, List.set_cons_succ])
    (refine wpAnyH_take (i := 17) (oi := ?_) (v := undef) ?_ (by kernel_rfl) (by kernel_rfl) (by kernel_rfl) ?_ (Or.inr ⟨?_, rfl⟩) (by assumption) ?_; rotate_left; (focus ((simp only [List.getElem?_toArray, List.getElem?_cons_succ, List.getElem?_cons_zero]); first | done | rfl)); (focus (exact fun _ _ _ h => h)); (focus (first | rfl | kernel_rfl | (simp [Region.wanted, yielded]; done))); try simp only [Act.put, List.setIfInBounds_toArray, List.set_cons_zero, List.set_cons_succ])
    (refine wpAnyH_take (i := 18) (oi := ?_) (v := undef) ?_ (by kernel_rfl) (by kernel_rfl) (by kernel_rfl) ?_ (Or.inr ⟨?_, rfl⟩) (by assumption) ?_; rotate_left; (focus ((simp only [List.getElem?_toArray, List.getElem?_cons_succ, List.getElem?_cons_zero]); first | done | rfl)); (focus (exact fun _ _ _ h => h)); (focus (first | rfl | kernel_rfl | (simp [Region.wanted, yielded]; done))); try simp only [Act.put, List.setIfInBounds_toArray, List.set_cons_zero, List.set_cons_succ])
    (refine wpAnyH_take (i := 19) (oi := ?_) (v := undef) ?_ (by kernel_rfl) (by kernel_rfl) (by kernel_rfl) ?_ (Or.inr ⟨?_, rfl⟩) (by assumption) ?_; rotate_left; (focus ((simp only [List.getElem?_toArray, List.getElem?_cons_succ, List.getElem?_cons_zero]); first | done | rfl)); (focus (exact fun _ _ _ h => h)); (focus (first | rfl | kernel_rfl | (simp [Region.wanted, yielded]; done))); try simp only [Act.put, List.setIfInBounds_toArray, List.set_cons_zero, List.set_cons_succ])
    (refine wpAnyH_take (i := 20) (oi := ?_) (v := undef) ?_ (by kernel_rfl) (by kernel_rfl) (by kernel_rfl) ?_ (Or.inr ⟨?_, rfl⟩) (by assumption) ?_; rotate_left; (focus ((simp only [List.getElem?_toArray, List.getElem?_cons_succ, List.getElem?_cons_zero]); first | done | rfl)); (focus (exact fun _ _ _ h => h)); (focus (first | rfl | kernel_rfl | (simp [Region.wanted, yielded]; done))); try simp only [Act.put, List.setIfInBounds_toArray, List.set_cons_zero, List.set_cons_succ])
    (refine wpAnyH_take (i := 21) (oi := ?_) (v := undef) ?_ (by kernel_rfl) (by kernel_rfl) (by kernel_rfl) ?_ (Or.inr ⟨?_, rfl⟩) (by assumption) ?_; rotate_left; (focus ((simp only [List.getElem?_toArray, List.getElem?_cons_succ, List.getElem?_cons_zero]); first | done | rfl)); (focus (exact fun _ _ _ h => h)); (focus (first | rfl | kernel_rfl | (simp [Region.wanted, yielded]; done))); try simp only [Act.put, List.setIfInBounds_toArray, List.set_cons_zero, List.set_cons_succ])
    (refine wpAnyH_take (i := 22) (oi := ?_) (v := ?_) ?_ (by kernel_rfl) (by kernel_rfl) (by kernel_rfl) ?_ (Or.inl ⟨?_, ?_⟩) (by assumption) ?_; rotate_left 2; (focus ((simp only [List.getElem?_toArray, List.getElem?_cons_succ, List.getElem?_cons_zero]); first | done | rfl)); (focus (exact fun _ _ _ h => h)); (focus rfl); (focus (intro wz hSw; (try dsimp only at hSw); go_simp; first | done | with_reducible rfl)); try simp only [Act.put, List.setIfInBounds_toArray, List.set_cons_zero, List.set_cons_succ])
    (refine wpAnyH_take (i := 23) (oi := ?_) (v := ?_) ?_ (by kernel_rfl) (by kernel_rfl) (by kernel_rfl) ?_ (Or.inl ⟨?_, ?_⟩) (by assumption) ?_; rotate_left 2; (focus ((simp only [List.getElem?_toArray, List.getElem?_cons_succ, List.getElem?_cons_zero]); first | done | rfl)); (focus (exact fun _ _ _ h => h)); (focus rfl); (focus (intro wz hSw; (try dsimp only at hSw); go_simp; first | done | with_reducible rfl)); try simp only [Act.put, List.setIfInBounds_toArray, List.set_cons_zero, List.set_cons_succ])
    refine wpAnyH_done (by kernel_rfl) ?_ _
    have HF := Lib.hid (HFw.out _ hHeld.1)
    clear hHeld
    go_wp2_with fail
    go_ret
    exact ⟨rfl, HF.out⟩
end Go.Proofs.Ytjehgdjlncofeaa

namespace Go.Proofs.Ytjehgdjlncofeaa.munchSure
open Go.ChangeShapes Go.WideShapes Go.ChangeAt Go.RowKit Go.Deep
set_option linter.unusedVariables false

set_option maxRecDepth 100000 in
theorem lifted (os : Os) (started : os.Started) (H : Type) (enc : TypeId × Value → H) :
    ReturnsInHanded {} Try.checked os 5 .any (Rows.munchSureSpec.pre6 enc Try.prog Try.f5 Rows.munchSureRow.domain false) (Rows.munchSureSpec.post enc Try.prog Try.f5 false true false false) := by
  refine returnsInHanded_of_change (C := Try.checked) own started (by kernel_rfl) Try.func5
    (ChangeSpec.witness6 (enc := enc) (C := Try.checked) false ⟨#[], #[.agg ((List.replicate 256 (Value.int .u8 0)) ++ [Value.slice none 0 0, Value.slice none 0 0]).toArray, .string .empty, .agg #[.string .empty, .string .empty]], []⟩ 8 (by kernel_rfl) (by kernel_rfl) (by kernel_rfl) (by kernel_rfl)) ?_
  intro W base args ds gs before hval0 hW hcnd _
  have hval : ∀ (j : Nat) t v, Try.f5.params[j]? = some t → args[j]? = some v → Value.okWide Try.prog W .any base t v := hval0
  have hW' := hW
  obtain ⟨p, q, hA0, hV, rfl, hfz, hnd⟩ := hW
  have hA : DataW.TrodAll enc Try.prog W 0 (fun _ => true) true Try.f5.params.toList args.toList ds p := hA0
  rw [Try.params5] at hA hval
  obtain ⟨v0, vs0, d0, ds0, p0, q0, hargs, rfl, rfl, h0, r0⟩ := trodAll_cons hA
  obtain ⟨v1, vs1, d1, ds1, p1, q1, rfl, rfl, rfl, h1, r1⟩ := trodAll_cons r0
  obtain ⟨v2, vs2, d2, ds2, p2, q2, rfl, rfl, rfl, h2, r2⟩ := trodAll_cons r1
  obtain ⟨rfl, rfl, rfl⟩ := trodAll_nil r2
  obtain rfl : args = #[v0, v1, v2] := by cases args; simp_all
  obtain ⟨rfl, rfl⟩ := trodVars_none hV
  have k0 := h0
  have lt0 : ∀ x ∈ p0, x.block < W.heap.size := by obtain ⟨m, hm⟩ := k0; exact DataW.trod_lt m _ _ _ hm
  obtain ⟨D0, rfl, hD0, hn0, hm0, hl0⟩ := open_dfa_val (hval 0 26 v0 rfl rfl) (by obtain ⟨fuel, hf⟩ := h0; exact ⟨fuel, _, hf⟩)
  obtain ⟨s1, rfl, rfl, rfl, hs1⟩ := Go.ChangeMaps.open_string Try.underlying9 (hval 1 9 v1 rfl rfl) h1
  have hs91 := hs1
  have k2 := h2
  have lt2 : ∀ x ∈ p2, x.block < W.heap.size := by obtain ⟨m, hm⟩ := k2; exact DataW.trod_lt m _ _ _ hm
  obtain ⟨s2, t2, rfl, hs2, ht2⟩ := open_two12 (hval 2 44 v2 rfl rfl) (by obtain ⟨fuel, hf⟩ := h2; exact ⟨fuel, _, hf⟩)
  clear hA0 hval0
  unfold maxLen at hn0 hm0 hl0 hs91 hs2 ht2
  refine (munchSureL_any D0 s1 s2 t2 (by omega) (by omega) (fun i hi => Nat.le_trans (hl0 i hi) (by omega)) (by omega) (by omega) (by omega) W hD0).mono fun e W' ⟨he, bel⟩ => ?_
  subst he
  exact ⟨_, rfl, _, _, _, [], _, [], hW', trodAll_mk1 (shut_bool Try.underlying4 _), (trodAll_cons_mk (Below.trod laidOut (by kernel_rfl) (of_decide_eq_true (by kernel_rfl)) k0 bel lt0) (trodAll_cons_mk (Go.ChangeMaps.shut_string Try.underlying9 hs1) (trodAll_cons_mk (Below.trod laidOut (by kernel_rfl) (of_decide_eq_true (by kernel_rfl)) k2 bel lt2) trodAll_mk0))), rfl, bel.frame _, fun h => by cases h⟩

theorem over : Rows.munchSureRow.holds Try.pinned (OpenSpec.ofChange Rows.munchSureSpec) :=
  OpenClaim.holds_of_wide 5 Try.f5 rfl rfl rfl rfl rfl rfl rfl ⟨rfl, rfl, rfl, rfl, rfl⟩ rfl rfl rfl rfl rfl (by kernel_rfl) Try.func5 (by kernel_rfl)
    (of_decide_eq_true (by kernel_rfl)) (by unfold Func.isWrapper; first | (rw [if_pos (by decide +kernel)]; kernel_rfl) | (rw [if_neg (by decide +kernel)]; exact ⟨rfl, rfl⟩))
    (fun os started H enc _ => lifted os started H enc)

/-- The statement. -/
theorem proved : Rows.MunchSureSaid := over
end Go.Proofs.Ytjehgdjlncofeaa.munchSure
