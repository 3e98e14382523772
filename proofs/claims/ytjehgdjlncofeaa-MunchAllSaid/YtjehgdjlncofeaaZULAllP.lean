/-
  What is proved: for every automaton and every text the law MunchAll returns true and leaves its arguments as they were. No condition.
-/
import Derived.Test.YtjehgdjlncofeaaZPRef8
import Derived.Test.YtjehgdjlncofeaaZUAwk2
import Derived.Test.YtjehgdjlncofeaaZUFrame
import Derived.Test.YtjehgdjlncofeaaZURall
import Derived.Test.YtjehgdjlncofeaaZUText
import Derived.Deep.QuietTactic
import Derived.BigQuiet
namespace Go.Proofs.Ytjehgdjlncofeaa
open Go.RowKit Go.Maps Go.WideElems Go.ChangeMaps Go.MapKept
set_option linter.unusedVariables false
set_option linter.unusedSimpArgs false

theorem nums_extract (s : ByteArray) (a b : Nat) : numsOf (s.extract a b) = ((numsOf s).drop a).take (b - a) := by
  unfold numsOf
  rw [ByteArray.data_extract, Array.toList_extract, List.extract_eq_take_drop, List.map_take, List.map_drop]
theorem txt_toks (D : Dd) (s : ByteArray) (k : Nat) : txtF (tkL D s k) = (numsOf s).take (tkE D s k) := by
  induction k with
  | zero => rfl
  | succ k ih =>
    obtain ⟨mk, ln, hml⟩ : ∃ mk ln, longF D (zof s) (tkE D s k) (s.size - tkE D s k) = (mk, ln) := ⟨_, _, rfl⟩
    obtain ⟨h1, h2⟩ := tk_succ rfl hml
    rw [h1, h2]
    unfold txtF at ih ⊢
    rw [List.flatMap_append, ih]
    simp only [List.flatMap_cons, List.flatMap_nil, List.append_nil]
    rw [nums_extract, show tkE D s k + ln - tkE D s k = ln by omega, List.take_add]
theorem txt_str (D : Dd) (s : ByteArray) (k : Nat) : strOf (txtF (tkL D s k)) = s.extract 0 (tkE D s k) := by
  have h := nums_extract s 0 (tkE D s k)
  rw [txt_toks, ← strOf_nums (s.extract 0 (tkE D s k)), h, List.drop_zero, Nat.sub_zero]
theorem nums_len (s : ByteArray) : (numsOf s).length = s.size := by rw [← strOf_size (numsOf s), strOf_nums]

set_option maxHeartbeats 4000000 in
set_option maxRecDepth 100000 in
theorem munchAllL_any (D : Dd) (s : ByteArray) (hn : D.n ≤ 9223372036854775807) (hm : D.m ≤ 9223372036854775807) (hl : ∀ i, i < D.n → D.len i ≤ 9223372036854775807) (hs9 : s.size ≤ 9223372036854775807) (w : World) (hD : DM w D) :
    Calls Try.prog 3 #[.agg D.cD, .string s] w fun e w' => e = .returned (.bool true) ∧ Below w.heap.size w w' := by
  have kb := al w (.cells D.cD 26)
  have HB : Hid (DBx (w.alloc (.cells D.cD 26)) w.heap.size D ∧ Below w.heap.size w (w.alloc (.cells D.cD 26))) := ⟨DBx.new hD, kb⟩
  have HL := Lib.hid hl
  clear kb hD hl
  go_enter Try.func3, Try.ntmps3
  go_upto_region 1 with fail
  generalize w.alloc (.cells D.cD 26) = W0 at HB ⊢
  obtain ⟨b, hb0⟩ : ∃ b0, w.heap.size = b0 := ⟨_, rfl⟩
  have Hb0 := Lib.hid hb0
  rw [hb0] at HB
  rw [hb0]
  clear hb0
  have HFw : Hid (∀ W', Below W0.heap.size W0 W' → Below w.heap.size w W') := fun W' h => by
    have hz := HB.out.2.size
    rw [Hb0.out]
    exact HB.out.2.trans (h.mono (by have := Hb0.out; omega))
  have HW := Lib.hid (awake12_any W0)
  go_upto_region 3 with (go_at_call 7; refine HW.out.mono ?_; rintro e w1 ⟨rfl, b1⟩)
  have H1 := Lib.hid (And.intro (HB.out.1.keep b1) b1)
  clear b1 HW
  have HSm := Lib.hid (small_any D hn hm HL.out w1 H1.out.1.dm)
  go_wp2_with (first
    | (refine wpList_load_any9 (by rfl) 26 _ rfl ⟨b, 0, none⟩ rfl D.cD _ H1.out.1.st.part Try.underlying26 rfl H1.out.1.dm.info ?_)
    | (go_at_call 8; refine HSm.out.mono ?_))
  rintro e w2 ⟨x, rfl, hx, b2⟩
  have H2 := Lib.hid (And.intro (H1.out.1.keep b2) (H1.out.2.trans (b2.mono H1.out.2.size)))
  clear b2 HSm
  rcases x with _ | _
  · have HF := Lib.hid (HFw.out _ H2.out.2)
    clear hx
    go_wp2_with fail
    go_ret
    exact ⟨rfl, HF.out⟩
  have hsm := hx rfl
  have Hsm := Lib.hid hsm
  clear hx hsm hn hm
  have HRt := Lib.hid (rright8_iff D w2 H2.out.1.dm Hsm.out.1 Hsm.out.2.1 Hsm.out.2.2)
  go_wp2_with (first
    | (refine wpList_load_any9 (by rfl) 26 _ rfl ⟨b, 0, none⟩ rfl D.cD _ H2.out.1.st.part Try.underlying26 rfl H2.out.1.dm.info ?_)
    | (go_at_call 9; refine HRt.out.mono ?_))
  rintro e w3 ⟨y, rfl, hy, b3⟩
  have H3 := Lib.hid (And.intro (H2.out.1.keep b3) (H2.out.2.trans (b3.mono H2.out.2.size)))
  clear b3 HRt H2 H1
  rcases y with _ | _
  · have HF := Lib.hid (HFw.out _ H3.out.2)
    clear hy
    go_wp2_with fail
    go_ret
    exact ⟨rfl, HF.out⟩
  obtain ⟨C, hR⟩ := hy.1 rfl
  have HR := Lib.hid hR
  clear hy hR
  by_cases h6 : 60 < s.size
  · have i1 : (60 : Int) < (s.size : Int) := by omega
    have HF := Lib.hid (HFw.out _ H3.out.2)
    go_wp2_with fail
    go_ret
    exact ⟨rfl, HF.out⟩
  have i1 : ¬ ((60 : Int) < (s.size : Int)) := by omega
  have HM1 := Lib.hid (mall_any D C HR.out s s.size rfl (by omega) w3 H3.out.1.dm)
  go_upto_region 6 with (first
    | (refine wpList_load_any9 (by rfl) 26 _ rfl ⟨b, 0, none⟩ rfl D.cD _ H3.out.1.st.part Try.underlying26 rfl H3.out.1.dm.info ?_)
    | (go_at_call 10; refine HM1.out.mono ?_; rintro e w4 ⟨k, aP, cP, hst, hno, rfl, hT, hks, b4⟩))
  have H4 := Lib.hid (And.intro (H3.out.1.keep b4) (And.intro (H3.out.2.trans (b4.mono H3.out.2.size)) (And.intro hT (And.intro hst hno))))
  clear b4 HM1 H3 hT hst hno
  have HM2 := Lib.hid (rall_any D C HR.out s s.size rfl (by omega) w4 H4.out.1.dm)
  have HU : Hid (∀ k', StopS D s k' → (∀ j, j < k' → ¬ StopS D s j) → k' = k) := fun k' h1 h2 => stopN_uniq h2 h1 H4.out.2.2.2.2 H4.out.2.2.2.1
  go_upto_region 7 with (first
    | (refine wpList_load_any9 (by rfl) 26 _ rfl ⟨b, 0, none⟩ rfl D.cD _ H4.out.1.st.part Try.underlying26 rfl H4.out.1.dm.info ?_)
    | (go_at_call 11; refine HM2.out.mono ?_; rintro e w5 ⟨k', aR, cR, hst, hno, rfl, hT, hks', b5⟩))
  have hkk := HU.out k' hst hno
  clear hst hno hks'
  subst hkk
  have HP := Lib.hid (H4.out.2.2.1.below b5)
  have H5 := Lib.hid (And.intro (H4.out.1.keep b5) (And.intro (H4.out.2.1.trans (b5.mono H4.out.2.1.size)) hT))
  have HX := Lib.hid (txt_str D s k')
  have Hle := Lib.hid (tkE_le D s k')
  have HLen := Lib.hid (tkL_len D s k')
  have Htl : Hid ((txtF (tkL D s k')).length ≤ 100000000) := by
    show _ ≤ _
    rw [txt_toks, List.length_take, nums_len]
    omega
  clear b5 HM2 H4 HU hT
  obtain ⟨E, hE⟩ : ∃ E, tkE D s k' = E := ⟨_, rfl⟩
  obtain ⟨L, hL⟩ : ∃ L, tkL D s k' = L := ⟨_, rfl⟩
  rw [hE] at HX Hle ⊢
  rw [hL] at HX HLen HP H5 Htl
  clear hE hL
  have heq := run_eq_tok
  obtain ⟨ok, hok⟩ : ∃ ok, decide (s.size ≤ E) = ok := ⟨_, rfl⟩
  rw [hok]
  clear hok
  rcases ok with _ | _
  · rw [show errO false = .int .i64 7 from rfl, show boolO false = .bool false from rfl]
    go_wp2_with fail
    go_loopw [11] (fun v wr => ∃ j : Nat, v = .int .i64 j ∧ j ≤ k' ∧ Hid (Below w5.heap.size w5 wr)) (fun v _ => k' - (intOf v).toNat)
    case atStart => exact ⟨0, rfl, Nat.zero_le _, Below.refl _ _⟩
    case round =>
      obtain ⟨j, rfl, hj, HR⟩ := hrel
      by_cases hlt : j < k'
      · have hjL : j < L.length := by rw [HLen.out]; exact hlt
        obtain ⟨g1, o1, rfl, _, x0, x1, x2⟩ := (HP.out.below HR.out).get j hjL
        obtain ⟨g2, o2, rfl, _, y0, y1, y2⟩ := (H5.out.2.2.below HR.out).get j hjL
        generalize L[j] = x at x0 x1 x2 y0 y1 y2
        obtain ⟨r, t, q⟩ := x
        dsimp only at x0 x1 x2 y0 y1 y2
        have i2 : (j : Int) < (k' : Int) := by omega
        have HN := Lib.hid HR.out.drew
        clear hjL
        go_upto_region 12 with fail
        go_region
        go_wp2_with fail
        go_roundw
        case rel => exact ⟨j + 1, by go_num, by omega, HN⟩
        case measure => simp [intOf]; omega
      · obtain rfl : j = k' := by omega
        have HM3 : Hid (∀ W, Below w5.heap.size w5 W → Calls Try.prog 12 #[.slice aP j cP] W (fun e w' => e = .returned (.string (strOf (txtF L))) ∧ Below W.heap.size W w')) := fun W h => mtext_any j cP aP L HLen.out (by omega) Htl.out W (HP.out.below h)
        have HM4 : Hid (∀ W, Below w5.heap.size w5 W → Calls Try.prog 13 #[.slice aP j cP, .slice aR j cR] W (TruPost (SmT L L) W)) := fun W h => msame_any j j cP cR aP aR L L HLen.out HLen.out (by omega) (by omega) W (HP.out.below h) (H5.out.2.2.below h)
        have i2 : (E : Int) ≤ (s.size : Int) := by have := Hle.out; omega
        have hE : (s.extract 0 E).toList == (s.extract 0 E).toList := by simp
        clear heq
        go_upto_region 14 with fail
        refine wp_region_held_drew (S := fun W' => Below w5.heap.size w5 W') (by kernel_rfl) HR.out.drew (fun hHeld => ?_)
        (refine wpAnyH_take (i := 0) (oi := ?_) (v := ?_) ?_ (by kernel_rfl) (by kernel_rfl) (by kernel_rfl) ?_ (Or.inl ⟨?_, ?_⟩) (by assumption) ?_; rotate_left 2; (focus ((simp only [List.getElem?_toArray, List.getElem?_cons_zero]); first | done | rfl)); (focus (exact fun _ _ _ h => h)); (focus rfl); (focus (intro wz hSw; (try dsimp only at hSw); go_simp; first | done | with_reducible rfl)); try simp only [Act.put, List.setIfInBounds_toArray, List.set_cons_zero, List.set_cons_succ])
        (refine wpAnyH_take (i := 2) (oi := ?_) (v := ?_) ?_ (by kernel_rfl) (by kernel_rfl) (by kernel_rfl) ?_ (Or.inl ⟨?_, ?_⟩) (by assumption) ?_; rotate_left 2; (focus ((simp only [List.getElem?_toArray, List.getElem?_cons_succ, List.getElem?_cons_zero]); first | done | rfl)); (focus (exact fun _ _ _ h => h)); (focus rfl); (focus (intro wz hSw; (try dsimp only at hSw); go_simp; first | done | with_reducible rfl)); try simp only [Act.put, List.setIfInBounds_toArray, List.set_cons_zero, List.set_cons_succ])
        (refine wpAnyH_take (i := 3) (oi := ?_) (v := ?_) ?_ (by kernel_rfl) (by kernel_rfl) (by kernel_rfl) ?_ (Or.inl ⟨?_, ?_⟩) (by assumption) ?_; rotate_left 2; (focus ((simp only [List.getElem?_toArray, List.getElem?_cons_succ, List.getElem?_cons_zero]); first | done | rfl)); (focus (exact fun _ _ _ h => h)); (focus rfl); (focus (intro wz hSw; (try dsimp only at hSw); go_simp; first | done | with_reducible rfl)); try simp only [Act.put, List.setIfInBounds_toArray, List.set_cons_zero, List.set_cons_succ])
        (refine wpAnyH_take (i := 4) (oi := ?_) (v := ?_) ?_ (by kernel_rfl) (by kernel_rfl) (by kernel_rfl) ?_ (Or.inl ⟨?_, ?_⟩) (by assumption) ?_; rotate_left 2; (focus ((simp only [List.getElem?_toArray, List.getElem?_cons_succ, List.getElem?_cons_zero]); first | done | rfl)); (focus (exact fun _ _ _ h => h)); (focus rfl); (focus (intro wz hSw; (try dsimp only at hSw); go_simp; first | done | with_reducible rfl)); try simp only [Act.put, List.setIfInBounds_toArray, List.set_cons_zero, List.set_cons_succ])
        refine wpAnyH_ready (rs := [1]) (by kernel_rfl) (by simp) ?_
        refine AllReadyH.cons (o := ?_) ?_ (fun K hK => ?_) ?_
        rotate_left
        (focus ((simp only [List.getElem?_toArray, List.getElem?_cons_succ, List.getElem?_cons_zero]); first | done | rfl))
        · skip
          go_simp
          go_at_call 12
          refine (HM3.out _ hHeld).mono ?_
          rintro e w7 ⟨rfl, b7⟩
          rw [HX.out]
          have hbn : Below w5.heap.size w5 w7 := hHeld.trans (b7.mono hHeld.size)
          clear b7
          try go_wp2_with fail
          refine hK.out _ _ (hbn) (fun hHeld => ?_)
          clear hK K
          try simp only [Act.put, List.setIfInBounds_toArray, List.set_cons_zero, List.set_cons_succ]
          clear hbn
          (refine wpAnyH_take (i := 5) (oi := ?_) (v := ?_) ?_ (by kernel_rfl) (by kernel_rfl) (by kernel_rfl) ?_ (Or.inl ⟨?_, ?_⟩) (by assumption) ?_; rotate_left 2; (focus ((simp only [List.getElem?_toArray, List.getElem?_cons_succ, List.getElem?_cons_zero]); first | done | rfl)); (focus (exact fun _ _ _ h => h)); (focus rfl); (focus (intro wz hSw; (try dsimp only at hSw); go_simp; first | done | with_reducible rfl)); try simp only [Act.put, List.setIfInBounds_toArray, List.set_cons_zero, List.set_cons_succ])
          (refine wpAnyH_take (i := 6) (oi := ?_) (v := ?_) ?_ (by kernel_rfl) (by kernel_rfl) (by kernel_rfl) ?_ (Or.inl ⟨?_, ?_⟩) (by assumption) ?_; rotate_left 2; (focus ((simp only [List.getElem?_toArray, List.getElem?_cons_succ, List.getElem?_cons_zero]); first | done | rfl)); (focus (exact fun _ _ _ h => h)); (focus rfl); (focus (intro wz hSw; (try dsimp only at hSw); go_simp; first | done | with_reducible rfl)); try simp only [Act.put, List.setIfInBounds_toArray, List.set_cons_zero, List.set_cons_succ])
          (refine wpAnyH_take (i := 7) (oi := ?_) (v := ?_) ?_ (by kernel_rfl) (by kernel_rfl) (by kernel_rfl) ?_ (Or.inl ⟨?_, ?_⟩) (by assumption) ?_; rotate_left 2; (focus ((simp only [List.getElem?_toArray, List.getElem?_cons_succ, List.getElem?_cons_zero]); first | done | rfl)); (focus (exact fun _ _ _ h => h)); (focus rfl); (focus (intro wz hSw; (try dsimp only at hSw); go_simp; first | done | with_reducible rfl)); try simp only [Act.put, List.setIfInBounds_toArray, List.set_cons_zero, List.set_cons_succ])
          (refine wpAnyH_take (i := 8) (oi := ?_) (v := ?_) ?_ (by kernel_rfl) (by kernel_rfl) (by kernel_rfl) ?_ (Or.inl ⟨?_, ?_⟩) (by assumption) ?_; rotate_left 2; (focus ((simp only [List.getElem?_toArray, List.getElem?_cons_succ, List.getElem?_cons_zero]); first | done | rfl)); (focus (exact fun _ _ _ h => h)); (focus rfl); (focus (intro wz hSw; (try dsimp only at hSw); go_simp; first | done | with_reducible rfl)); try simp only [Act.put, List.setIfInBounds_toArray, List.set_cons_zero, List.set_cons_succ])
          refine wpAnyH_ready (rs := [9]) (by kernel_rfl) (by simp) ?_
          refine AllReadyH.cons (o := ?_) ?_ (fun K hK => ?_) ?_
          rotate_left
          (focus ((simp only [List.getElem?_toArray, List.getElem?_cons_succ, List.getElem?_cons_zero]); first | done | rfl))
          · skip
            go_simp
            go_at_call 13
            refine (HM4.out _ hHeld).mono ?_
            rintro e w8 ⟨x, rfl, hx, b8⟩
            obtain rfl := hx.2 rfl
            have hbn : Below w5.heap.size w5 w8 := hHeld.trans (b8.mono hHeld.size)
            clear b8 hx
            try go_wp2_with fail
            refine hK.out _ _ (hbn) (fun hHeld => ?_)
            clear hK K
            try simp only [Act.put, List.setIfInBounds_toArray, List.set_cons_zero, List.set_cons_succ]
            (refine wpAnyH_take (i := 10) (oi := ?_) (v := ?_) ?_ (by kernel_rfl) (by kernel_rfl) (by kernel_rfl) ?_ (Or.inl ⟨?_, ?_⟩) (by assumption) ?_; rotate_left 2; (focus ((simp only [List.getElem?_toArray, List.getElem?_cons_succ, List.getElem?_cons_zero]); first | done | rfl)); (focus (exact fun _ _ _ h => h)); (focus rfl); (focus (intro wz hSw; (try dsimp only at hSw); go_simp; first | done | with_reducible rfl)); try simp only [Act.put, List.setIfInBounds_toArray, List.set_cons_zero, List.set_cons_succ])
            (refine wpAnyH_take (i := 11) (oi := ?_) (v := ?_) ?_ (by kernel_rfl) (by kernel_rfl) (by kernel_rfl) ?_ (Or.inl ⟨?_, ?_⟩) (by assumption) ?_; rotate_left 2; (focus ((simp only [List.getElem?_toArray, List.getElem?_cons_succ, List.getElem?_cons_zero]); first | done | rfl)); (focus (exact fun _ _ _ h => h)); (focus rfl); (focus (intro wz hSw; (try dsimp only at hSw); go_simp; first | done | with_reducible rfl)); try simp only [Act.put, List.setIfInBounds_toArray, List.set_cons_zero, List.set_cons_succ])
            refine wpAnyH_done (by kernel_rfl) ?_ _
            have HF := Lib.hid (HFw.out _ (H5.out.2.1.trans (hbn.mono H5.out.2.1.size)))
            clear hHeld hbn
            go_wp2_with fail
            go_ret
            exact ⟨rfl, HF.out⟩
          exact AllReadyH.nil
        exact AllReadyH.nil
  · rw [show errO true = .int .i64 0 from rfl, show boolO true = .bool true from rfl]
    go_wp2_with fail
    go_loopw [11] (fun v wr => ∃ j : Nat, v = .int .i64 j ∧ j ≤ k' ∧ Hid (Below w5.heap.size w5 wr)) (fun v _ => k' - (intOf v).toNat)
    case atStart => exact ⟨0, rfl, Nat.zero_le _, Below.refl _ _⟩
    case round =>
      obtain ⟨j, rfl, hj, HR⟩ := hrel
      by_cases hlt : j < k'
      · have hjL : j < L.length := by rw [HLen.out]; exact hlt
        obtain ⟨g1, o1, rfl, _, x0, x1, x2⟩ := (HP.out.below HR.out).get j hjL
        obtain ⟨g2, o2, rfl, _, y0, y1, y2⟩ := (H5.out.2.2.below HR.out).get j hjL
        generalize L[j] = x at x0 x1 x2 y0 y1 y2
        obtain ⟨r, t, q⟩ := x
        dsimp only at x0 x1 x2 y0 y1 y2
        have i2 : (j : Int) < (k' : Int) := by omega
        have HN := Lib.hid HR.out.drew
        clear hjL
        go_upto_region 12 with fail
        go_region
        go_wp2_with fail
        go_roundw
        case rel => exact ⟨j + 1, by go_num, by omega, HN⟩
        case measure => simp [intOf]; omega
      · obtain rfl : j = k' := by omega
        have HM3 : Hid (∀ W, Below w5.heap.size w5 W → Calls Try.prog 12 #[.slice aP j cP] W (fun e w' => e = .returned (.string (strOf (txtF L))) ∧ Below W.heap.size W w')) := fun W h => mtext_any j cP aP L HLen.out (by omega) Htl.out W (HP.out.below h)
        have HM4 : Hid (∀ W, Below w5.heap.size w5 W → Calls Try.prog 13 #[.slice aP j cP, .slice aR j cR] W (TruPost (SmT L L) W)) := fun W h => msame_any j j cP cR aP aR L L HLen.out HLen.out (by omega) (by omega) W (HP.out.below h) (H5.out.2.2.below h)
        have i2 : (E : Int) ≤ (s.size : Int) := by have := Hle.out; omega
        have hE : (s.extract 0 E).toList == (s.extract 0 E).toList := by simp
        clear heq
        go_upto_region 14 with fail
        refine wp_region_held_drew (S := fun W' => Below w5.heap.size w5 W') (by kernel_rfl) HR.out.drew (fun hHeld => ?_)
        (refine wpAnyH_take (i := 0) (oi := ?_) (v := ?_) ?_ (by kernel_rfl) (by kernel_rfl) (by kernel_rfl) ?_ (Or.inl ⟨?_, ?_⟩) (by assumption) ?_; rotate_left 2; (focus ((simp only [List.getElem?_toArray, List.getElem?_cons_zero]); first | done | rfl)); (focus (exact fun _ _ _ h => h)); (focus rfl); (focus (intro wz hSw; (try dsimp only at hSw); go_simp; first | done | with_reducible rfl)); try simp only [Act.put, List.setIfInBounds_toArray, List.set_cons_zero, List.set_cons_succ])
        (refine wpAnyH_take (i := 2) (oi := ?_) (v := ?_) ?_ (by kernel_rfl) (by kernel_rfl) (by kernel_rfl) ?_ (Or.inl ⟨?_, ?_⟩) (by assumption) ?_; rotate_left 2; (focus ((simp only [List.getElem?_toArray, List.getElem?_cons_succ, List.getElem?_cons_zero]); first | done | rfl)); (focus (exact fun _ _ _ h => h)); (focus rfl); (focus (intro wz hSw; (try dsimp only at hSw); go_simp; first | done | with_reducible rfl)); try simp only [Act.put, List.setIfInBounds_toArray, List.set_cons_zero, List.set_cons_succ])
        (refine wpAnyH_take (i := 3) (oi := ?_) (v := ?_) ?_ (by kernel_rfl) (by kernel_rfl) (by kernel_rfl) ?_ (Or.inl ⟨?_, ?_⟩) (by assumption) ?_; rotate_left 2; (focus ((simp only [List.getElem?_toArray, List.getElem?_cons_succ, List.getElem?_cons_zero]); first | done | rfl)); (focus (exact fun _ _ _ h => h)); (focus rfl); (focus (intro wz hSw; (try dsimp only at hSw); go_simp; first | done | with_reducible rfl)); try simp only [Act.put, List.setIfInBounds_toArray, List.set_cons_zero, List.set_cons_succ])
        (refine wpAnyH_take (i := 4) (oi := ?_) (v := ?_) ?_ (by kernel_rfl) (by kernel_rfl) (by kernel_rfl) ?_ (Or.inl ⟨?_, ?_⟩) (by assumption) ?_; rotate_left 2; (focus ((simp only [List.getElem?_toArray, List.getElem?_cons_succ, List.getElem?_cons_zero]); first | done | rfl)); (focus (exact fun _ _ _ h => h)); (focus rfl); (focus (intro wz hSw; (try dsimp only at hSw); go_simp; first | done | with_reducible rfl)); try simp only [Act.put, List.setIfInBounds_toArray, List.set_cons_zero, List.set_cons_succ])
        refine wpAnyH_ready (rs := [1]) (by kernel_rfl) (by simp) ?_
        refine AllReadyH.cons (o := ?_) ?_ (fun K hK => ?_) ?_
        rotate_left
        (focus ((simp only [List.getElem?_toArray, List.getElem?_cons_succ, List.getElem?_cons_zero]); first | done | rfl))
        · skip
          go_simp
          go_at_call 12
          refine (HM3.out _ hHeld).mono ?_
          rintro e w7 ⟨rfl, b7⟩
          rw [HX.out]
          have hbn : Below w5.heap.size w5 w7 := hHeld.trans (b7.mono hHeld.size)
          clear b7
          try go_wp2_with fail
          refine hK.out _ _ (hbn) (fun hHeld => ?_)
          clear hK K
          try simp only [Act.put, List.setIfInBounds_toArray, List.set_cons_zero, List.set_cons_succ]
          clear hbn
          (refine wpAnyH_take (i := 5) (oi := ?_) (v := ?_) ?_ (by kernel_rfl) (by kernel_rfl) (by kernel_rfl) ?_ (Or.inl ⟨?_, ?_⟩) (by assumption) ?_; rotate_left 2; (focus ((simp only [List.getElem?_toArray, List.getElem?_cons_succ, List.getElem?_cons_zero]); first | done | rfl)); (focus (exact fun _ _ _ h => h)); (focus rfl); (focus (intro wz hSw; (try dsimp only at hSw); go_simp; first | done | with_reducible rfl)); try simp only [Act.put, List.setIfInBounds_toArray, List.set_cons_zero, List.set_cons_succ])
          (refine wpAnyH_take (i := 6) (oi := ?_) (v := ?_) ?_ (by kernel_rfl) (by kernel_rfl) (by kernel_rfl) ?_ (Or.inl ⟨?_, ?_⟩) (by assumption) ?_; rotate_left 2; (focus ((simp only [List.getElem?_toArray, List.getElem?_cons_succ, List.getElem?_cons_zero]); first | done | rfl)); (focus (exact fun _ _ _ h => h)); (focus rfl); (focus (intro wz hSw; (try dsimp only at hSw); go_simp; first | done | with_reducible rfl)); try simp only [Act.put, List.setIfInBounds_toArray, List.set_cons_zero, List.set_cons_succ])
          (refine wpAnyH_take (i := 7) (oi := ?_) (v := ?_) ?_ (by kernel_rfl) (by kernel_rfl) (by kernel_rfl) ?_ (Or.inl ⟨?_, ?_⟩) (by assumption) ?_; rotate_left 2; (focus ((simp only [List.getElem?_toArray, List.getElem?_cons_succ, List.getElem?_cons_zero]); first | done | rfl)); (focus (exact fun _ _ _ h => h)); (focus rfl); (focus (intro wz hSw; (try dsimp only at hSw); go_simp; first | done | with_reducible rfl)); try simp only [Act.put, List.setIfInBounds_toArray, List.set_cons_zero, List.set_cons_succ])
          (refine wpAnyH_take (i := 8) (oi := ?_) (v := ?_) ?_ (by kernel_rfl) (by kernel_rfl) (by kernel_rfl) ?_ (Or.inl ⟨?_, ?_⟩) (by assumption) ?_; rotate_left 2; (focus ((simp only [List.getElem?_toArray, List.getElem?_cons_succ, List.getElem?_cons_zero]); first | done | rfl)); (focus (exact fun _ _ _ h => h)); (focus rfl); (focus (intro wz hSw; (try dsimp only at hSw); go_simp; first | done | with_reducible rfl)); try simp only [Act.put, List.setIfInBounds_toArray, List.set_cons_zero, List.set_cons_succ])
          refine wpAnyH_ready (rs := [9]) (by kernel_rfl) (by simp) ?_
          refine AllReadyH.cons (o := ?_) ?_ (fun K hK => ?_) ?_
          rotate_left
          (focus ((simp only [List.getElem?_toArray, List.getElem?_cons_succ, List.getElem?_cons_zero]); first | done | rfl))
          · skip
            go_simp
            go_at_call 13
            refine (HM4.out _ hHeld).mono ?_
            rintro e w8 ⟨x, rfl, hx, b8⟩
            obtain rfl := hx.2 rfl
            have hbn : Below w5.heap.size w5 w8 := hHeld.trans (b8.mono hHeld.size)
            clear b8 hx
            try go_wp2_with fail
            refine hK.out _ _ (hbn) (fun hHeld => ?_)
            clear hK K
            try simp only [Act.put, List.setIfInBounds_toArray, List.set_cons_zero, List.set_cons_succ]
            (refine wpAnyH_take (i := 10) (oi := ?_) (v := ?_) ?_ (by kernel_rfl) (by kernel_rfl) (by kernel_rfl) ?_ (Or.inl ⟨?_, ?_⟩) (by assumption) ?_; rotate_left 2; (focus ((simp only [List.getElem?_toArray, List.getElem?_cons_succ, List.getElem?_cons_zero]); first | done | rfl)); (focus (exact fun _ _ _ h => h)); (focus rfl); (focus (intro wz hSw; (try dsimp only at hSw); go_simp; first | done | with_reducible rfl)); try simp only [Act.put, List.setIfInBounds_toArray, List.set_cons_zero, List.set_cons_succ])
            (refine wpAnyH_take (i := 11) (oi := ?_) (v := ?_) ?_ (by kernel_rfl) (by kernel_rfl) (by kernel_rfl) ?_ (Or.inl ⟨?_, ?_⟩) (by assumption) ?_; rotate_left 2; (focus ((simp only [List.getElem?_toArray, List.getElem?_cons_succ, List.getElem?_cons_zero]); first | done | rfl)); (focus (exact fun _ _ _ h => h)); (focus rfl); (focus (intro wz hSw; (try dsimp only at hSw); go_simp; first | done | with_reducible rfl)); try simp only [Act.put, List.setIfInBounds_toArray, List.set_cons_zero, List.set_cons_succ])
            refine wpAnyH_done (by kernel_rfl) ?_ _
            have HF := Lib.hid (HFw.out _ (H5.out.2.1.trans (hbn.mono H5.out.2.1.size)))
            clear hHeld hbn
            go_wp2_with fail
            go_ret
            exact ⟨rfl, HF.out⟩
          exact AllReadyH.nil
        exact AllReadyH.nil
end Go.Proofs.Ytjehgdjlncofeaa

namespace Go.Proofs.Ytjehgdjlncofeaa.munchAll
open Go.ChangeShapes Go.WideShapes Go.ChangeAt Go.RowKit Go.Deep
set_option linter.unusedVariables false

set_option maxRecDepth 100000 in
theorem lifted (os : Os) (started : os.Started) (H : Type) (enc : TypeId × Value → H) :
    ReturnsInHanded {} Try.checked os 3 .any (Rows.munchAllSpec.pre6 enc Try.prog Try.f3 Rows.munchAllRow.domain false) (Rows.munchAllSpec.post enc Try.prog Try.f3 false true false false) := by
  refine returnsInHanded_of_change (C := Try.checked) own started (by kernel_rfl) Try.func3
    (ChangeSpec.witness6 (enc := enc) (C := Try.checked) false ⟨#[], #[.agg ((List.replicate 256 (Value.int .u8 0)) ++ [Value.slice none 0 0, Value.slice none 0 0]).toArray, .string .empty], []⟩ 8 (by kernel_rfl) (by kernel_rfl) (by kernel_rfl) (by kernel_rfl)) ?_
  intro W base args ds gs before hval0 hW hcnd _
  have hval : ∀ (j : Nat) t v, Try.f3.params[j]? = some t → args[j]? = some v → Value.okWide Try.prog W .any base t v := hval0
  have hW' := hW
  obtain ⟨p, q, hA0, hV, rfl, hfz, hnd⟩ := hW
  have hA : DataW.TrodAll enc Try.prog W 0 (fun _ => true) true Try.f3.params.toList args.toList ds p := hA0
  rw [Try.params3] at hA hval
  obtain ⟨v0, vs0, d0, ds0, p0, q0, hargs, rfl, rfl, h0, r0⟩ := trodAll_cons hA
  obtain ⟨v1, vs1, d1, ds1, p1, q1, rfl, rfl, rfl, h1, r1⟩ := trodAll_cons r0
  obtain ⟨rfl, rfl, rfl⟩ := trodAll_nil r1
  obtain rfl : args = #[v0, v1] := by cases args; simp_all
  obtain ⟨rfl, rfl⟩ := trodVars_none hV
  have k0 := h0
  have lt0 : ∀ x ∈ p0, x.block < W.heap.size := by obtain ⟨m, hm⟩ := k0; exact DataW.trod_lt m _ _ _ hm
  obtain ⟨D0, rfl, hD0, hn0, hm0, hl0⟩ := open_dfa_val (hval 0 26 v0 rfl rfl) (by obtain ⟨fuel, hf⟩ := h0; exact ⟨fuel, _, hf⟩)
  obtain ⟨s1, rfl, rfl, rfl, hs1⟩ := Go.ChangeMaps.open_string Try.underlying9 (hval 1 9 v1 rfl rfl) h1
  have hs91 := hs1
  clear hA0 hval0
  unfold maxLen at hn0 hm0 hl0 hs91
  refine (munchAllL_any D0 s1 (by omega) (by omega) (fun i hi => Nat.le_trans (hl0 i hi) (by omega)) (by omega) W hD0).mono fun e W' ⟨he, bel⟩ => ?_
  subst he
  exact ⟨_, rfl, _, _, _, [], _, [], hW', trodAll_mk1 (shut_bool Try.underlying4 _), (trodAll_cons_mk (Below.trod laidOut (by kernel_rfl) (of_decide_eq_true (by kernel_rfl)) k0 bel lt0) (trodAll_cons_mk (Go.ChangeMaps.shut_string Try.underlying9 hs1) trodAll_mk0)), rfl, bel.frame _, fun h => by cases h⟩

theorem over : Rows.munchAllRow.holds Try.pinned (OpenSpec.ofChange Rows.munchAllSpec) :=
  OpenClaim.holds_of_wide 3 Try.f3 rfl rfl rfl rfl rfl rfl rfl ⟨rfl, rfl, rfl, rfl, rfl⟩ rfl rfl rfl rfl rfl (by kernel_rfl) Try.func3 (by kernel_rfl)
    (of_decide_eq_true (by kernel_rfl)) (by unfold Func.isWrapper; first | (rw [if_pos (by decide +kernel)]; kernel_rfl) | (rw [if_neg (by decide +kernel)]; exact ⟨rfl, rfl⟩))
    (fun os started H enc _ => lifted os started H enc)

/-- The statement. -/
theorem proved : Rows.MunchAllSaid := over
end Go.Proofs.Ytjehgdjlncofeaa.munchAll
