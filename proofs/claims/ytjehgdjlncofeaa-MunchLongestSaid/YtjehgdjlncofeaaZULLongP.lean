/-
  What is proved: for every automaton, every text and every place the law MunchLongest returns true and leaves its arguments as they were. No condition.
-/
import Derived.Test.YtjehgdjlncofeaaZPRef8
import Derived.Test.YtjehgdjlncofeaaZUAwk2
import Derived.Test.YtjehgdjlncofeaaZUFrame
namespace Go.Proofs.Ytjehgdjlncofeaa
open Go.RowKit Go.Maps Go.WideElems Go.ChangeMaps Go.MapKept
set_option linter.unusedVariables false
set_option linter.unusedSimpArgs false

set_option maxHeartbeats 4000000 in
set_option maxRecDepth 100000 in
theorem munchLongestL_any (D : Dd) (s : ByteArray) (at_ : Int) (hn : D.n ≤ 9223372036854775807) (hm : D.m ≤ 9223372036854775807) (hl : ∀ i, i < D.n → D.len i ≤ 9223372036854775807) (hs9 : s.size ≤ 9223372036854775807) (w : World) (hD : DM w D) :
    Calls Try.prog 4 #[.agg D.cD, .string s, .int .i64 at_] w fun e w' => e = .returned (.bool true) ∧ Below w.heap.size w w' := by
  have kb := al w (.cells D.cD 26)
  have HB : Hid (DBx (w.alloc (.cells D.cD 26)) w.heap.size D ∧ Below w.heap.size w (w.alloc (.cells D.cD 26))) := ⟨DBx.new hD, kb⟩
  have HL := Lib.hid hl
  clear kb hD hl
  go_enter Try.func4, Try.ntmps4
  go_upto_region 1 with fail
  generalize w.alloc (.cells D.cD 26) = W0 at HB ⊢
  obtain ⟨b, hb0⟩ : ∃ b0, w.heap.size = b0 := ⟨_, rfl⟩
  have Hb0 := Lib.hid hb0
  rw [hb0] at HB
  rw [hb0]
  clear hb0
  have HFw : Hid (∀ W', Below W0.heap.size W0 W' → Below w.heap.size w W') := fun W' h => by
    have hz := HB.out.2.size
    rw [Hb0.out]
    exact HB.out.2.trans (h.mono (by have := Hb0.out; omega))
  have HW := Lib.hid (awake12_any W0)
  go_upto_region 3 with (go_at_call 7; refine HW.out.mono ?_; rintro e w1 ⟨rfl, b1⟩)
  have H1 := Lib.hid (And.intro (HB.out.1.keep b1) b1)
  clear b1 HW
  have HSm := Lib.hid (small_any D hn hm HL.out w1 H1.out.1.dm)
  go_wp2_with (first
    | (refine wpList_load_any9 (by rfl) 26 _ rfl ⟨b, 0, none⟩ rfl D.cD _ H1.out.1.st.part Try.underlying26 rfl H1.out.1.dm.info ?_)
    | (go_at_call 8; refine HSm.out.mono ?_))
  rintro e w2 ⟨x, rfl, hx, b2⟩
  have H2 := Lib.hid (And.intro (H1.out.1.keep b2) (H1.out.2.trans (b2.mono H1.out.2.size)))
  clear b2 HSm
  rcases x with _ | _
  · have HF := Lib.hid (HFw.out _ H2.out.2)
    clear hx
    go_wp2_with fail
    go_ret
    exact ⟨rfl, HF.out⟩
  have hsm := hx rfl
  have Hsm := Lib.hid hsm
  clear hx hsm hn hm
  have HRt := Lib.hid (rright8_iff D w2 H2.out.1.dm Hsm.out.1 Hsm.out.2.1 Hsm.out.2.2)
  go_wp2_with (first
    | (refine wpList_load_any9 (by rfl) 26 _ rfl ⟨b, 0, none⟩ rfl D.cD _ H2.out.1.st.part Try.underlying26 rfl H2.out.1.dm.info ?_)
    | (go_at_call 9; refine HRt.out.mono ?_))
  rintro e w3 ⟨y, rfl, hy, b3⟩
  have H3 := Lib.hid (And.intro (H2.out.1.keep b3) (H2.out.2.trans (b3.mono H2.out.2.size)))
  clear b3 HRt H2 H1
  rcases y with _ | _
  · have HF := Lib.hid (HFw.out _ H3.out.2)
    clear hy
    go_wp2_with fail
    go_ret
    exact ⟨rfl, HF.out⟩
  obtain ⟨C, hR⟩ := hy.1 rfl
  have HR := Lib.hid hR
  clear hy hR
  by_cases h6 : 60 < s.size
  · have i1 : (60 : Int) < (s.size : Int) := by omega
    have HF := Lib.hid (HFw.out _ H3.out.2)
    go_wp2_with fail
    go_ret
    exact ⟨rfl, HF.out⟩
  have i1 : ¬ ((60 : Int) < (s.size : Int)) := by omega
  have HM1 := Lib.hid (munchLongest_any D C HR.out s (by omega) at_ w3 H3.out.1.dm)
  obtain ⟨mk, ln, hml⟩ : ∃ mk ln, longI D s at_ = (mk, ln) := ⟨_, _, rfl⟩
  obtain ⟨mk0, ln0, hml0⟩ : ∃ mk ln, longI D s 0 = (mk, ln) := ⟨_, _, rfl⟩
  have HAl : Hid (aloneF D s = if ln0 < s.size then -1 else mk0) := by show _ = _; unfold aloneF; rw [hml0]
  have Hln0 : Hid (ln0 ≤ s.size ∧ (ln0 = 0 → mk0 = -1)) := by
    have h1 := longI_nat D s 0
    rw [show ((0 : Nat) : Int) = 0 from rfl, hml0] at h1
    have h2 := longF_le D (zof s) 0 (s.size - 0)
    have h3 := longF_zero D (zof s) 0 (s.size - 0)
    rw [← h1] at h2 h3
    exact ⟨by simpa using h2, h3⟩
  rw [hml] at HM1
  go_upto_region 6 with (first
    | (refine wpList_load_any9 (by rfl) 26 _ rfl ⟨b, 0, none⟩ rfl D.cD _ H3.out.1.st.part Try.underlying26 rfl H3.out.1.dm.info ?_)
    | (go_at_call 14; refine HM1.out.mono ?_; rintro e w4 ⟨rfl, b4⟩))
  have H4 := Lib.hid (And.intro (H3.out.1.keep b4) (H3.out.2.trans (b4.mono H3.out.2.size)))
  clear b4 HM1 H3
  have HM2 := Lib.hid (rlongest_int D C HR.out s (by omega) at_ w4 H4.out.1.dm)
  rw [hml] at HM2
  go_upto_region 7 with (first
    | (refine wpList_load_any9 (by rfl) 26 _ rfl ⟨b, 0, none⟩ rfl D.cD _ H4.out.1.st.part Try.underlying26 rfl H4.out.1.dm.info ?_)
    | (go_at_call 15; refine HM2.out.mono ?_; rintro e w5 ⟨rfl, b5⟩))
  have H5 := Lib.hid (And.intro (H4.out.1.keep b5) (H4.out.2.trans (b5.mono H4.out.2.size)))
  clear b5 HM2 H4
  have HM3 := Lib.hid (rlongest_int D C HR.out s (by omega) 0 w5 H5.out.1.dm)
  rw [hml0] at HM3
  clear hml hml0
  go_upto_region 8 with (first
    | (refine wpList_load_any9 (by rfl) 26 _ rfl ⟨b, 0, none⟩ rfl D.cD _ H5.out.1.st.part Try.underlying26 rfl H5.out.1.dm.info ?_)
    | (go_at_call 15; refine HM3.out.mono ?_; rintro e w6 ⟨rfl, b6⟩))
  have H6 := Lib.hid (And.intro (H5.out.1.keep b6) (H5.out.2.trans (b6.mono H5.out.2.size)))
  clear b6 HM3 H5
  have HA := Lib.hid (alone_any D C HR.out s (by omega) w6 H6.out.1.dm)
  rw [HAl.out] at HA
  by_cases h0 : s.size = 0
  · have e1 : s.toList.isEmpty = true := by
      rw [ByteArray.toList_eq]
      have h9 : s.data.toList.length = 0 := h0
      rw [List.length_eq_zero_iff.1 h9]
      rfl
    have HV : Hid ((if ln0 < s.size then (-1 : Int) else mk0) = -1) := by
      show _ = _
      have := Hln0.out
      split
      · rfl
      · exact this.2 (by omega)
    rw [HV.out] at HA
    clear h0
    go_wp2_with (first
      | (refine wpList_load_any9 (by rfl) 26 _ rfl ⟨b, 0, none⟩ rfl D.cD _ H6.out.1.st.part Try.underlying26 rfl H6.out.1.dm.info ?_)
      | (go_at_call 16; refine HA.out.mono ?_; rintro e w7 ⟨rfl, b7⟩))
    go_ret
    exact ⟨rfl, HFw.out _ (H6.out.2.trans (b7.mono H6.out.2.size))⟩
  · have e1 : s.toList.isEmpty = false := ne_empty s (by omega)
    by_cases h2 : ln0 = s.size
    · have e2 : ((ln0 : Int) != (s.size : Int)) = false := by rw [h2]; simp
      have HV : Hid ((if ln0 < s.size then (-1 : Int) else mk0) = mk0) := by
        show _ = _
        rw [if_neg (by omega)]
      rw [HV.out] at HA
      clear h0 h2
      go_wp2_with (first
        | (refine wpList_load_any9 (by rfl) 26 _ rfl ⟨b, 0, none⟩ rfl D.cD _ H6.out.1.st.part Try.underlying26 rfl H6.out.1.dm.info ?_)
        | (go_at_call 16; refine HA.out.mono ?_; rintro e w7 ⟨rfl, b7⟩))
      go_ret
      exact ⟨rfl, HFw.out _ (H6.out.2.trans (b7.mono H6.out.2.size))⟩
    · have e2 : ((ln0 : Int) != (s.size : Int)) = true := by rw [bne_iff_ne]; omega
      have HV : Hid ((if ln0 < s.size then (-1 : Int) else mk0) = -1) := by
        show _ = _
        have := Hln0.out.1
        rw [if_pos (by omega)]
      rw [HV.out] at HA
      clear h0 h2
      go_wp2_with (first
        | (refine wpList_load_any9 (by rfl) 26 _ rfl ⟨b, 0, none⟩ rfl D.cD _ H6.out.1.st.part Try.underlying26 rfl H6.out.1.dm.info ?_)
        | (go_at_call 16; refine HA.out.mono ?_; rintro e w7 ⟨rfl, b7⟩))
      go_ret
      exact ⟨rfl, HFw.out _ (H6.out.2.trans (b7.mono H6.out.2.size))⟩
end Go.Proofs.Ytjehgdjlncofeaa

namespace Go.Proofs.Ytjehgdjlncofeaa.munchLongest
open Go.ChangeShapes Go.WideShapes Go.ChangeAt Go.RowKit Go.Deep
set_option linter.unusedVariables false

set_option maxRecDepth 100000 in
theorem lifted (os : Os) (started : os.Started) (H : Type) (enc : TypeId × Value → H) :
    ReturnsInHanded {} Try.checked os 4 .any (Rows.munchLongestSpec.pre6 enc Try.prog Try.f4 Rows.munchLongestRow.domain false) (Rows.munchLongestSpec.post enc Try.prog Try.f4 false true false false) := by
  refine returnsInHanded_of_change (C := Try.checked) own started (by kernel_rfl) Try.func4
    (ChangeSpec.witness6 (enc := enc) (C := Try.checked) false ⟨#[], #[.agg ((List.replicate 256 (Value.int .u8 0)) ++ [Value.slice none 0 0, Value.slice none 0 0]).toArray, .string .empty, .int .i64 0], []⟩ 8 (by kernel_rfl) (by kernel_rfl) (by kernel_rfl) (by kernel_rfl)) ?_
  intro W base args ds gs before hval0 hW hcnd _
  have hval : ∀ (j : Nat) t v, Try.f4.params[j]? = some t → args[j]? = some v → Value.okWide Try.prog W .any base t v := hval0
  have hW' := hW
  obtain ⟨p, q, hA0, hV, rfl, hfz, hnd⟩ := hW
  have hA : DataW.TrodAll enc Try.prog W 0 (fun _ => true) true Try.f4.params.toList args.toList ds p := hA0
  rw [Try.params4] at hA hval
  obtain ⟨v0, vs0, d0, ds0, p0, q0, hargs, rfl, rfl, h0, r0⟩ := trodAll_cons hA
  obtain ⟨v1, vs1, d1, ds1, p1, q1, rfl, rfl, rfl, h1, r1⟩ := trodAll_cons r0
  obtain ⟨v2, vs2, d2, ds2, p2, q2, rfl, rfl, rfl, h2, r2⟩ := trodAll_cons r1
  obtain ⟨rfl, rfl, rfl⟩ := trodAll_nil r2
  obtain rfl : args = #[v0, v1, v2] := by cases args; simp_all
  obtain ⟨rfl, rfl⟩ := trodVars_none hV
  have k0 := h0
  have lt0 : ∀ x ∈ p0, x.block < W.heap.size := by obtain ⟨m, hm⟩ := k0; exact DataW.trod_lt m _ _ _ hm
  obtain ⟨D0, rfl, hD0, hn0, hm0, hl0⟩ := open_dfa_val (hval 0 26 v0 rfl rfl) (by obtain ⟨fuel, hf⟩ := h0; exact ⟨fuel, _, hf⟩)
  obtain ⟨s1, rfl, rfl, rfl, hs1⟩ := Go.ChangeMaps.open_string Try.underlying9 (hval 1 9 v1 rfl rfl) h1
  have hs91 := hs1
  have k2 := h2
  have lt2 : ∀ x ∈ p2, x.block < W.heap.size := by obtain ⟨m, hm⟩ := k2; exact DataW.trod_lt m _ _ _ hm
  obtain ⟨x2, rfl⟩ := okWide_int Try.underlying3 (hval 2 3 v2 rfl rfl)
  clear hA0 hval0
  unfold maxLen at hn0 hm0 hl0 hs91
  refine (munchLongestL_any D0 s1 x2 (by omega) (by omega) (fun i hi => Nat.le_trans (hl0 i hi) (by omega)) (by omega) W hD0).mono fun e W' ⟨he, bel⟩ => ?_
  subst he
  exact ⟨_, rfl, _, _, _, [], _, [], hW', trodAll_mk1 (shut_bool Try.underlying4 _), (trodAll_cons_mk (Below.trod laidOut (by kernel_rfl) (of_decide_eq_true (by kernel_rfl)) k0 bel lt0) (trodAll_cons_mk (Go.ChangeMaps.shut_string Try.underlying9 hs1) (trodAll_cons_mk (Below.trod laidOut (by kernel_rfl) (of_decide_eq_true (by kernel_rfl)) k2 bel lt2) trodAll_mk0))), rfl, bel.frame _, fun h => by cases h⟩

theorem over : Rows.munchLongestRow.holds Try.pinned (OpenSpec.ofChange Rows.munchLongestSpec) :=
  OpenClaim.holds_of_wide 4 Try.f4 rfl rfl rfl rfl rfl rfl rfl ⟨rfl, rfl, rfl, rfl, rfl⟩ rfl rfl rfl rfl rfl (by kernel_rfl) Try.func4 (by kernel_rfl)
    (of_decide_eq_true (by kernel_rfl)) (by unfold Func.isWrapper; first | (rw [if_pos (by decide +kernel)]; kernel_rfl) | (rw [if_neg (by decide +kernel)]; exact ⟨rfl, rfl⟩))
    (fun os started H enc _ => lifted os started H enc)

/-- The statement. -/
theorem proved : Rows.MunchLongestSaid := over
end Go.Proofs.Ytjehgdjlncofeaa.munchLongest
