/-
  What is proved: for every automaton, every rule and all texts the law FuseNeeds returns true and leaves its arguments as they were. No condition.
-/
import Derived.Test.YtldpmcgkbdejjaaZJAwk
import Derived.Test.YtldpmcgkbdejjaaZJFew
import Derived.Test.YtldpmcgkbdejjaaZJFrame
import Derived.Test.YtldpmcgkbdejjaaZJRGaps
import Derived.Test.YtldpmcgkbdejjaaZNNew
import Derived.Test.YtldpmcgkbdejjaaZPRef8
import Derived.Test.YtldpmcgkbdejjaaZTk
namespace Go.Proofs.Ytldpmcgkbdejjaa
open Go.RowKit Go.Maps Go.WideElems Go.ChangeMaps Go.MapKept
set_option linter.unusedVariables false
set_option linter.unusedSimpArgs false

set_option maxHeartbeats 4000000 in
set_option maxRecDepth 100000 in
theorem fuseGapsL_any (D : Dd) (bl : Int) (l : List ByteArray) (n c : Nat) (a : Option Addr) (hn : D.n ≤ 9223372036854775807) (hm : D.m ≤ 9223372036854775807) (hl : ∀ i, i < D.n → D.len i ≤ 9223372036854775807) (hln : l.length = n) (hn9 : n ≤ 9223372036854775807) (hs9 : ∀ j (h : j < l.length), l[j].size ≤ 9223372036854775807) (w : World) (hD : DM w D) (hS : SsAt w a l) :
    Calls Try.prog 3 #[.agg D.cD, .int .i64 bl, .slice a n c] w fun e w' => e = .returned (.bool true) ∧ Below w.heap.size w w' := by
  have kb := al w (.cells D.cD 26)
  have HB : Hid (DBx (w.alloc (.cells D.cD 26)) w.heap.size D ∧ Below w.heap.size w (w.alloc (.cells D.cD 26)) ∧ SsAt (w.alloc (.cells D.cD 26)) a l ∧ l.length = n) := ⟨DBx.new hD, kb, hS.below kb, hln⟩
  have HL := Lib.hid (And.intro hl hs9)
  clear kb hD hl hS hln hs9
  go_enter Try.func3, Try.ntmps3
  go_upto_region 1 with fail
  generalize w.alloc (.cells D.cD 26) = W0 at HB ⊢
  obtain ⟨b, hb0⟩ : ∃ b0, w.heap.size = b0 := ⟨_, rfl⟩
  have Hb0 := Lib.hid hb0
  rw [hb0] at HB
  rw [hb0]
  clear hb0
  have HFw : Hid (∀ W', Below W0.heap.size W0 W' → Below w.heap.size w W') := fun W' h => by
    have hz := HB.out.2.1.size
    rw [Hb0.out]
    exact HB.out.2.1.trans (h.mono (by have := Hb0.out; omega))
  have HW := Lib.hid (awake15_any W0)
  go_upto_region 3 with (go_at_call 5; refine HW.out.mono ?_; rintro e w1 ⟨rfl, b1⟩)
  have H1 := Lib.hid (And.intro (HB.out.1.keep b1) b1)
  clear b1 HW
  have HSm := Lib.hid (small_any D hn hm HL.out.1 w1 H1.out.1.dm)
  go_wp2_with (first
    | (refine wpList_load_any9 (by rfl) 26 _ rfl ⟨b, 0, none⟩ rfl D.cD _ H1.out.1.st.part Try.underlying26 rfl H1.out.1.dm.info ?_)
    | (go_at_call 6; refine HSm.out.mono ?_))
  rintro e w2 ⟨x, rfl, hx, b2⟩
  have H2 := Lib.hid (And.intro (H1.out.1.keep b2) (H1.out.2.trans (b2.mono H1.out.2.size)))
  clear b2 HSm
  rcases x with _ | _
  · have HF := Lib.hid (HFw.out _ H2.out.2)
    clear hx
    go_wp2_with fail
    go_ret
    exact ⟨rfl, HF.out⟩
  have hsm := hx rfl
  have Hsm := Lib.hid hsm
  clear hx hsm hn hm
  have HRt := Lib.hid (rright8_iff D w2 H2.out.1.dm Hsm.out.1 Hsm.out.2.1 Hsm.out.2.2)
  go_wp2_with (first
    | (refine wpList_load_any9 (by rfl) 26 _ rfl ⟨b, 0, none⟩ rfl D.cD _ H2.out.1.st.part Try.underlying26 rfl H2.out.1.dm.info ?_)
    | (go_at_call 7; refine HRt.out.mono ?_))
  rintro e w3 ⟨y, rfl, hy, b3⟩
  have H3 := Lib.hid (And.intro (H2.out.1.keep b3) (H2.out.2.trans (b3.mono H2.out.2.size)))
  clear b3 HRt H2 H1
  rcases y with _ | _
  · have HF := Lib.hid (HFw.out _ H3.out.2)
    clear hy
    go_wp2_with fail
    go_ret
    exact ⟨rfl, HF.out⟩
  obtain ⟨C, hR⟩ := hy.1 rfl
  have HR := Lib.hid hR
  clear hy hR
  have HFe := Lib.hid (few15_any l n c a HB.out.2.2.2 hn9 HL.out.2 w3 (HB.out.2.2.1.below H3.out.2))
  go_wp2_with (go_at_call 8; refine HFe.out.mono ?_)
  rintro e w4 ⟨z, rfl, hz, rfl⟩
  rcases z with _ | _
  · have HF := Lib.hid (HFw.out _ H3.out.2)
    clear hz
    go_wp2_with fail
    go_ret
    exact ⟨rfl, HF.out⟩
  have HT := Lib.hid (hz rfl)
  clear hz HFe hn9
  have hn8 : n - 1 ≤ 1000000 := by have := HT.out.n; have := HB.out.2.2.2; omega
  have HG1 := Lib.hid (gaps_any D C HR.out bl l HT.out n c a HB.out.2.2.2 w4 H3.out.1.dm (HB.out.2.2.1.below H3.out.2))
  go_upto_region 6 with (first
    | (refine wpList_load_any9 (by rfl) 26 _ rfl ⟨b, 0, none⟩ rfl D.cD _ H3.out.1.st.part Try.underlying26 rfl H3.out.1.dm.info ?_)
    | (go_at_call 9; refine HG1.out.mono ?_; rintro e w5 ⟨b5, h5⟩; rcases h5 with ⟨hc5, rfl⟩ | ⟨hc5, a5, c5, f5, rfl, o5, g5⟩))
  · have H5 := Lib.hid (And.intro (H3.out.1.keep b5) (And.intro (H3.out.2.trans (b5.mono H3.out.2.size)) hc5))
    clear b5 HG1 hc5 H3
    have HG2 := Lib.hid (rgaps_any D C HR.out bl l HT.out n c a HB.out.2.2.2 w5 H5.out.1.dm (HB.out.2.2.1.below H5.out.2.1))
    go_upto_region 7 with (first
      | (refine wpList_load_any9 (by rfl) 26 _ rfl ⟨b, 0, none⟩ rfl D.cD _ H5.out.1.st.part Try.underlying26 rfl H5.out.1.dm.info ?_)
      | (go_at_call 10; refine HG2.out.mono ?_; rintro e w6 ⟨b6, h6⟩; rcases h6 with ⟨_, rfl⟩ | ⟨hc6, _⟩; rotate_left; (focus (exact absurd (H5.out.2.2.symm.trans hc6) (by decide)))))
    · have HF := Lib.hid (HFw.out _ (H5.out.2.1.trans (b6.mono H5.out.2.1.size)))
      clear b6 HG2
      go_wp2_with fail
      go_ret
      exact ⟨rfl, HF.out⟩
  · have H5 := Lib.hid (And.intro (H3.out.1.keep b5) (And.intro (H3.out.2.trans (b5.mono H3.out.2.size)) (And.intro hc5 (And.intro o5 g5))))
    clear b5 HG1 hc5 o5 g5 H3
    have HG2 := Lib.hid (rgaps_any D C HR.out bl l HT.out n c a HB.out.2.2.2 w5 H5.out.1.dm (HB.out.2.2.1.below H5.out.2.1))
    go_upto_region 7 with (first
      | (refine wpList_load_any9 (by rfl) 26 _ rfl ⟨b, 0, none⟩ rfl D.cD _ H5.out.1.st.part Try.underlying26 rfl H5.out.1.dm.info ?_)
      | (go_at_call 10; refine HG2.out.mono ?_; rintro e w6 ⟨b6, h6⟩; rcases h6 with ⟨hc6, _⟩ | ⟨_, a6, c6, f6, rfl, o6, g6⟩; (focus (exact absurd (H5.out.2.2.1.symm.trans hc6) (by decide)))))
    · have hff : f5 = f6 := H5.out.2.2.2.2.uniq g6
      have HSa := Lib.hid (same_yes (n - 1) c5 c6 a5 a6 f5 f6 hn8 w6 ((bls_at H5.out.2.2.2.1).below b6) (bls_at o6) (fun j _ => by rw [hff]))
      have H6 := Lib.hid (H5.out.2.1.trans (b6.mono H5.out.2.1.size))
      clear hff b6 o6 g6 HG2
      go_wp2_with (go_at_call 11; refine HSa.out.mono ?_; rintro e w7 ⟨rfl, b7⟩)
      go_ret
      exact ⟨rfl, HFw.out _ (H6.out.trans (b7.mono H6.out.size))⟩
end Go.Proofs.Ytldpmcgkbdejjaa

namespace Go.Proofs.Ytldpmcgkbdejjaa.fuseGaps
open Go.ChangeShapes Go.WideShapes Go.ChangeAt Go.RowKit Go.Deep
set_option linter.unusedVariables false

set_option maxRecDepth 100000 in
theorem lifted (os : Os) (started : os.Started) (H : Type) (enc : TypeId × Value → H) :
    ReturnsInHanded {} Try.checked os 3 .any (Rows.fuseGapsSpec.pre6 enc Try.prog Try.f3 Rows.fuseGapsRow.domain false) (Rows.fuseGapsSpec.post enc Try.prog Try.f3 false true false false) := by
  refine returnsInHanded_of_change (C := Try.checked) own started (by kernel_rfl) Try.func3
    (ChangeSpec.witness6 (enc := enc) (C := Try.checked) false ⟨#[], #[.agg ((List.replicate 256 (Value.int .u8 0)) ++ [Value.slice none 0 0, Value.slice none 0 0]).toArray, .int .i64 0, .slice none 0 0], []⟩ 8 (by kernel_rfl) (by kernel_rfl) (by kernel_rfl) (by kernel_rfl)) ?_
  intro W base args ds gs before hval0 hW hcnd _
  have hval : ∀ (j : Nat) t v, Try.f3.params[j]? = some t → args[j]? = some v → Value.okWide Try.prog W .any base t v := hval0
  have hW' := hW
  obtain ⟨p, q, hA0, hV, rfl, hfz, hnd⟩ := hW
  have hA : DataW.TrodAll enc Try.prog W 0 (fun _ => true) true Try.f3.params.toList args.toList ds p := hA0
  rw [Try.params3] at hA hval
  obtain ⟨v0, vs0, d0, ds0, p0, q0, hargs, rfl, rfl, h0, r0⟩ := trodAll_cons hA
  obtain ⟨v1, vs1, d1, ds1, p1, q1, rfl, rfl, rfl, h1, r1⟩ := trodAll_cons r0
  obtain ⟨v2, vs2, d2, ds2, p2, q2, rfl, rfl, rfl, h2, r2⟩ := trodAll_cons r1
  obtain ⟨rfl, rfl, rfl⟩ := trodAll_nil r2
  obtain rfl : args = #[v0, v1, v2] := by cases args; simp_all
  obtain ⟨rfl, rfl⟩ := trodVars_none hV
  obtain ⟨a2, n2, c2, rfl⟩ := okWide_slice Try.underlying27 (hval 2 27 v2 rfl rfl)
  have k0 := h0
  have lt0 : ∀ x ∈ p0, x.block < W.heap.size := by obtain ⟨m, hm⟩ := k0; exact DataW.trod_lt m _ _ _ hm
  obtain ⟨D0, rfl, hD0, hn0, hm0, hl0⟩ := open_dfa_val (hval 0 26 v0 rfl rfl) (by obtain ⟨fuel, hf⟩ := h0; exact ⟨fuel, _, hf⟩)
  have k1 := h1
  have lt1 : ∀ x ∈ p1, x.block < W.heap.size := by obtain ⟨m, hm⟩ := k1; exact DataW.trod_lt m _ _ _ hm
  obtain ⟨x1, rfl⟩ := okWide_int Try.underlying3 (hval 1 3 v1 rfl rfl)
  have k2 := h2
  have lt2 : ∀ x ∈ p2, x.block < W.heap.size := by obtain ⟨m, hm⟩ := k2; exact DataW.trod_lt m _ _ _ hm
  obtain ⟨l2, hLn2, hT2, hlc2, hcm2, hz2⟩ := (by obtain ⟨fuel, hf⟩ := h2; exact open_strs9 (by simpa [Value.cells] using hf) : ∃ l : List ByteArray, l.length = n2 ∧ SsAt W a2 l ∧ n2 ≤ c2 ∧ c2 ≤ maxLen ∧ ∀ j (h : j < l.length), l[j].size ≤ maxLen)
  clear hA0 hval0
  unfold maxLen at hn0 hm0 hl0 hcm2 hz2
  refine (fuseGapsL_any D0 x1 l2 n2 c2 a2 (by omega) (by omega) (fun i hi => Nat.le_trans (hl0 i hi) (by omega)) hLn2 (by omega) (fun j hj => Nat.le_trans (hz2 j hj) (by omega)) W hD0 hT2).mono fun e W' ⟨he, bel⟩ => ?_
  subst he
  exact ⟨_, rfl, _, _, _, [], _, [], hW', trodAll_mk1 (shut_bool Try.underlying4 _), (trodAll_cons_mk (Below.trod laidOut (by kernel_rfl) (of_decide_eq_true (by kernel_rfl)) k0 bel lt0) (trodAll_cons_mk (Below.trod laidOut (by kernel_rfl) (of_decide_eq_true (by kernel_rfl)) k1 bel lt1) (trodAll_cons_mk (Below.trod laidOut (by kernel_rfl) (of_decide_eq_true (by kernel_rfl)) k2 bel lt2) trodAll_mk0))), rfl, bel.frame _, fun h => by cases h⟩

theorem over : Rows.fuseGapsRow.holds Try.pinned (OpenSpec.ofChange Rows.fuseGapsSpec) :=
  OpenClaim.holds_of_wide 3 Try.f3 rfl rfl rfl rfl rfl rfl rfl ⟨rfl, rfl, rfl, rfl, rfl⟩ rfl rfl rfl rfl rfl (by kernel_rfl) Try.func3 (by kernel_rfl)
    (of_decide_eq_true (by kernel_rfl)) (by unfold Func.isWrapper; first | (rw [if_pos (by decide +kernel)]; kernel_rfl) | (rw [if_neg (by decide +kernel)]; exact ⟨rfl, rfl⟩))
    (fun os started H enc _ => lifted os started H enc)

/-- The statement. -/
theorem proved : Rows.FuseGapsSaid := over
end Go.Proofs.Ytldpmcgkbdejjaa.fuseGaps

namespace Go.Proofs.Ytldpmcgkbdejjaa
open Go.RowKit Go.Maps Go.WideElems Go.ChangeMaps Go.MapKept
set_option linter.unusedVariables false
set_option linter.unusedSimpArgs false

set_option maxHeartbeats 4000000 in
set_option maxRecDepth 100000 in
theorem fuseNeedsL_any (D : Dd) (bl : Int) (l : List ByteArray) (n c : Nat) (a : Option Addr) (hn : D.n ≤ 9223372036854775807) (hm : D.m ≤ 9223372036854775807) (hl : ∀ i, i < D.n → D.len i ≤ 9223372036854775807) (hln : l.length = n) (hn9 : n ≤ 9223372036854775807) (hs9 : ∀ j (h : j < l.length), l[j].size ≤ 9223372036854775807) (w : World) (hD : DM w D) (hS : SsAt w a l) :
    Calls Try.prog 4 #[.agg D.cD, .int .i64 bl, .slice a n c] w fun e w' => e = .returned (.bool true) ∧ Below w.heap.size w w' := by
  have kb := al w (.cells D.cD 26)
  have HB : Hid (DBx (w.alloc (.cells D.cD 26)) w.heap.size D ∧ Below w.heap.size w (w.alloc (.cells D.cD 26)) ∧ SsAt (w.alloc (.cells D.cD 26)) a l ∧ l.length = n) := ⟨DBx.new hD, kb, hS.below kb, hln⟩
  have HL := Lib.hid (And.intro hl hs9)
  clear kb hD hl hS hln hs9
  go_enter Try.func4, Try.ntmps4
  go_upto_region 1 with fail
  generalize w.alloc (.cells D.cD 26) = W0 at HB ⊢
  obtain ⟨b, hb0⟩ : ∃ b0, w.heap.size = b0 := ⟨_, rfl⟩
  have Hb0 := Lib.hid hb0
  rw [hb0] at HB
  rw [hb0]
  clear hb0
  have HFw : Hid (∀ W', Below W0.heap.size W0 W' → Below w.heap.size w W') := fun W' h => by
    have hz := HB.out.2.1.size
    rw [Hb0.out]
    exact HB.out.2.1.trans (h.mono (by have := Hb0.out; omega))
  have HW := Lib.hid (awake15_any W0)
  go_upto_region 3 with (go_at_call 5; refine HW.out.mono ?_; rintro e w1 ⟨rfl, b1⟩)
  have H1 := Lib.hid (And.intro (HB.out.1.keep b1) b1)
  clear b1 HW
  have HSm := Lib.hid (small_any D hn hm HL.out.1 w1 H1.out.1.dm)
  go_wp2_with (first
    | (refine wpList_load_any9 (by rfl) 26 _ rfl ⟨b, 0, none⟩ rfl D.cD _ H1.out.1.st.part Try.underlying26 rfl H1.out.1.dm.info ?_)
    | (go_at_call 6; refine HSm.out.mono ?_))
  rintro e w2 ⟨x, rfl, hx, b2⟩
  have H2 := Lib.hid (And.intro (H1.out.1.keep b2) (H1.out.2.trans (b2.mono H1.out.2.size)))
  clear b2 HSm
  rcases x with _ | _
  · have HF := Lib.hid (HFw.out _ H2.out.2)
    clear hx
    go_wp2_with fail
    go_ret
    exact ⟨rfl, HF.out⟩
  have hsm := hx rfl
  have Hsm := Lib.hid hsm
  clear hx hsm hn hm
  have HRt := Lib.hid (rright8_iff D w2 H2.out.1.dm Hsm.out.1 Hsm.out.2.1 Hsm.out.2.2)
  go_wp2_with (first
    | (refine wpList_load_any9 (by rfl) 26 _ rfl ⟨b, 0, none⟩ rfl D.cD _ H2.out.1.st.part Try.underlying26 rfl H2.out.1.dm.info ?_)
    | (go_at_call 7; refine HRt.out.mono ?_))
  rintro e w3 ⟨y, rfl, hy, b3⟩
  have H3 := Lib.hid (And.intro (H2.out.1.keep b3) (H2.out.2.trans (b3.mono H2.out.2.size)))
  clear b3 HRt H2 H1
  rcases y with _ | _
  · have HF := Lib.hid (HFw.out _ H3.out.2)
    clear hy
    go_wp2_with fail
    go_ret
    exact ⟨rfl, HF.out⟩
  obtain ⟨C, hR⟩ := hy.1 rfl
  have HR := Lib.hid hR
  clear hy hR
  have HFe := Lib.hid (few15_any l n c a HB.out.2.2.2 hn9 HL.out.2 w3 (HB.out.2.2.1.below H3.out.2))
  go_wp2_with (go_at_call 8; refine HFe.out.mono ?_)
  rintro e w4 ⟨z, rfl, hz, rfl⟩
  rcases z with _ | _
  · have HF := Lib.hid (HFw.out _ H3.out.2)
    clear hz
    go_wp2_with fail
    go_ret
    exact ⟨rfl, HF.out⟩
  have HT := Lib.hid (hz rfl)
  clear hz HFe hn9
  have hn8 : n - 1 ≤ 1000000 := by have := HT.out.n; have := HB.out.2.2.2; omega
  have HG1 := Lib.hid (gaps_any D C HR.out bl l HT.out n c a HB.out.2.2.2 w4 H3.out.1.dm (HB.out.2.2.1.below H3.out.2))
  go_upto_region 6 with (first
    | (refine wpList_load_any9 (by rfl) 26 _ rfl ⟨b, 0, none⟩ rfl D.cD _ H3.out.1.st.part Try.underlying26 rfl H3.out.1.dm.info ?_)
    | (go_at_call 9; refine HG1.out.mono ?_; rintro e w5 ⟨b5, h5⟩; rcases h5 with ⟨hc5, rfl⟩ | ⟨hc5, a5, c5, f, rfl, o5, g5⟩))
  · have HF := Lib.hid (HFw.out _ (H3.out.2.trans (b5.mono H3.out.2.size)))
    clear b5 HG1 hc5 H3
    go_wp2_with fail
    go_ret
    exact ⟨rfl, HF.out⟩
  have H5 : Hid (DBx w5 b D ∧ Below W0.heap.size W0 w5 ∧ w5.ownsRow W0.heap.size 4 1 (.slice a5 (n - 1) c5) (n - 1) (bls f (n - 1)) ∧ chkG D bl l (n - 1) f = true ∧ (∀ i, i < n - 1 → f i = true → chkG D bl l (n - 1) (setB f i false) = false)) := by
    obtain ⟨k, hk1, hk2⟩ := g5
    exact ⟨H3.out.1.keep b5, H3.out.2.trans (b5.mono H3.out.2.size), ownsRow_base o5 H3.out.2.size, by rw [hk1]; exact gI_chk hc5 k, fun i hi hf => gps_need hk2 i hi hf⟩
  clear b5 HG1 hc5 o5 g5 H3
  have hnn : n ≤ 8 := by have := HT.out.n; have := HB.out.2.2.2; omega
  obtain ⟨m, hm⟩ : ∃ m, n - 1 = m := ⟨_, rfl⟩
  rw [hm] at H5 ⊢
  have i5 : max ((n : Int) - 1) 0 = (m : Int) := by omega
  have i6 : ((m : Int) != (m : Int)) = false := by simp
  have i4 : IntKind.i64.wrap ((n : Int) - 1) = (n : Int) - 1 := IntWalk.i64_in _ (by omega)
  have hm8 : m ≤ 8 := by omega
  have hm1 : m ≤ 100000 := by omega
  have hn9 : n ≤ 1000000 := by omega
  have Hm := Lib.hid hm
  clear hm hn8 hnn
  have HSd : Hid (∀ f, (jnS l m f).size ≤ 255) := fun f => by have := jnS_size HT.out m f; omega
  have HJa : Hid (∀ f W aa cc, Below W0.heap.size W0 W → BAt W aa m f → Calls Try.prog 13 #[.slice a n c, .slice aa m cc] W (fun e w' => e = .returned (.string (jnS l m f)) ∧ Below W.heap.size W w')) := fun f W aa cc h h2 =>
    join_any l HT.out n c a HB.out.2.2.2 m cc aa f hm1 W (HB.out.2.2.1.below h) h2
  have HSa : Hid (∀ f W, Below W0.heap.size W0 W → Calls Try.prog 12 #[.agg D.cD, .int .i64 bl, .string (jnS l m f), .slice a n c] W (fun e w' => e = .returned (.bool (chkG D bl l m f)) ∧ Below W.heap.size W w')) := fun f W h =>
    splits_any D C HR.out bl _ (HSd.out f) l n c a HB.out.2.2.2 hn9 W (HB.out.1.dm.below h) (HB.out.2.2.1.below h)
  have HDx : Hid (∀ W, Below W0.heap.size W0 W → DBx W b D) := fun W h => HB.out.1.keep h
  go_upto_region 8 with fail
  obtain ⟨wr, hwr⟩ : ∃ wr, wr = w5 := ⟨_, rfl⟩
  subst hwr
  have HSo : Hid (∀ W', Below wr.heap.size wr W' → Below wr.heap.size wr W' ∧ DBx W' b D) := fun W' h => ⟨h, HDx.out _ (H5.out.2.1.trans (h.mono H5.out.2.1.size))⟩
  have HJ : Hid (∀ W, Below wr.heap.size wr W → Calls Try.prog 13 #[.slice a n c, .slice a5 m c5] W (fun e w' => e = .returned (.string (jnS l m f)) ∧ Below W.heap.size W w')) := fun W h => HJa.out _ W a5 c5 (H5.out.2.1.trans (h.mono H5.out.2.1.size)) ((bls_at H5.out.2.2.1).below h)
  have HSp : Hid (∀ W, Below wr.heap.size wr W → Calls Try.prog 12 #[.agg D.cD, .int .i64 bl, .string (jnS l m f), .slice a n c] W (fun e w' => e = .returned (.bool true) ∧ Below W.heap.size W w')) := fun W h => by
    have := HSa.out f W (H5.out.2.1.trans (h.mono H5.out.2.1.size))
    rwa [H5.out.2.2.2.1] at this
  generalize jnS l m f = js at HJ HSp
  refine wp_region_held_drew (S := fun W' => Below wr.heap.size wr W' ∧ DBx W' b D) (by kernel_rfl) (HSo.out _ (Below.refl _ _).drew) (fun hHeld => ?_)
  refine tkA 0 ?_
  try simp only [Act.put, List.setIfInBounds_toArray, List.set_cons_zero, List.set_cons_succ]
  refine tkA 1 ?_
  try simp only [Act.put, List.setIfInBounds_toArray, List.set_cons_zero, List.set_cons_succ]
  refine tkA 2 ?_
  try simp only [Act.put, List.setIfInBounds_toArray, List.set_cons_zero, List.set_cons_succ]
  refine tkA 3 ?_
  try simp only [Act.put, List.setIfInBounds_toArray, List.set_cons_zero, List.set_cons_succ]
  refine tkA 4 ?_
  try simp only [Act.put, List.setIfInBounds_toArray, List.set_cons_zero, List.set_cons_succ]
  refine tkA 5 ?_
  try simp only [Act.put, List.setIfInBounds_toArray, List.set_cons_zero, List.set_cons_succ]
  refine tkA 6 (v := .bool false) ?_
  try simp only [Act.put, List.setIfInBounds_toArray, List.set_cons_zero, List.set_cons_succ]
  refine tkA 7 ?_
  try simp only [Act.put, List.setIfInBounds_toArray, List.set_cons_zero, List.set_cons_succ]
  refine tkA 8 (v := .agg D.cD) ?_ (hy := fun wz hSw => exec_load_any9 (o := _) (ρ := _) wz 26 (.tmp 3) rfl ⟨b, 0, none⟩ rfl D.cD _ (DBx.st (And.right hSw)).part Try.underlying26 rfl (DBx.dm (And.right hSw)).info)
  try simp only [Act.put, List.setIfInBounds_toArray, List.set_cons_zero, List.set_cons_succ]
  refine tkA 9 ?_
  try simp only [Act.put, List.setIfInBounds_toArray, List.set_cons_zero, List.set_cons_succ]
  refine tkA 10 ?_
  try simp only [Act.put, List.setIfInBounds_toArray, List.set_cons_zero, List.set_cons_succ]
  refine tkA 11 ?_
  try simp only [Act.put, List.setIfInBounds_toArray, List.set_cons_zero, List.set_cons_succ]
  refine tkA 13 ?_
  try simp only [Act.put, List.setIfInBounds_toArray, List.set_cons_zero, List.set_cons_succ]
  refine rd1 12 (fun K hK => ?_)
  go_simp
  go_at_call 13
  refine (HJ.out _ hHeld.1).mono ?_
  rintro e w8 ⟨rfl, b8⟩
  have hbn := hHeld.1.trans (b8.mono hHeld.1.size)
  clear b8
  try go_wp2_with fail
  refine hK.out _ _ (HSo.out _ hbn) (fun hHeld => ?_)
  clear hK K hbn
  try simp only [Act.put, List.setIfInBounds_toArray, List.set_cons_zero, List.set_cons_succ]
  refine rd1 14 (fun K hK => ?_)
  go_simp
  go_at_call 12
  refine (HSp.out _ hHeld.1).mono ?_
  rintro e w8 ⟨rfl, b8⟩
  have hbn := hHeld.1.trans (b8.mono hHeld.1.size)
  clear b8
  try go_wp2_with fail
  refine hK.out _ _ (HSo.out _ hbn) (fun hHeld => ?_)
  clear hK K hbn
  try simp only [Act.put, List.setIfInBounds_toArray, List.set_cons_zero, List.set_cons_succ]
  refine tkA 15 ?_
  try simp only [Act.put, List.setIfInBounds_toArray, List.set_cons_zero, List.set_cons_succ]
  refine tkA 16 ?_
  try simp only [Act.put, List.setIfInBounds_toArray, List.set_cons_zero, List.set_cons_succ]
  refine wpAnyH_done (by kernel_rfl) ?_ _
  have HX8 : Hid (w8.ownsRow W0.heap.size 4 1 (.slice a5 m c5) m (bls f m) ∧ Below W0.heap.size W0 w8) := ⟨ownsRow_keep H5.out.2.2.1 hHeld.1, H5.out.2.1.trans (hHeld.1.mono H5.out.2.1.size)⟩
  have HNe := Lib.hid H5.out.2.2.2.2
  clear hHeld HSo HJ HSp H5
  go_wp2_with fail
  go_loopw [9, 10] (fun v9 _ wr => ∃ i : Nat, v9 = .int .i64 i ∧ i ≤ m ∧ Hid (wr.ownsRow W0.heap.size 4 1 (.slice a5 m c5) m (bls f m) ∧ Below W0.heap.size W0 wr)) (fun v _ _ => m - (intOf v).toNat)
  case atStart => exact ⟨0, rfl, Nat.zero_le _, HX8.out⟩
  case round =>
    clear HX8
    obtain ⟨i, rfl, hi, HL⟩ := hrel
    by_cases hik : i < m
    · have i2 : (i : Int) < (m : Int) := by omega
      obtain ⟨g2, rfl, hg2, hg2w, hc2⟩ := ownsRow_read HL.out.1 (by omega)
      have hcs : ∀ j, j < m → wr.cell? ⟨g2, j, none⟩ = some (.bool (f j)) := fun j hj => by rw [(hc2 j (by omega)).1]; simp [bls, hj]
      have HC2 := Lib.hid (And.intro hcs hg2w)
      have hEm := own_emptyB wr
      have kE := al wr (.cells #[] 4)
      have hnew : ∀ j u, (bls f m)[j]? = some u → (wr.alloc (.cells #[] 4)).cell? ((⟨g2, 0, none⟩ : Addr).add j) = some u := bls_news (fun j hj => (kE.cell (p := ⟨g2, j, none⟩) hg2w).trans (hcs j hj))
      have hbo := bls_one f m
      have hbl := bls_length9 f m
      have HEm := Lib.hid (And.intro hEm (And.intro kE (And.intro hnew (And.intro hbo hbl))))
      clear hcs hc2 hEm kE hnew hbo hbl hg2 hg2w
      obtain ⟨iT, hT, hT0, hT1, hT2⟩ := info_parts Try.info_bool9
      go_wp2_with (at_builtin; refine wpList_append_own _ rfl _ _ 31 rfl wr.heap.size 4 iT (.bool false) 1 1 Try.underlying31 hT hT0 hT1 hT2 rfl (by decide) _ _ _ rfl HEm.out.1 ⟨g2, 0, none⟩ m c5 (bls f m) rfl (by rw [HEm.out.2.2.2.2, Nat.mul_one]) HEm.out.2.2.1 HEm.out.2.2.2.1 ?_ ?_ ?_ ?_)
      · unfold maxLen; omega
      · omega
      · simp
      intro v' w5 hown5 hgrow5 _
      obtain ⟨a6, c6, rfl⟩ := ownsRow_slice hown5
      have hb5 : Below wr.heap.size wr w5 := HEm.out.2.1.grown hgrow5 (by simp) (fun g e => (HEm.out.1.lt g e).1)
      try simp only [Nat.zero_add, List.nil_append] at hown5
      try simp only [Nat.zero_add]
      obtain ⟨g5, rfl, hg5, hg5w, hc5⟩ := ownsRow_read hown5 (by omega)
      have x5 : w5.cell? ⟨g5, i, none⟩ = some (.bool (f i)) := by rw [(hc5 i (by omega)).1]; simp [bls, hik]
      have x6 : w5.frozen? ⟨g5, i, none⟩ = false := (hc5 i (by omega)).2
      have HW5 := Lib.hid (And.intro hown5 (And.intro hb5 hg5))
      clear hown5 hgrow5 hb5 hc5 HEm hg5 hg5w
      go_upto_region 15 with fail
      have HW6 : Hid ((w5.setCell ⟨g5, i, none⟩ (.bool false)).ownsRow W0.heap.size 4 1 (.slice (some ⟨g5, 0, none⟩) m c6) m (bls (setB f i false) m) ∧ Below wr.heap.size wr (w5.setCell ⟨g5, i, none⟩ (.bool false)) ∧ (w5.setCell ⟨g5, i, none⟩ (.bool false)).ownsRow W0.heap.size 4 1 (.slice (some ⟨g2, 0, none⟩) m c5) m (bls f m) ∧ Below W0.heap.size W0 (w5.setCell ⟨g5, i, none⟩ (.bool false)) ∧ (w5.setCell ⟨g5, i, none⟩ (.bool false)).cell? ⟨g2, i, none⟩ = some (.bool (f i)) ∧ g2 < (w5.setCell ⟨g5, i, none⟩ (.bool false)).heap.size) := by
        have h1 := own_setb HW5.out.1 i hik false
        have h2 := HW5.out.2.1.setCell (p := ⟨g5, i, none⟩) HW5.out.2.2 (.bool false)
        have hs := HL.out.2.size
        exact ⟨ownsRow_base h1 hs, h2, ownsRow_keep HL.out.1 h2, HL.out.2.trans (h2.mono hs), (h2.cell (p := ⟨g2, i, none⟩) HC2.out.2).trans (HC2.out.1 i hik), by have := h2.size; have := HC2.out.2; omega⟩
      generalize w5.setCell ⟨g5, i, none⟩ (.bool false) = w6 at HW6 ⊢
      clear HL x5 x6 HW5 HC2
      obtain ⟨wr, hwr⟩ : ∃ wr, wr = w6 := ⟨_, rfl⟩
      subst hwr
      have HSo : Hid (∀ W', Below wr.heap.size wr W' → Below wr.heap.size wr W' ∧ DBx W' b D) := fun W' h => ⟨h, HDx.out _ (HW6.out.2.2.2.1.trans (h.mono HW6.out.2.2.2.1.size))⟩
      rcases hfi : f i with _ | _
      · have HCl : Hid (∀ W', Below wr.heap.size wr W' → W'.cell? ⟨g2, i, none⟩ = some (.bool false)) := fun W' h => (h.cell (p := ⟨g2, i, none⟩) HW6.out.2.2.2.2.2).trans (by rw [HW6.out.2.2.2.2.1, hfi])
        clear hfi
        refine wp_region_held_drew (S := fun W' => Below wr.heap.size wr W' ∧ DBx W' b D) (by kernel_rfl) (HSo.out _ (Below.refl _ _).drew) (fun hHeld => ?_)
        refine tkA 0 ?_
        try simp only [Act.put, List.setIfInBounds_toArray, List.set_cons_zero, List.set_cons_succ]
        refine tkA 1 ?_
        try simp only [Act.put, List.setIfInBounds_toArray, List.set_cons_zero, List.set_cons_succ]
        refine tkA 2 ?_
        try simp only [Act.put, List.setIfInBounds_toArray, List.set_cons_zero, List.set_cons_succ]
        refine tkA 3 ?_ (hy := by intro wz hSw; have z0 := HCl.out wz hSw.1; (try simp only [Act.put, List.setIfInBounds_toArray, List.set_cons_zero, List.set_cons_succ]); go_simp; first | done | with_reducible rfl)
        try simp only [Act.put, List.setIfInBounds_toArray, List.set_cons_zero, List.set_cons_succ]
        refine tkA 4 ?_
        try simp only [Act.put, List.setIfInBounds_toArray, List.set_cons_zero, List.set_cons_succ]
        refine tkB 5 ?_
        try simp only [Act.put, List.setIfInBounds_toArray, List.set_cons_zero, List.set_cons_succ]
        refine tkB 6 ?_
        try simp only [Act.put, List.setIfInBounds_toArray, List.set_cons_zero, List.set_cons_succ]
        refine tkB 7 ?_
        try simp only [Act.put, List.setIfInBounds_toArray, List.set_cons_zero, List.set_cons_succ]
        refine tkB 8 ?_
        try simp only [Act.put, List.setIfInBounds_toArray, List.set_cons_zero, List.set_cons_succ]
        refine tkB 9 ?_
        try simp only [Act.put, List.setIfInBounds_toArray, List.set_cons_zero, List.set_cons_succ]
        refine tkB 10 ?_
        try simp only [Act.put, List.setIfInBounds_toArray, List.set_cons_zero, List.set_cons_succ]
        refine tkB 11 ?_
        try simp only [Act.put, List.setIfInBounds_toArray, List.set_cons_zero, List.set_cons_succ]
        refine tkA 12 ?_
        try simp only [Act.put, List.setIfInBounds_toArray, List.set_cons_zero, List.set_cons_succ]
        refine wpAnyH_done (by kernel_rfl) ?_ _
        have HX9 : Hid (_ ∧ Below W0.heap.size W0 _) := ⟨ownsRow_keep HW6.out.2.2.1 hHeld.1, HW6.out.2.2.2.1.trans (hHeld.1.mono HW6.out.2.2.2.1.size)⟩
        clear hHeld HSo HW6 HCl
        go_wp2_with fail
        go_roundw
        case rel => exact ⟨i + 1, by go_num, by omega, HX9.out⟩
        case measure => simp [intOf]; omega
      · have HCl : Hid (∀ W', Below wr.heap.size wr W' → W'.cell? ⟨g2, i, none⟩ = some (.bool true)) := fun W' h => (h.cell (p := ⟨g2, i, none⟩) HW6.out.2.2.2.2.2).trans (by rw [HW6.out.2.2.2.2.1, hfi])
        have hno := HNe.out i hik hfi
        clear hfi
        have HJ : Hid (∀ W, Below wr.heap.size wr W → Calls Try.prog 13 #[.slice a n c, .slice (some ⟨g5, 0, none⟩) m c6] W (fun e w' => e = .returned (.string (jnS l m (setB f i false))) ∧ Below W.heap.size W w')) := fun W h => HJa.out _ W (some ⟨g5, 0, none⟩) c6 (HW6.out.2.2.2.1.trans (h.mono HW6.out.2.2.2.1.size)) ((bls_at HW6.out.1).below h)
        have HSp : Hid (∀ W, Below wr.heap.size wr W → Calls Try.prog 12 #[.agg D.cD, .int .i64 bl, .string (jnS l m (setB f i false)), .slice a n c] W (fun e w' => e = .returned (.bool false) ∧ Below W.heap.size W w')) := fun W h => by
          have := HSa.out (setB f i false) W (HW6.out.2.2.2.1.trans (h.mono HW6.out.2.2.2.1.size))
          rwa [hno] at this
        clear hno
        generalize jnS l m (setB f i false) = js at HJ HSp
        refine wp_region_held_drew (S := fun W' => Below wr.heap.size wr W' ∧ DBx W' b D) (by kernel_rfl) (HSo.out _ (Below.refl _ _).drew) (fun hHeld => ?_)
        refine tkA 0 ?_
        try simp only [Act.put, List.setIfInBounds_toArray, List.set_cons_zero, List.set_cons_succ]
        refine tkA 1 ?_
        try simp only [Act.put, List.setIfInBounds_toArray, List.set_cons_zero, List.set_cons_succ]
        refine tkA 2 ?_
        try simp only [Act.put, List.setIfInBounds_toArray, List.set_cons_zero, List.set_cons_succ]
        refine tkA 3 ?_ (hy := by intro wz hSw; have z0 := HCl.out wz hSw.1; (try simp only [Act.put, List.setIfInBounds_toArray, List.set_cons_zero, List.set_cons_succ]); go_simp; first | done | with_reducible rfl)
        try simp only [Act.put, List.setIfInBounds_toArray, List.set_cons_zero, List.set_cons_succ]
        refine tkA 4 ?_
        try simp only [Act.put, List.setIfInBounds_toArray, List.set_cons_zero, List.set_cons_succ]
        refine tkA 5 (v := .agg D.cD) ?_ (hy := fun wz hSw => exec_load_any9 (o := _) (ρ := _) wz 26 (.tmp 3) rfl ⟨b, 0, none⟩ rfl D.cD _ (DBx.st (And.right hSw)).part Try.underlying26 rfl (DBx.dm (And.right hSw)).info)
        try simp only [Act.put, List.setIfInBounds_toArray, List.set_cons_zero, List.set_cons_succ]
        refine tkA 6 ?_
        try simp only [Act.put, List.setIfInBounds_toArray, List.set_cons_zero, List.set_cons_succ]
        refine tkA 7 ?_
        try simp only [Act.put, List.setIfInBounds_toArray, List.set_cons_zero, List.set_cons_succ]
        refine tkA 8 ?_
        try simp only [Act.put, List.setIfInBounds_toArray, List.set_cons_zero, List.set_cons_succ]
        refine tkA 10 ?_
        try simp only [Act.put, List.setIfInBounds_toArray, List.set_cons_zero, List.set_cons_succ]
        refine rd1 9 (fun K hK => ?_)
        go_simp
        go_at_call 13
        refine (HJ.out _ hHeld.1).mono ?_
        rintro e w8 ⟨rfl, b8⟩
        have hbn := hHeld.1.trans (b8.mono hHeld.1.size)
        clear b8
        try go_wp2_with fail
        refine hK.out _ _ (HSo.out _ hbn) (fun hHeld => ?_)
        clear hK K hbn
        try simp only [Act.put, List.setIfInBounds_toArray, List.set_cons_zero, List.set_cons_succ]
        refine rd1 11 (fun K hK => ?_)
        go_simp
        go_at_call 12
        refine (HSp.out _ hHeld.1).mono ?_
        rintro e w8 ⟨rfl, b8⟩
        have hbn := hHeld.1.trans (b8.mono hHeld.1.size)
        clear b8
        try go_wp2_with fail
        refine hK.out _ _ (HSo.out _ hbn) (fun hHeld => ?_)
        clear hK K hbn
        try simp only [Act.put, List.setIfInBounds_toArray, List.set_cons_zero, List.set_cons_succ]
        refine tkA 12 ?_
        try simp only [Act.put, List.setIfInBounds_toArray, List.set_cons_zero, List.set_cons_succ]
        refine wpAnyH_done (by kernel_rfl) ?_ _
        have HX9 : Hid (w8.ownsRow W0.heap.size 4 1 (.slice (some ⟨g2, 0, none⟩) m c5) m (bls f m) ∧ Below W0.heap.size W0 w8) := ⟨ownsRow_keep HW6.out.2.2.1 hHeld.1, HW6.out.2.2.2.1.trans (hHeld.1.mono HW6.out.2.2.2.1.size)⟩
        clear hHeld HSo HJ HSp HW6 HCl
        go_wp2_with fail
        go_roundw
        case rel => exact ⟨i + 1, by go_num, by omega, HX9.out⟩
        case measure => simp [intOf]; omega
    · obtain rfl : i = m := by omega
      go_wp2_with fail
      go_ret
      exact ⟨rfl, HFw.out _ HL.out.2⟩
end Go.Proofs.Ytldpmcgkbdejjaa

namespace Go.Proofs.Ytldpmcgkbdejjaa.fuseNeeds
open Go.ChangeShapes Go.WideShapes Go.ChangeAt Go.RowKit Go.Deep
set_option linter.unusedVariables false

set_option maxRecDepth 100000 in
theorem lifted (os : Os) (started : os.Started) (H : Type) (enc : TypeId × Value → H) :
    ReturnsInHanded {} Try.checked os 4 .any (Rows.fuseNeedsSpec.pre6 enc Try.prog Try.f4 Rows.fuseNeedsRow.domain false) (Rows.fuseNeedsSpec.post enc Try.prog Try.f4 false true false false) := by
  refine returnsInHanded_of_change (C := Try.checked) own started (by kernel_rfl) Try.func4
    (ChangeSpec.witness6 (enc := enc) (C := Try.checked) false ⟨#[], #[.agg ((List.replicate 256 (Value.int .u8 0)) ++ [Value.slice none 0 0, Value.slice none 0 0]).toArray, .int .i64 0, .slice none 0 0], []⟩ 8 (by kernel_rfl) (by kernel_rfl) (by kernel_rfl) (by kernel_rfl)) ?_
  intro W base args ds gs before hval0 hW hcnd _
  have hval : ∀ (j : Nat) t v, Try.f4.params[j]? = some t → args[j]? = some v → Value.okWide Try.prog W .any base t v := hval0
  have hW' := hW
  obtain ⟨p, q, hA0, hV, rfl, hfz, hnd⟩ := hW
  have hA : DataW.TrodAll enc Try.prog W 0 (fun _ => true) true Try.f4.params.toList args.toList ds p := hA0
  rw [Try.params4] at hA hval
  obtain ⟨v0, vs0, d0, ds0, p0, q0, hargs, rfl, rfl, h0, r0⟩ := trodAll_cons hA
  obtain ⟨v1, vs1, d1, ds1, p1, q1, rfl, rfl, rfl, h1, r1⟩ := trodAll_cons r0
  obtain ⟨v2, vs2, d2, ds2, p2, q2, rfl, rfl, rfl, h2, r2⟩ := trodAll_cons r1
  obtain ⟨rfl, rfl, rfl⟩ := trodAll_nil r2
  obtain rfl : args = #[v0, v1, v2] := by cases args; simp_all
  obtain ⟨rfl, rfl⟩ := trodVars_none hV
  obtain ⟨a2, n2, c2, rfl⟩ := okWide_slice Try.underlying27 (hval 2 27 v2 rfl rfl)
  have k0 := h0
  have lt0 : ∀ x ∈ p0, x.block < W.heap.size := by obtain ⟨m, hm⟩ := k0; exact DataW.trod_lt m _ _ _ hm
  obtain ⟨D0, rfl, hD0, hn0, hm0, hl0⟩ := open_dfa_val (hval 0 26 v0 rfl rfl) (by obtain ⟨fuel, hf⟩ := h0; exact ⟨fuel, _, hf⟩)
  have k1 := h1
  have lt1 : ∀ x ∈ p1, x.block < W.heap.size := by obtain ⟨m, hm⟩ := k1; exact DataW.trod_lt m _ _ _ hm
  obtain ⟨x1, rfl⟩ := okWide_int Try.underlying3 (hval 1 3 v1 rfl rfl)
  have k2 := h2
  have lt2 : ∀ x ∈ p2, x.block < W.heap.size := by obtain ⟨m, hm⟩ := k2; exact DataW.trod_lt m _ _ _ hm
  obtain ⟨l2, hLn2, hT2, hlc2, hcm2, hz2⟩ := (by obtain ⟨fuel, hf⟩ := h2; exact open_strs9 (by simpa [Value.cells] using hf) : ∃ l : List ByteArray, l.length = n2 ∧ SsAt W a2 l ∧ n2 ≤ c2 ∧ c2 ≤ maxLen ∧ ∀ j (h : j < l.length), l[j].size ≤ maxLen)
  clear hA0 hval0
  unfold maxLen at hn0 hm0 hl0 hcm2 hz2
  refine (fuseNeedsL_any D0 x1 l2 n2 c2 a2 (by omega) (by omega) (fun i hi => Nat.le_trans (hl0 i hi) (by omega)) hLn2 (by omega) (fun j hj => Nat.le_trans (hz2 j hj) (by omega)) W hD0 hT2).mono fun e W' ⟨he, bel⟩ => ?_
  subst he
  exact ⟨_, rfl, _, _, _, [], _, [], hW', trodAll_mk1 (shut_bool Try.underlying4 _), (trodAll_cons_mk (Below.trod laidOut (by kernel_rfl) (of_decide_eq_true (by kernel_rfl)) k0 bel lt0) (trodAll_cons_mk (Below.trod laidOut (by kernel_rfl) (of_decide_eq_true (by kernel_rfl)) k1 bel lt1) (trodAll_cons_mk (Below.trod laidOut (by kernel_rfl) (of_decide_eq_true (by kernel_rfl)) k2 bel lt2) trodAll_mk0))), rfl, bel.frame _, fun h => by cases h⟩

theorem over : Rows.fuseNeedsRow.holds Try.pinned (OpenSpec.ofChange Rows.fuseNeedsSpec) :=
  OpenClaim.holds_of_wide 4 Try.f4 rfl rfl rfl rfl rfl rfl rfl ⟨rfl, rfl, rfl, rfl, rfl⟩ rfl rfl rfl rfl rfl (by kernel_rfl) Try.func4 (by kernel_rfl)
    (of_decide_eq_true (by kernel_rfl)) (by unfold Func.isWrapper; first | (rw [if_pos (by decide +kernel)]; kernel_rfl) | (rw [if_neg (by decide +kernel)]; exact ⟨rfl, rfl⟩))
    (fun os started H enc _ => lifted os started H enc)

/-- The statement. -/
theorem proved : Rows.FuseNeedsSaid := over
end Go.Proofs.Ytldpmcgkbdejjaa.fuseNeeds

namespace Go.Proofs.Ytldpmcgkbdejjaa
end Go.Proofs.Ytldpmcgkbdejjaa
