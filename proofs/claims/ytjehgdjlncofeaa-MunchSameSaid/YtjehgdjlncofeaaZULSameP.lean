/-
  What is proved: for every two rows of tokens the law MunchSame returns true and leaves its arguments as they were. No condition.
-/
import Derived.Test.YtjehgdjlncofeaaZUAwk2
import Derived.Test.YtjehgdjlncofeaaZUFrame
import Derived.Test.YtjehgdjlncofeaaZURSm
import Derived.Test.YtjehgdjlncofeaaZUText
namespace Go.Proofs.Ytjehgdjlncofeaa
open Go.RowKit Go.Maps Go.WideElems Go.ChangeMaps Go.MapKept
set_option linter.unusedVariables false
set_option linter.unusedSimpArgs false

set_option maxHeartbeats 4000000 in
set_option maxRecDepth 100000 in
theorem munchSame_any (n n2 c1 c2 : Nat) (a1 a2 : Option Addr) (A B : List Tok) (hA : A.length = n) (hB : B.length = n2) (hn : n ≤ 9223372036854775807) (hn2 : n2 ≤ 9223372036854775807) (hs : ∀ j (h : j < A.length), A[j].s.size ≤ 9223372036854775807) (w : World) (h1 : TkAt w a1 A) (h2 : TkAt w a2 B) :
    Calls Try.prog 6 #[.slice a1 n c1, .slice a2 n2 c2] w fun e w' => e = .returned (.bool true) ∧ Below w.heap.size w w' := by
  have H := Lib.hid (And.intro h1 (And.intro h2 (And.intro hA (And.intro hB hs))))
  have HW := Lib.hid (awake12_any w)
  clear h1 h2 hA hB hs
  go_enter Try.func6, Try.ntmps6
  go_upto_region 3 with (go_at_call 7; refine HW.out.mono ?_; rintro e w1 ⟨rfl, b1⟩)
  have HB := Lib.hid b1
  clear b1 HW
  by_cases h5 : 50 < n
  · have i1 : (50 : Int) < (n : Int) := by omega
    go_wp2_with fail
    go_ret
    exact ⟨rfl, HB.out⟩
  by_cases h6 : 50 < n2
  · have i1 : ¬ ((50 : Int) < (n : Int)) := by omega
    have i2 : (50 : Int) < (n2 : Int) := by omega
    go_wp2_with fail
    go_ret
    exact ⟨rfl, HB.out⟩
  have i1 : ¬ ((50 : Int) < (n : Int)) := by omega
  have i2 : ¬ ((50 : Int) < (n2 : Int)) := by omega
  go_wp2_with fail
  go_loopw [5, 6] (fun v5 v6 wr => ∃ k : Nat, v5 = .string (strOf (txtF (A.take k))) ∧ v6 = .int .i64 k ∧ k ≤ n ∧ wr = w1 ∧ Hid ((txtF (A.take k)).length ≤ 100 * k)) (fun _ v _ => n - (intOf v).toNat)
  case atStart => exact ⟨0, rfl, rfl, Nat.zero_le _, rfl, Nat.zero_le _⟩
  case round =>
    obtain ⟨k, rfl, rfl, hk, rfl, HL⟩ := hrel
    by_cases hlt : k < n
    · have hkA : k < A.length := by rw [H.out.2.2.1]; exact hlt
      obtain ⟨g1, o1, rfl, _, x0, x1, x2⟩ := (H.out.1.below HB.out).get k hkA
      have HT := Lib.hid (txtF_take hkA)
      have hsm := H.out.2.2.2.2 k hkA
      have i3 : (k : Int) < (n : Int) := by omega
      generalize A[k] = x at x0 x1 x2 HT hsm
      obtain ⟨r, s, p⟩ := x
      dsimp only at x0 x1 x2 HT hsm
      by_cases h7 : 100 < s.size
      · have i4 : (100 : Int) < (s.size : Int) := by omega
        go_wp2_with fail
        go_ret
        exact ⟨rfl, HB.out⟩
      · have i4 : ¬ ((100 : Int) < (s.size : Int)) := by omega
        have hz : (numsOf s).length = s.size := by
          rw [← strOf_size (numsOf s), strOf_nums]
        have HN : Hid ((txtF (A.take (k + 1))).length ≤ 100 * (k + 1)) := by
          have := HL.out
          show _ ≤ _
          rw [HT.out, List.length_append, hz]
          omega
        have HS : Hid (strOf (txtF (A.take k)) ++ s = strOf (txtF (A.take (k + 1)))) := by
          show _ = _
          rw [HT.out, ← strOf_append, strOf_nums]
        have hcat : ¬ (9223372036854775807 < (strOf (txtF (A.take k))).size + s.size) := by
          have := HL.out
          rw [strOf_size]
          omega
        clear hz hkA
        go_wp2_with fail
        rw [HS.out]
        go_roundw
        case rel => exact ⟨k + 1, rfl, by go_num, by omega, (by first | trivial | rfl), HN.out⟩
        case measure => simp [intOf]; omega
    · obtain rfl : k = n := by omega
      have hb9 := HL.out
      rw [List.take_of_length_le (by rw [H.out.2.2.1]; exact Nat.le_refl _)] at hb9 ⊢
      have HTA := Lib.hid (H.out.1.below HB.out)
      have HTB := Lib.hid (H.out.2.1.below HB.out)
      have hbig : (txtF A).length ≤ 100000000 := by omega
      have Hbig := Lib.hid hbig
      clear hb9 hbig
      have HM1 : Hid (∀ W, Below wr.heap.size wr W → Calls Try.prog 13 #[.slice a1 k c1, .slice a2 n2 c2] W (TruPost (SmT A B) W)) := fun W h => msame_any k n2 c1 c2 a1 a2 A B H.out.2.2.1 H.out.2.2.2.1 (by omega) (by omega) W (HTA.out.below h) (HTB.out.below h)
      have HM2 : Hid (∀ W, Below wr.heap.size wr W → Calls Try.prog 19 #[.slice a1 k c1, .slice a2 n2 c2] W (TruPost (SmT A B) W)) := fun W h => rsame12_any k n2 c1 c2 a1 a2 A B H.out.2.2.1 H.out.2.2.2.1 (by omega) (by omega) W (HTA.out.below h) (HTB.out.below h)
      have HM3 : Hid (∀ W, Below wr.heap.size wr W → Calls Try.prog 13 #[.slice a1 k c1, .slice a1 k c1] W (TruPost (SmT A A) W)) := fun W h => msame_any k k c1 c1 a1 a1 A A H.out.2.2.1 H.out.2.2.1 (by omega) (by omega) W (HTA.out.below h) (HTA.out.below h)
      have HM4 : Hid (∀ W, Below wr.heap.size wr W → Calls Try.prog 12 #[.slice a1 k c1] W (fun e w' => e = .returned (.string (strOf (txtF A))) ∧ Below W.heap.size W w')) := fun W h => mtext_any k c1 a1 A H.out.2.2.1 (by omega) Hbig.out W (HTA.out.below h)
      have HAA : Hid (SmT A A) := rfl
      have HEq : ∀ s : ByteArray, (s.toList == s.toList) = true := fun s => by simp
      go_upto_region 12 with fail
      go_wp2_with (go_at_call 13; refine (HM1.out _ (Below.refl _ _)).mono ?_)
      rintro e w2 ⟨x, rfl, hx, b2⟩
      have H2 := Lib.hid (And.intro hx b2)
      clear hx b2 HM1
      go_wp2_with (go_at_call 19; refine (HM2.out _ H2.out.2).mono ?_)
      rintro e w3 ⟨y, rfl, hy, b3⟩
      have hxy : x = y := Bool.eq_iff_iff.2 (H2.out.1.trans hy.symm)
      subst hxy
      have H3 := Lib.hid (H2.out.2.trans (b3.mono H2.out.2.size))
      clear hy b3 HM2 H2
      go_wp2_with (go_at_call 13; refine (HM3.out _ H3.out).mono ?_)
      rintro e w4 ⟨z, rfl, hz, b4⟩
      obtain rfl := hz.2 HAA.out
      have H4 := Lib.hid (H3.out.trans (b4.mono H3.out.size))
      clear hz b4 HM3 H3
      go_wp2_with (go_at_call 12; refine (HM4.out _ H4.out).mono ?_)
      rintro e w5 ⟨rfl, b5⟩
      have H5 := Lib.hid (HB.out.trans ((H4.out.trans (b5.mono H4.out.size)).mono HB.out.size))
      clear b5 HM4 H4
      go_wp2_with fail
      go_ret
      exact ⟨rfl, H5.out⟩
end Go.Proofs.Ytjehgdjlncofeaa

namespace Go.Proofs.Ytjehgdjlncofeaa.munchSame
open Go.ChangeShapes Go.WideShapes Go.ChangeAt Go.RowKit Go.Deep
set_option linter.unusedVariables false

set_option maxRecDepth 100000 in
theorem lifted (os : Os) (started : os.Started) (H : Type) (enc : TypeId × Value → H) :
    ReturnsInHanded {} Try.checked os 6 .any (Rows.munchSameSpec.pre6 enc Try.prog Try.f6 Rows.munchSameRow.domain false) (Rows.munchSameSpec.post enc Try.prog Try.f6 false true false false) := by
  refine returnsInHanded_of_change (C := Try.checked) own started (by kernel_rfl) Try.func6
    (ChangeSpec.witness6 (enc := enc) (C := Try.checked) false ⟨#[], #[.slice none 0 0, .slice none 0 0], []⟩ 8 (by kernel_rfl) (by kernel_rfl) (by kernel_rfl) (by kernel_rfl)) ?_
  intro W base args ds gs before hval0 hW hcnd _
  have hval : ∀ (j : Nat) t v, Try.f6.params[j]? = some t → args[j]? = some v → Value.okWide Try.prog W .any base t v := hval0
  have hW' := hW
  obtain ⟨p, q, hA0, hV, rfl, hfz, hnd⟩ := hW
  have hA : DataW.TrodAll enc Try.prog W 0 (fun _ => true) true Try.f6.params.toList args.toList ds p := hA0
  rw [Try.params6] at hA hval
  obtain ⟨v0, vs0, d0, ds0, p0, q0, hargs, rfl, rfl, h0, r0⟩ := trodAll_cons hA
  obtain ⟨v1, vs1, d1, ds1, p1, q1, rfl, rfl, rfl, h1, r1⟩ := trodAll_cons r0
  obtain ⟨rfl, rfl, rfl⟩ := trodAll_nil r1
  obtain rfl : args = #[v0, v1] := by cases args; simp_all
  obtain ⟨rfl, rfl⟩ := trodVars_none hV
  obtain ⟨a0, n0, c0, rfl⟩ := okWide_slice Try.underlying29 (hval 0 29 v0 rfl rfl)
  obtain ⟨a1, n1, c1, rfl⟩ := okWide_slice Try.underlying29 (hval 1 29 v1 rfl rfl)
  have k0 := h0
  have lt0 : ∀ x ∈ p0, x.block < W.heap.size := by obtain ⟨m, hm⟩ := k0; exact DataW.trod_lt m _ _ _ hm
  obtain ⟨A0, hLn0, hT0, hlc0, hcm0, hz0⟩ := (by obtain ⟨fuel, hf⟩ := h0; exact open_toks (by simpa [Value.cells] using hf) : ∃ l : List Tok, l.length = n0 ∧ TkAt W a0 l ∧ n0 ≤ c0 ∧ c0 ≤ maxLen ∧ ∀ j (h : j < l.length), l[j].s.size ≤ maxLen)
  have k1 := h1
  have lt1 : ∀ x ∈ p1, x.block < W.heap.size := by obtain ⟨m, hm⟩ := k1; exact DataW.trod_lt m _ _ _ hm
  obtain ⟨A1, hLn1, hT1, hlc1, hcm1, hz1⟩ := (by obtain ⟨fuel, hf⟩ := h1; exact open_toks (by simpa [Value.cells] using hf) : ∃ l : List Tok, l.length = n1 ∧ TkAt W a1 l ∧ n1 ≤ c1 ∧ c1 ≤ maxLen ∧ ∀ j (h : j < l.length), l[j].s.size ≤ maxLen)
  clear hA0 hval0
  unfold maxLen at hcm0 hz0 hcm1 hz1
  refine (munchSame_any n0 n1 c0 c1 a0 a1 A0 A1 hLn0 hLn1 (by omega) (by omega) (fun j h => Nat.le_trans (hz0 j h) (by omega)) W hT0 hT1).mono fun e W' ⟨he, bel⟩ => ?_
  subst he
  exact ⟨_, rfl, _, _, _, [], _, [], hW', trodAll_mk1 (shut_bool Try.underlying4 _), (trodAll_cons_mk (Below.trod laidOut (by kernel_rfl) (of_decide_eq_true (by kernel_rfl)) k0 bel lt0) (trodAll_cons_mk (Below.trod laidOut (by kernel_rfl) (of_decide_eq_true (by kernel_rfl)) k1 bel lt1) trodAll_mk0)), rfl, bel.frame _, fun h => by cases h⟩

theorem over : Rows.munchSameRow.holds Try.pinned (OpenSpec.ofChange Rows.munchSameSpec) :=
  OpenClaim.holds_of_wide 6 Try.f6 rfl rfl rfl rfl rfl rfl rfl ⟨rfl, rfl, rfl, rfl, rfl⟩ rfl rfl rfl rfl rfl (by kernel_rfl) Try.func6 (by kernel_rfl)
    (of_decide_eq_true (by kernel_rfl)) (by unfold Func.isWrapper; first | (rw [if_pos (by decide +kernel)]; kernel_rfl) | (rw [if_neg (by decide +kernel)]; exact ⟨rfl, rfl⟩))
    (fun os started H enc _ => lifted os started H enc)

/-- The statement. -/
theorem proved : Rows.MunchSameSaid := over
end Go.Proofs.Ytjehgdjlncofeaa.munchSame
