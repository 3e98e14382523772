import Derived.Test.YtbacgnhkapancaaDoorVAwk
import Derived.Test.YtbacgnhkapancaaDoorVNumP
import Derived.Test.YtbacgnhkapancaaDoorVRNmb
namespace Go.Proofs.YtbacgnhkapancaaDoor
open Go.RowKit Go.Maps Go.WideElems Go.ChangeMaps Go.MapKept
set_option linter.unusedVariables false
set_option linter.unusedSimpArgs false

theorem itoa_len (n : Int) (h0 : -9223372036854775808 ≤ n) (h1 : n ≤ 9223372036854775807) : (Lib.itoa n).length ≤ 20 := by
  unfold Lib.itoa
  split
  · have := dd_len n.natAbs (by omega)
    simp; omega
  · have := dd_len n.toNat (by omega)
    omega

set_option maxHeartbeats 2000000 in
set_option maxRecDepth 100000 in
theorem spotNumbers_law (n : Int) (h0 : -9223372036854775808 ≤ n) (h1 : n ≤ 9223372036854775807) (s : ByteArray) (hs9 : s.size ≤ 9223372036854775807) (w : World) (hL : LibAt w) :
    Calls Tryd.prog 5 #[.int .i64 n, .string s] w fun e w' => e = .returned (.bool true) ∧ Below w.heap.size w w' := by
  obtain ⟨m, hs⟩ : ∃ m, s.size = m := ⟨_, rfl⟩
  have HS := Lib.hid hs
  have HL := Lib.hid hL
  have HA := Lib.hid (awake13_any w)
  clear hL
  go_enter Tryd.func5, Tryd.ntmps5
  go_wp2_with (go_at_call 6; refine HA.out.mono ?_; rintro e W1 ⟨rfl, kb⟩; refine Hid.out ?_)
  refine Lib.hid ?_
  have H1 := Lib.hid kb
  clear kb HA
  by_cases hm : 100 < m
  · have i0 : (100 : Int) < (m : Int) := by omega
    go_wp2_with fail
    go_ret
    exact ⟨rfl, H1.out⟩
  · have i0 : ¬ ((100 : Int) < (m : Int)) := by omega
    have HN := Lib.hid (number13_any s (by omega) W1 (HL.out.keep H1.out))
    have hin := nu_in s.data.toList
    have HM : Hid (∀ W, Calls Tryd.prog 16 #[.string s] W fun e w' => e = .returned (.tuple #[.int .i64 (nuF s.data.toList).1, .bool (nuF s.data.toList).2]) ∧ Below W.heap.size W w') := fun W => rnumber13_any s m HS.out (by omega) W
    generalize (nuF s.data.toList).1 = x at HN HM hin
    generalize (nuF s.data.toList).2 = ok at HN HM
    go_wp2_with (go_at_call 15; refine HN.out.mono ?_; rintro e W2 ⟨rfl, kb⟩; refine Hid.out ?_)
    refine Lib.hid ?_
    have H2 := Lib.hid (H1.out.trans (kb.mono H1.out.size))
    clear kb HN H1
    go_wp2_with (go_at_call 16; refine (HM.out _).mono ?_; rintro e W3 ⟨rfl, kb⟩; refine Hid.out ?_)
    refine Lib.hid ?_
    have H3 := Lib.hid (H2.out.trans (kb.mono H2.out.size))
    clear kb HM H2
    have HD : Hid (∀ W, Below w.heap.size w W → Calls Tryd.prog 17 #[.int .i64 n] W fun e w' => e = .returned (.string (strB (Lib.itoa n))) ∧ Below W.heap.size W w') := fun W hW => Dg.any n h0 h1 w HL.out.pow W hW
    have HE : Hid (∀ W, Below w.heap.size w W → Calls Tryd.prog 15 #[.string (strB (Lib.itoa n))] W fun e w' => e = .returned (.tuple #[.int .i64 n, .bool true]) ∧ Below W.heap.size W w') := fun W hW => by
      have := number13_any (strB (Lib.itoa n)) (by rw [strB_size]; have := itoa_len n h0 h1; omega) W (HL.out.keep hW)
      rw [strB_list, nu_itoa n h0 h1] at this
      exact this
    have HR : Hid (∀ z : Int, -9223372036854775808 ≤ z → z ≤ 9223372036854775807 → ∀ W, Calls Tryd.prog 18 #[.int .i64 z] W fun e w' => e = .returned (.string (strB (Lib.itoa z))) ∧ Below W.heap.size W w') := fun z k0 k1 W => rdigits13_any z k0 k1 W
    have HW : Hid (∀ W, Below w.heap.size w W → Calls Tryd.prog 19 #[.agg #[.int .i64 n, .int .i64 x]] W fun e w' => e = .returned (.string (strB (Lib.itoa n) ++ ⟨#[58]⟩ ++ strB (Lib.itoa x))) ∧ Below W.heap.size W w') := fun W hW =>
      show13_any n x _ _ (by rw [strB_size]; have := itoa_len n h0 h1; omega) (by rw [strB_size]; have := itoa_len x hin.1 hin.2; omega) W (Dg.any n h0 h1 W (HL.out.keep hW).pow) (Dg.any x hin.1 hin.2 W (HL.out.keep hW).pow)
    have HR1 := Lib.hid (HR.out n h0 h1)
    have HR2 := Lib.hid (HR.out x hin.1 hin.2)
    have t1 : (strB (Lib.itoa n)).size ≤ 20 := by rw [strB_size]; exact itoa_len n h0 h1
    have t2 : (strB (Lib.itoa x)).size ≤ 20 := by rw [strB_size]; exact itoa_len x hin.1 hin.2
    generalize strB (Lib.itoa n) = tn at HD HE HW HR1 t1
    generalize strB (Lib.itoa x) = tx at HW HR2 t2
    clear HR
    go_wp2_with (go_at_call 17; refine (HD.out _ H3.out).mono ?_; rintro e W4 ⟨rfl, kb⟩; refine Hid.out ?_)
    refine Lib.hid ?_
    have H4 := Lib.hid (H3.out.trans (kb.mono H3.out.size))
    clear kb H3
    go_wp2_with (go_at_call 15; refine (HE.out _ H4.out).mono ?_; rintro e W5 ⟨rfl, kb⟩; refine Hid.out ?_)
    refine Lib.hid ?_
    have H5 := Lib.hid (H4.out.trans (kb.mono H4.out.size))
    clear kb H4
    have e1 : (x == x) = true := by simp
    have e2 : (ok == ok) = true := by simp
    have e3 : (n == n) = true := by simp
    have e4 : (tn.toList == tn.toList) = true := by simp
    have z1 : ¬ 9223372036854775807 < tn.size + 1 := by omega
    have z2 : ¬ 9223372036854775807 < tn.size + 1 + tx.size := by omega
    go_wp2_with (go_at_call 17; refine (HD.out _ H5.out).mono ?_; rintro e W6 ⟨rfl, kb⟩; refine Hid.out ?_)
    refine Lib.hid ?_
    have H6 := Lib.hid (H5.out.trans (kb.mono H5.out.size))
    clear kb H5
    go_wp2_with (go_at_call 18; refine (HR1.out _).mono ?_; rintro e W7 ⟨rfl, kb⟩; refine Hid.out ?_)
    refine Lib.hid ?_
    have H7 := Lib.hid (H6.out.trans (kb.mono H6.out.size))
    clear kb H6
    go_wp2_with (go_at_call 19; refine (HW.out _ H7.out).mono ?_; rintro e W8 ⟨rfl, kb⟩; refine Hid.out ?_)
    refine Lib.hid ?_
    have H8 := Lib.hid (H7.out.trans (kb.mono H7.out.size))
    clear kb H7
    go_wp2_with (go_at_call 18; refine (HR1.out _).mono ?_; rintro e W9 ⟨rfl, kb⟩; refine Hid.out ?_)
    refine Lib.hid ?_
    have H9 := Lib.hid (H8.out.trans (kb.mono H8.out.size))
    clear kb H8
    go_wp2_with (go_at_call 18; refine (HR2.out _).mono ?_; rintro e Wa ⟨rfl, kb⟩; refine Hid.out ?_)
    refine Lib.hid ?_
    have Ha := Lib.hid (H9.out.trans (kb.mono H9.out.size))
    clear kb H9
    have e5 : ((tn ++ (⟨#[58]⟩ : ByteArray) ++ tx).toList == (tn ++ (⟨#[58]⟩ : ByteArray) ++ tx).toList) = true := by simp
    go_wp2_with fail
    go_ret
    exact ⟨by first | rfl | simp, Ha.out⟩
end Go.Proofs.YtbacgnhkapancaaDoor
