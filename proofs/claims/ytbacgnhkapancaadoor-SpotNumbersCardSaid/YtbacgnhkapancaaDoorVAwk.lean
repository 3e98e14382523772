import Derived.Test.YtbacgnhkapancaaDoorVOf
import Derived.Test.YtbacgnhkapancaaDoorVDig
namespace Go.Proofs.YtbacgnhkapancaaDoor
open Go.RowKit Go.Maps Go.WideElems Go.ChangeMaps Go.MapKept
set_option linter.unusedVariables false
set_option linter.unusedSimpArgs false

theorem ex_ln : lnF (bz ⟨#[97, 10, 98, 99]⟩) 3 = 2 := by decide
theorem ex_fr : frF (bz ⟨#[97, 10, 98, 99]⟩) 3 = 2 := by decide
theorem ex_txt : ((⟨#[50]⟩ : ByteArray) ++ ⟨#[58]⟩ ++ ⟨#[50]⟩) = ⟨#[50, 58, 50]⟩ := by rfl
theorem ex_dig : strB (Lib.decDigits 2) = ⟨#[50]⟩ := by rw [dd_small (by decide)]; rfl

set_option maxHeartbeats 1000000 in
set_option maxRecDepth 100000 in
theorem awake13_any (w : World) : Calls Tryd.prog 6 #[] w fun e w' => e = .returned (.bool true) ∧ Below w.heap.size w w' := by
  have HO : Hid (Calls Tryd.prog 8 #[.string ⟨#[97, 10, 98, 99]⟩, .int .i64 3] w fun e w' => e = .returned (.agg #[.int .i64 2, .int .i64 2]) ∧ Below w.heap.size w w') := by
    refine (sof13_any ⟨#[97, 10, 98, 99]⟩ 3 4 rfl (by omega) w).mono ?_
    rintro e w' ⟨rfl, h⟩
    have e3 : clp 4 3 = 3 := by decide
    rw [e3, ex_ln, ex_fr]
    exact ⟨rfl, h⟩
  go_enter Tryd.func6, Tryd.ntmps6
  go_wp2_with (go_at_call 8; refine HO.out.mono ?_; rintro e w1 ⟨rfl, kb⟩; refine Hid.out ?_)
  refine Lib.hid ?_
  have HD : Hid (Dg w1 2 ⟨#[50]⟩) := by
    have := Dg.small 2 (by decide) w1
    rw [ex_dig] at this
    exact this
  have HW := Lib.hid (show13_any 2 2 ⟨#[50]⟩ ⟨#[50]⟩ (by decide) (by decide) w1 HD.out HD.out)
  have HK := Lib.hid kb
  clear kb
  go_wp2_with (go_at_call 19; refine HW.out.mono ?_; rintro e w2 ⟨rfl, kb⟩; refine Hid.out ?_)
  refine Lib.hid ?_
  rw [ex_txt]
  have HF := Lib.hid (HK.out.trans (kb.mono HK.out.size))
  clear kb
  go_wp2_with fail
  go_ret
  exact ⟨rfl, HF.out⟩
end Go.Proofs.YtbacgnhkapancaaDoor
