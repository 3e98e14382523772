import Derived.Test.YtcohjopbhopcgaaGAdd
import Derived.Test.YtcohjopbhopcgaaGCl
namespace Go.Proofs.Ytcohjopbhopcgaa
open Go.RowKit Go.Maps Go.WideElems Go.ChangeMaps Go.MapKept
set_option linter.unusedVariables false
set_option linter.unusedSimpArgs false

theorem addS_any {w : World} {B p : Nat} {v : Value} {l : List ByteArray} (h : TbM w B p v l) (hl : l.length ≤ 300) (s : ByteArray) (hs : s.size ≤ 1000) :
    Calls Try.prog 8 #[.pointer (some ⟨p, 0, none⟩), .string s] w (AddSP B p v l s w) := add16_any h hl s hs (fun W => scl16_any s (by omega) W)
theorem awk_name : nameT ⟨#[97]⟩ = true := by decide
set_option maxHeartbeats 2000000 in
set_option maxRecDepth 100000 in
theorem awake16_any (w : World) : Calls Try.prog 5 #[] w fun e w' => e = .returned (.bool true) ∧ Below w.heap.size w w' := by
  have f0 : fdS [] (⟨#[97]⟩ : ByteArray) = -1 := rfl
  have f1 : fdS [(⟨#[97]⟩ : ByteArray)] ⟨#[97]⟩ = 0 := by simp [fdS, plS]
  have HA := Lib.hid (ad_yes (l := []) awk_name f0 (by simp))
  have HB := Lib.hid (ad_twice (l := [(⟨#[97]⟩ : ByteArray)]) awk_name (by rw [f1]; decide))
  have HF := Lib.hid f1
  clear f0 f1
  go_enter Try.func5, Try.ntmps5
  go_wp2_with fail
  refine (new16_any w).mono ?_
  rintro e w1 ⟨rfl, m1, b1⟩
  have H1 := Lib.hid (And.intro m1 b1)
  have HC := Lib.hid (addS_any m1 (by simp) ⟨#[97]⟩ (by decide))
  clear m1 b1
  go_wp2_with fail
  refine HC.out.mono ?_
  rintro e w2 ⟨v2, rfl, m2, c2, _⟩
  have b2 := H1.out.2.trans (c2.below H1.out.1 H1.out.2.size)
  rw [HA.out.2.1, HA.out.2.2]
  rw [HA.out.1] at m2
  have HC2 := Lib.hid (addS_any m2 (by simp) ⟨#[97]⟩ (by decide))
  have H2 := Lib.hid (And.intro m2 b2)
  clear m2 c2 b2 HC
  go_wp2_with fail
  refine HC2.out.mono ?_
  rintro e w3 ⟨v3, rfl, m3, c3, _⟩
  have H3 := Lib.hid (H2.out.2.trans (c3.below H2.out.1 H2.out.2.size))
  have e1 : adI ([] ++ [(⟨#[97]⟩ : ByteArray)]) ⟨#[97]⟩ = 0 := HB.out.2.1.trans HF.out
  have e2 : adE ([] ++ [(⟨#[97]⟩ : ByteArray)]) ⟨#[97]⟩ = 9 := HB.out.2.2
  rw [e1, e2]
  clear m3 c3 HC2 e1 e2
  go_wp2_with fail
  go_ret
  exact ⟨rfl, H3.out⟩
end Go.Proofs.Ytcohjopbhopcgaa
