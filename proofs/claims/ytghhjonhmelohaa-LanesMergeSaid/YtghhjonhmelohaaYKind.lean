import Derived.Test.YtghhjonhmelohaaVBase
import Derived.Test.YtghhjonhmelohaaYMath
namespace Go.Proofs.Ytghhjonhmelohaa
open Go.RowKit Go.Maps Go.WideElems Go.ChangeMaps Go.MapKept
set_option linter.unusedVariables false
set_option linter.unusedSimpArgs false

set_option maxHeartbeats 1000000 in
set_option maxRecDepth 100000 in
theorem lkind_any (n c : Nat) (a : Option Addr) (z : Nat → Int) (t : Tok) (w : World) (hK : ZAt w a n z) :
    Calls Try.prog 13 #[.slice a n c, .agg #[.int .i64 t.r, .string t.s, .int .i64 t.p]] w fun e w' => e = .returned (.int .i64 (kdF z n t.r)) ∧ Below w.heap.size w w' := by
  obtain ⟨r, s, p⟩ := t
  dsimp only
  have kb := al w (.cells #[.int .i64 r, .string s, .int .i64 p] 32)
  have HB := Lib.hid kb
  have HK := Lib.hid (hK.below kb)
  clear kb hK
  go_enter Try.func13, Try.ntmps13
  by_cases h0 : r < 0
  · have e : kdF z n r = 1 := by rw [kdF, if_pos h0]
    rw [e]
    clear e
    go_wp2_with fail
    go_ret
    exact ⟨rfl, HB.out⟩
  · by_cases h1 : (n : Int) ≤ r
    · have e : kdF z n r = 1 := by rw [kdF, if_neg h0, if_pos h1]
      rw [e]
      clear e
      go_wp2_with fail
      go_ret
      exact ⟨rfl, HB.out⟩
    · have e : kdF z n r = z r.toNat := by rw [kdF, if_neg h0, if_neg h1]
      rw [e]
      clear e
      obtain ⟨q, rfl⟩ : ∃ q : Nat, r = (q : Int) := ⟨r.toNat, by omega⟩
      have hq : q < n := by omega
      obtain ⟨g, off, rfl, hg, hc⟩ := HK.out (by omega)
      have hcq := hc q hq
      have hlt : (q : Int) < (n : Int) := by omega
      clear hc hg
      rw [show ((q : Int)).toNat = q by simp]
      go_wp2_with fail
      go_ret
      exact ⟨rfl, HB.out⟩

set_option maxHeartbeats 1000000 in
set_option maxRecDepth 100000 in
theorem rkind14_any (n c : Nat) (a : Option Addr) (z : Nat → Int) (t : Tok) (w : World) (hK : ZAt w a n z) :
    Calls Try.prog 14 #[.slice a n c, .agg #[.int .i64 t.r, .string t.s, .int .i64 t.p]] w fun e w' => e = .returned (.int .i64 (kdF z n t.r)) ∧ Below w.heap.size w w' := by
  obtain ⟨r, s, p⟩ := t
  dsimp only
  have kb := al w (.cells #[.int .i64 r, .string s, .int .i64 p] 32)
  have HB := Lib.hid kb
  have HK := Lib.hid (hK.below kb)
  clear kb hK
  go_enter Try.func14, Try.ntmps14
  by_cases h0 : r < 0
  · have e : kdF z n r = 1 := by rw [kdF, if_pos h0]
    rw [e]
    clear e
    go_wp2_with fail
    go_ret
    exact ⟨rfl, HB.out⟩
  · by_cases h1 : (n : Int) ≤ r
    · have e : kdF z n r = 1 := by rw [kdF, if_neg h0, if_pos h1]
      rw [e]
      clear e
      go_wp2_with fail
      go_ret
      exact ⟨rfl, HB.out⟩
    · have e : kdF z n r = z r.toNat := by rw [kdF, if_neg h0, if_neg h1]
      rw [e]
      clear e
      obtain ⟨q, rfl⟩ : ∃ q : Nat, r = (q : Int) := ⟨r.toNat, by omega⟩
      have hq : q < n := by omega
      obtain ⟨g, off, rfl, hg, hc⟩ := HK.out (by omega)
      have hcq := hc q hq
      have hlt : (q : Int) < (n : Int) := by omega
      clear hc hg
      rw [show ((q : Int)).toNat = q by simp]
      go_wp2_with fail
      go_ret
      exact ⟨rfl, HB.out⟩

set_option maxHeartbeats 1000000 in
set_option maxRecDepth 100000 in
theorem counts14_any (n c : Nat) (a : Option Addr) (z : Nat → Int) (t : Tok) (w : World) (hK : ZAt w a n z) :
    Calls Try.prog 26 #[.slice a n c, .agg #[.int .i64 t.r, .string t.s, .int .i64 t.p]] w fun e w' => e = .returned (.bool (kdF z n t.r == 0 || kdF z n t.r == 2)) ∧ Below w.heap.size w w' := by
  have kb := al w (.cells #[.int .i64 t.r, .string t.s, .int .i64 t.p] 32)
  have HB := Lib.hid kb
  have HC := Lib.hid (rkind14_any n c a z t _ (hK.below kb))
  obtain ⟨r, s, p⟩ := t
  dsimp only at HB HC ⊢
  clear kb hK
  go_enter Try.func26, Try.ntmps26
  generalize kdF z n r = k at HC ⊢
  rcases h0 : (k == 0) with _ | _
  · rw [Bool.false_or]
    go_wp2_with (go_at_call 14; refine HC.out.mono ?_; rintro e w2 ⟨rfl, b2⟩)
    go_ret
    exact ⟨rfl, HB.out.trans (b2.mono HB.out.size)⟩
  · rw [Bool.true_or]
    go_wp2_with (go_at_call 14; refine HC.out.mono ?_; rintro e w2 ⟨rfl, b2⟩)
    go_ret
    exact ⟨rfl, HB.out.trans (b2.mono HB.out.size)⟩
end Go.Proofs.Ytghhjonhmelohaa
