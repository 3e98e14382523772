import Derived.Test.YthidhkaeebakjaaNClose
import Derived.Test.YthidhkaeebakjaaNSets
import Derived.Test.YthidhkaeebakjaaChk
import Derived.Deep.RegionLaw
import Derived.Deep.RegionWith
import Derived.Deep.DeepCutAuto
namespace Go.Proofs.Ythidhkaeebakjaa
open Go.RowKit Go.Maps Go.WideElems Go.ChangeMaps Go.MapKept
set_option linter.unusedVariables false
set_option linter.unusedSimpArgs false

/-- The example's set, and its expression. -/
def exA : Nat → Bool := fun x => x == 97
set_option maxRecDepth 100000 in
theorem exA_wd : wd exA 0 = 0 ∧ wd exA 1 = 8589934592 ∧ wd exA 2 = 0 ∧ wd exA 3 = 0 := by decide +kernel
def exL : List Pc := [⟨1, exA⟩]
set_option maxRecDepth 100000 in
theorem exL_chk : chkT exL = 0 := by decide +kernel
theorem exL_pcs : pcs exL = [.int .i64 1, .int .u64 0, .int .u64 8589934592, .int .u64 0, .int .u64 0] := by
  obtain ⟨h0, h1, h2, h3⟩ := exA_wd
  simp [pcs, exL, pcCells, h0, h1, h2, h3]
theorem begin_any (k : Nat) (hk : k ≤ 1000000) (w : World) : Calls Try.prog 46 #[.int .i64 ((k : Nat) : Int)] w fun e w' => e = .returned (.int .i64 (((2 * k : Nat)) : Int)) ∧ w = w' := by
  go_enter Try.func46, Try.ntmps46
  go_wp2_with fail
  go_ret
  exact ⟨by show Ending.returned _ = _; congr 2, rfl⟩
theorem end_any (k : Nat) (hk : k ≤ 1000000) (w : World) : Calls Try.prog 47 #[.int .i64 ((k : Nat) : Int)] w fun e w' => e = .returned (.int .i64 (((2 * k + 1 : Nat)) : Int)) ∧ w = w' := by
  go_enter Try.func47, Try.ntmps47
  go_wp2_with fail
  go_ret
  exact ⟨by show Ending.returned _ = _; congr 2, rfl⟩
def exE : En := ⟨0, 1, exA, false⟩
theorem exE_cells : (#[.int .i64 0, .int .i64 1, .int .u64 0, .int .u64 8589934592, .int .u64 0, .int .u64 0, .bool false] : Array Value).toList = egs ([exE].map En.z) := by
  obtain ⟨h0, h1, h2, h3⟩ := exA_wd
  simp [egs, egCells, En.z, exE, h0, h1, h2, h3]
def EoPost (w : World) (e : Ending) (w' : World) : Prop :=
  ∃ g, e = .returned (.slice (some ⟨g, 0, none⟩) 1 1) ∧ St w' 35 g #[.int .i64 0, .int .i64 1, .int .u64 0, .int .u64 8589934592, .int .u64 0, .int .u64 0, .bool false] ∧ w.heap.size ≤ g ∧ Below w.heap.size w w'

set_option maxHeartbeats 1000000 in
set_option maxRecDepth 100000 in
theorem edgesOf_ex (g : Nat) (w : World) (hL : St w 67 g #[.int .i64 1, .int .u64 0, .int .u64 8589934592, .int .u64 0, .int .u64 0]) :
    Calls Try.prog 48 #[.slice (some ⟨g, 0, none⟩) 1 1, .int .i64 0] w (EoPost w) := by
  have c0 := hL.at_ 0
  have c1 := hL.at_ 1
  have c2 := hL.at_ 2
  have c3 := hL.at_ 3
  have c4 := hL.at_ 4
  simp only [List.getElem?_toArray, List.getElem?_cons_succ, List.getElem?_cons_zero] at c0 c1 c2 c3 c4
  have hlt := hL.lt
  have HL := Lib.hid hL
  clear hL
  go_enter Try.func48, Try.ntmps48
  go_wp2_with fail
  go_cut [5, 6, 7] from 9 to 16 (fun v5 v6 v7 wx => v5 = .pointer (some ⟨w.heap.size, 0, none⟩) ∧ v6 = .int .i64 0 ∧ v7 = .int .i64 1 ∧ St wx 67 w.heap.size #[.int .i64 1, .int .u64 0, .int .u64 8589934592, .int .u64 0, .int .u64 0] ∧ Below w.heap.size w wx)
  case first =>
    go_region_with (first
      | (go_at_call 46; refine (begin_any 0 (by omega) _).mono ?_; rintro e w' ⟨rfl, rfl⟩)
      | (go_at_call 47; refine (end_any 0 (by omega) _).mono ?_; rintro e w' ⟨rfl, rfl⟩))
    all_goals
      go_wp2_with fail
      go_meet
      exact ⟨rfl, rfl, rfl, St.new _ _ _, ((Below.refl _ _).alloc (Nat.le_refl _) _).drew⟩
  case rest =>
    obtain ⟨rfl, rfl, rfl, hS, hB⟩ := hcut
    have h0 := hS.at_ 0
    have h1 := hS.at_ 1
    have h2 := hS.at_ 2
    have h3 := hS.at_ 3
    have h4 := hS.at_ 4
    simp only [List.getElem?_toArray, List.getElem?_cons_succ, List.getElem?_cons_zero] at h0 h1 h2 h3 h4
    have HB := Lib.hid hB
    clear hS hB c0 c1 c2 c3 c4
    go_wp2_with fail
    refine (takes_any 1 _).mono ?_
    rintro e w2 ⟨rfl, rfl⟩
    rw [show takesZ 1 = 0 from rfl]
    go_wp2_with fail
    go_ret
    exact ⟨_, rfl, St.new _ _ _, HB.out.size, HB.out.alloc HB.out.size _⟩
end Go.Proofs.Ythidhkaeebakjaa
