import Derived.Test.YthidhkaeebakjaaNOfX
namespace Go.Proofs.Ythidhkaeebakjaa
open Go.RowKit Go.Maps Go.WideElems Go.ChangeMaps Go.MapKept
set_option linter.unusedVariables false
set_option linter.unusedSimpArgs false

theorem exE_ok : Ok [exE] 2 0 1 := ⟨by decide, by decide, fun e he => by rw [List.mem_singleton.1 he]; decide⟩
theorem exE_right : riB ((2 : Nat) : Int) ([exE].map En.z) ((0 : Nat) : Int) ((1 : Nat) : Int) = true := by
  simp [riB, edB, stB, En.z, exE]
theorem exE_run (z : Nat → Nat) : RunP [exE] 0 z 1 1 ↔ z 0 = 97 := by
  have hnf : ∀ (A : Nat → Prop) (y : Nat), FR [exE] A y → A y := fun A y h => FR.within (C := A) (fun x hx => hx) (fun e he hb => by rw [List.mem_singleton.1 he] at hb; cases hb) h
  constructor
  · intro h
    obtain ⟨e, he, _, hp, _⟩ := hnf _ _ h
    rw [List.mem_singleton.1 he] at hp
    simpa [exE, exA] using hp
  · intro h
    exact .base ⟨exE, List.mem_singleton.2 rfl, rfl, by rw [h]; rfl, .base rfl, rfl⟩

set_option maxHeartbeats 1000000 in
set_option maxRecDepth 100000 in
theorem awake06_any (w : World) : Calls Try.prog 8 #[] w fun e w' => e = .returned (.bool true) ∧ Below w.heap.size w w' := by
  have HS := Lib.hid (St.new w 67 #[.int .i64 1, .int .u64 0, .int .u64 8589934592, .int .u64 0, .int .u64 0])
  have HB := Lib.hid (al w (.cells #[.int .i64 1, .int .u64 0, .int .u64 8589934592, .int .u64 0, .int .u64 0] 67))
  go_enter Try.func8, Try.ntmps8
  go_wp2_with fail
  generalize w.alloc (.cells #[.int .i64 1, .int .u64 0, .int .u64 8589934592, .int .u64 0, .int .u64 0] 67) = W at HS HB ⊢
  refine (of_ex w.heap.size W HS.out).mono ?_
  rintro e w2 ⟨a, c, rfl, ho, v2⟩
  have hbw := HB.out.trans (v2.mono HB.out.size)
  have H2 := Lib.hid (And.intro (own_edges ho) hbw)
  have hN := St.new w2 24 #[.int .i64 2, .slice a 1 c, .int .i64 0, .int .i64 1]
  have H3 := Lib.hid (And.intro hN (And.intro ((own_edges ho).below (al w2 (.cells #[.int .i64 2, .slice a 1 c, .int .i64 0, .int .i64 1] 24))) (hbw.alloc hbw.size (.cells #[.int .i64 2, .slice a 1 c, .int .i64 0, .int .i64 1] 24))))
  clear ho v2 hbw hN
  go_wp2_with fail
  generalize w2.alloc (.cells #[.int .i64 2, .slice a 1 c, .int .i64 0, .int .i64 1] 24) = V at H3 ⊢
  generalize w2.heap.size = bn at H3 ⊢
  refine (has_yes [exE] 2 0 1 exE_ok exE_right (by omega) a 1 c V H3.out.2.1 rfl (by omega) ⟨#[97]⟩ 1 rfl (by omega)).mono ?_
  rintro e w3 ⟨x, rfl, hx, v3⟩
  have hx1 : x = true := hx.2 ((exE_run _).2 rfl)
  subst hx1
  have H4 := Lib.hid (And.intro (H3.out.1.keep v3) (And.intro (H3.out.2.1.below v3) (H3.out.2.2.trans (v3.mono H3.out.2.2.size))))
  obtain ⟨c0, c1, c2, c3⟩ := H4.out.1.cells4
  clear hx v3
  go_wp2_with fail
  refine (has_yes [exE] 2 0 1 exE_ok exE_right (by omega) a 1 c w3 H4.out.2.1 rfl (by omega) ⟨#[98]⟩ 1 rfl (by omega)).mono ?_
  rintro e w4 ⟨y, rfl, hy, v4⟩
  have hy1 : y = false := by
    cases y with
    | false => rfl
    | true => exact absurd ((exE_run _).1 (hy.1 rfl)) (by decide)
  subst hy1
  have H5 := Lib.hid (H4.out.2.2.trans (v4.mono H4.out.2.2.size))
  clear hy v4 c0 c1 c2 c3
  go_wp2_with fail
  go_ret
  exact ⟨rfl, H5.out⟩
end Go.Proofs.Ythidhkaeebakjaa
