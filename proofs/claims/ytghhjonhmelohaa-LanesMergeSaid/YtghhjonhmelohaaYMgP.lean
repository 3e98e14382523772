/-
  What is proved: tokens parted by kinds are merged again, and any two rows are merged with nothing lost, for every input (the statement LanesMerge). No condition.
-/
import Derived.Test.YtghhjonhmelohaaYLMg
import Derived.Test.YtghhjonhmelohaaTokF
namespace Go.Proofs.Ytghhjonhmelohaa.lanesMerge
open Go.ChangeShapes Go.WideShapes Go.ChangeAt Go.RowKit Go.Deep
set_option linter.unusedVariables false

set_option maxRecDepth 100000 in
theorem lifted (os : Os) (started : os.Started) (H : Type) (enc : TypeId × Value → H) :
    ReturnsInHanded {} Try.checked os 5 .any (Rows.lanesMergeSpec.pre6 enc Try.prog Try.f5 Rows.lanesMergeRow.domain false) (Rows.lanesMergeSpec.post enc Try.prog Try.f5 false true false false) := by
  refine returnsInHanded_of_change (C := Try.checked) own started (by kernel_rfl) Try.func5
    (ChangeSpec.witness6 (enc := enc) (C := Try.checked) false ⟨#[], #[.slice none 0 0, .slice none 0 0, .slice none 0 0], []⟩ 8 (by kernel_rfl) (by kernel_rfl) (by kernel_rfl) (by kernel_rfl)) ?_
  intro W base args ds gs before hval0 hW hcnd _
  have hval : ∀ (j : Nat) t v, Try.f5.params[j]? = some t → args[j]? = some v → Value.okWide Try.prog W .any base t v := hval0
  have hW' := hW
  obtain ⟨p, q, hA0, hV, rfl, hfz, hnd⟩ := hW
  have hA : DataW.TrodAll enc Try.prog W 0 (fun _ => true) true Try.f5.params.toList args.toList ds p := hA0
  rw [Try.params5] at hA hval
  obtain ⟨v0, vs0, d0, ds0, p0, q0, hargs, rfl, rfl, h0, r0⟩ := trodAll_cons hA
  obtain ⟨v1, vs1, d1, ds1, p1, q1, rfl, rfl, rfl, h1, r1⟩ := trodAll_cons r0
  obtain ⟨v2, vs2, d2, ds2, p2, q2, rfl, rfl, rfl, h2, r2⟩ := trodAll_cons r1
  obtain ⟨rfl, rfl, rfl⟩ := trodAll_nil r2
  obtain rfl : args = #[v0, v1, v2] := by cases args; simp_all
  obtain ⟨rfl, rfl⟩ := trodVars_none hV
  obtain ⟨a0, n0, c0, rfl⟩ := okWide_slice Try.underlying22 (hval 0 22 v0 rfl rfl)
  obtain ⟨a1, n1, c1, rfl⟩ := okWide_slice Try.underlying23 (hval 1 23 v1 rfl rfl)
  obtain ⟨a2, n2, c2, rfl⟩ := okWide_slice Try.underlying23 (hval 2 23 v2 rfl rfl)
  have k0 := h0
  have lt0 : ∀ x ∈ p0, x.block < W.heap.size := by obtain ⟨m, hm⟩ := k0; exact DataW.trod_lt m _ _ _ hm
  obtain ⟨⟨z0, hZ0⟩, hlc0, hcm0⟩ := (by obtain ⟨fuel, hf⟩ := h0; exact open_ints9 (by simpa [Value.cells] using hf) : (∃ g : Nat → Int, ZAt W a0 n0 g) ∧ n0 ≤ c0 ∧ c0 ≤ maxLen)
  have k1 := h1
  have lt1 : ∀ x ∈ p1, x.block < W.heap.size := by obtain ⟨m, hm⟩ := k1; exact DataW.trod_lt m _ _ _ hm
  obtain ⟨A1, hLn1, hT1, hlc1, hcm1, hz1⟩ := (by obtain ⟨fuel, hf⟩ := h1; exact open_toks (by simpa [Value.cells] using hf) : ∃ l : List Tok, l.length = n1 ∧ TkAt W a1 l ∧ n1 ≤ c1 ∧ c1 ≤ maxLen ∧ ∀ j (h : j < l.length), l[j].s.size ≤ maxLen)
  have k2 := h2
  have lt2 : ∀ x ∈ p2, x.block < W.heap.size := by obtain ⟨m, hm⟩ := k2; exact DataW.trod_lt m _ _ _ hm
  obtain ⟨A2, hLn2, hT2, hlc2, hcm2, hz2⟩ := (by obtain ⟨fuel, hf⟩ := h2; exact open_toks (by simpa [Value.cells] using hf) : ∃ l : List Tok, l.length = n2 ∧ TkAt W a2 l ∧ n2 ≤ c2 ∧ c2 ≤ maxLen ∧ ∀ j (h : j < l.length), l[j].s.size ≤ maxLen)
  clear hA0 hval0
  unfold maxLen at hcm0 hcm1 hz1 hcm2 hz2
  refine (lanesMerge_any n0 c0 a0 z0 n1 c1 a1 A1 n2 c2 a2 A2 hLn1 hLn2 hlc1 hlc2 W hZ0 hT1 hT2).mono fun e W' ⟨he, bel⟩ => ?_
  subst he
  exact ⟨_, rfl, _, _, _, [], _, [], hW', trodAll_mk1 (shut_bool Try.underlying4 _), (trodAll_cons_mk (Below.trod laidOut (by kernel_rfl) (of_decide_eq_true (by kernel_rfl)) k0 bel lt0) (trodAll_cons_mk (Below.trod laidOut (by kernel_rfl) (of_decide_eq_true (by kernel_rfl)) k1 bel lt1) (trodAll_cons_mk (Below.trod laidOut (by kernel_rfl) (of_decide_eq_true (by kernel_rfl)) k2 bel lt2) trodAll_mk0))), rfl, bel.frame _, fun h => by cases h⟩

theorem over : Rows.lanesMergeRow.holds Try.pinned (OpenSpec.ofChange Rows.lanesMergeSpec) :=
  OpenClaim.holds_of_wide 5 Try.f5 rfl rfl rfl rfl rfl rfl rfl ⟨rfl, rfl, rfl, rfl, rfl⟩ rfl rfl rfl rfl rfl (by kernel_rfl) Try.func5 (by kernel_rfl)
    (of_decide_eq_true (by kernel_rfl)) (by unfold Func.isWrapper; first | (rw [if_pos (by decide +kernel)]; kernel_rfl) | (rw [if_neg (by decide +kernel)]; exact ⟨rfl, rfl⟩))
    (fun os started H enc _ => lifted os started H enc)

/-- The statement. -/
theorem proved : Rows.LanesMergeSaid := over
end Go.Proofs.Ytghhjonhmelohaa.lanesMerge
