import Derived.Test.YtlnndkilaklifaaZDBase
import Derived.Test.YtlnndkilaklifaaZFrame
namespace Go.Proofs.Ytlnndkilaklifaa
open Go.RowKit Go.Maps Go.WideElems Go.ChangeMaps Go.MapKept
set_option linter.unusedVariables false
set_option linter.unusedSimpArgs false
set_option maxRecDepth 100000

/-! ### A map by sets -/
theorem wide_set9 : (match Try.prog.underlying 41 with | some (.array _ _) | some (.struct _) => true | _ => false) = true := by kernel_rfl
theorem law_set9 : Keyed Try.prog 41 := Keyed.of_law (deep_law_laid laidOut (m := 2) (by omega) (of_decide_eq_true (by kernel_rfl)) (by kernel_rfl) wide_set9)
theorem lits_u649 (d : Nat) (n : Int) (h : (Lit.int .u64 n).wf = true) : Try.prog.keyLits (d + 1) 39 [.int .u64 n] = some [.int .u64 n] := by
  simp [Program.keyLits, Try.underlying39, h]
theorem cells_u649 : Try.prog.cellsOf 39 = 1 := by kernel_rfl
theorem cells_set9 : Try.prog.cellsOf 41 = 4 := by kernel_rfl
theorem key_set9 (a0 a1 a2 a3 : Int) (h0 : (Lit.int .u64 a0).wf = true) (h1 : (Lit.int .u64 a1).wf = true) (h2 : (Lit.int .u64 a2).wf = true) (h3 : (Lit.int .u64 a3).wf = true) :
    ∃ kl, keyOf Try.prog 41 (.agg #[.int .u64 a0, .int .u64 a1, .int .u64 a2, .int .u64 a3]) = some kl := by
  have hT : Try.prog.keyType 41 = true := by kernel_rfl
  have hs : ∃ d, Try.prog.types.size + 1 = d + 2 := ⟨Try.prog.types.size - 1, by have : 4 ≤ Try.prog.types.size := of_decide_eq_true (by kernel_rfl); omega⟩
  obtain ⟨d, hd⟩ := hs
  have hl : Try.prog.keyLits (d + 2) 41 [.int .u64 a0, .int .u64 a1, .int .u64 a2, .int .u64 a3] = some [.int .u64 a0, .int .u64 a1, .int .u64 a2, .int .u64 a3] := by
    conv => lhs; unfold Program.keyLits
    simp [Try.underlying41, cells_set9, cells_u649, List.range_succ, lits_u649 d a0 h0, lits_u649 d a1 h1, lits_u649 d a2 h2, lits_u649 d a3 h3]
  have hf : (Value.agg #[.int .u64 a0, .int .u64 a1, .int .u64 a2, .int .u64 a3]).formed Try.prog 41 = true := by
    simp [Value.formed, Try.underlying41, cells_set9]
  refine ⟨.string (keyBytes [.int .u64 a0, .int .u64 a1, .int .u64 a2, .int .u64 a3]), ?_⟩
  unfold keyOf
  simp only [Try.underlying41, hT, hf, Bool.and_self, if_true, hd, Value.cells, hl, Option.map_some]
theorem key_of_set9 (p : Nat → Bool) : ∃ kl, keyOf Try.prog 41 (.agg #[.int .u64 ((wd p 0 : Nat) : Int), .int .u64 ((wd p 1 : Nat) : Int), .int .u64 ((wd p 2 : Nat) : Int), .int .u64 ((wd p 3 : Nat) : Int)]) = some kl :=
  key_set9 _ _ _ _ (wfu64 _ (wd_lt p 0)) (wfu64 _ (wd_lt p 1)) (wfu64 _ (wd_lt p 2)) (wfu64 _ (wd_lt p 3))
end Go.Proofs.Ytlnndkilaklifaa
