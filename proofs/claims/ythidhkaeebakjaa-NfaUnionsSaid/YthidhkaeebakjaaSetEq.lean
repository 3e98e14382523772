import Derived.Test.YthidhkaeebakjaaWith
import Derived.Laws.StructEq
namespace Go.Proofs.Ythidhkaeebakjaa
open Go.RowKit

theorem run_part_u64 (w : World) (cs : Array Value) (i : Nat) (v : Value) (h : cs[i]? = some v) : (part 31 cs i).run Try.prog w = .ok v w := by
  have hag : (isAgg 31).run Try.prog w = .ok false w := by kernel_rfl
  unfold part
  simp [hag, h]
theorem run_eq_set_at (d : Nat) (hw : ∀ (w : World) (a b : Int), (Op.equalIn d 31 (.int .u64 a) (.int .u64 b)).run Try.prog w = .ok (a == b) w) (w : World) (a0 a1 a2 a3 b0 b1 b2 b3 : Int) :
    (Op.equalIn (d + 1) 33 (.agg #[.int .u64 a0, .int .u64 a1, .int .u64 a2, .int .u64 a3]) (.agg #[.int .u64 b0, .int .u64 b1, .int .u64 b2, .int .u64 b3])).run Try.prog w = .ok (a0 == b0 && (a1 == b1 && (a2 == b2 && a3 == b3))) w := by
  have hu : Try.prog.underlying 33 = some (.array 4 31) := by kernel_rfl
  have hsz : ∀ w, (sizeOf 31).run Try.prog w = .ok 1 w := fun w => by kernel_rfl
  simp only [Op.equalIn, Sem.run_bind, run_underlying hu, Result.andThen_ok, hsz]
  simp only [Std.Legacy.Range.forIn_eq_forIn_range', Std.Legacy.Range.size, List.range']
  have p0 : ∀ (w : World) (c0 c1 c2 c3 : Int), (part 31 #[.int .u64 c0, .int .u64 c1, .int .u64 c2, .int .u64 c3] (0 * 1)).run Try.prog w = .ok (.int .u64 c0) w := fun w c0 c1 c2 c3 => run_part_u64 w _ _ _ rfl
  have p1 : ∀ (w : World) (c0 c1 c2 c3 : Int), (part 31 #[.int .u64 c0, .int .u64 c1, .int .u64 c2, .int .u64 c3] ((0 + 1) * 1)).run Try.prog w = .ok (.int .u64 c1) w := fun w c0 c1 c2 c3 => run_part_u64 w _ _ _ rfl
  have p2 : ∀ (w : World) (c0 c1 c2 c3 : Int), (part 31 #[.int .u64 c0, .int .u64 c1, .int .u64 c2, .int .u64 c3] ((0 + 1 + 1) * 1)).run Try.prog w = .ok (.int .u64 c2) w := fun w c0 c1 c2 c3 => run_part_u64 w _ _ _ rfl
  have p3 : ∀ (w : World) (c0 c1 c2 c3 : Int), (part 31 #[.int .u64 c0, .int .u64 c1, .int .u64 c2, .int .u64 c3] ((0 + 1 + 1 + 1) * 1)).run Try.prog w = .ok (.int .u64 c3) w := fun w c0 c1 c2 c3 => run_part_u64 w _ _ _ rfl
  simp only [List.forIn_cons, List.forIn_nil, Sem.run_bind, p0, hw, Result.andThen_ok]
  cases h0 : (a0 == b0)
  · simp [Result.andThen]
  · cases h1 : (a1 == b1)
    · simp [Result.andThen, p1, hw, h1]
    · cases h2 : (a2 == b2)
      · simp [Result.andThen, p1, p2, hw, h1, h2]
      · cases h3 : (a3 == b3)
        · simp [Result.andThen, p1, p2, p3, hw, h1, h2, h3]
        · simp [Result.andThen, p1, p2, p3, hw, h1, h2, h3]
theorem run_eq_set (w : World) (a0 a1 a2 a3 b0 b1 b2 b3 : Int) :
    (Op.equalIn 10000 33 (.agg #[.int .u64 a0, .int .u64 a1, .int .u64 a2, .int .u64 a3]) (.agg #[.int .u64 b0, .int .u64 b1, .int .u64 b2, .int .u64 b3])).run Try.prog w = .ok (a0 == b0 && (a1 == b1 && (a2 == b2 && a3 == b3))) w :=
  run_eq_set_at 9999 (fun w a b => run_equalIn_int w 9998 31 .u64 .u64 a b Try.underlying31) w a0 a1 a2 a3 b0 b1 b2 b3
end Go.Proofs.Ythidhkaeebakjaa
