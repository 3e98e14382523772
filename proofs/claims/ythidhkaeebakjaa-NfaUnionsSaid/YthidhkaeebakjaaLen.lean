import Derived.Test.YthidhkaeebakjaaOnesAny
import Derived.Test.YthidhkaeebakjaaOwn
namespace Go.Proofs.Ythidhkaeebakjaa
open Go.RowKit

theorem cnt_lst (p : Nat → Bool) (j n : Nat) (hn : n ≤ 64) : (lst p (64 * j + n)).length = (lst p (64 * j)).length + cnt p j n := by
  induction n with
  | zero => simp [cnt, sm]
  | succ n ih =>
    have e : cnt p j (n + 1) = cnt p j n + bt p j n := rfl
    rw [e, show 64 * j + (n + 1) = 64 * j + n + 1 by omega]
    rcases hp : p (64 * j + n) with _ | _
    · rw [lst_no _ _ hp, ih (by omega)]; simp [bt, hp]
    · rw [lst_yes _ _ hp, List.length_append, ih (by omega)]; simp [bt, hp, (by omega : n < 64)]; omega
/-- How many bytes of the first k words are in a set. -/
def tot (p : Nat → Bool) (k : Nat) : Nat := (lst p (64 * k)).length
theorem tot_succ (p : Nat → Bool) (k : Nat) : tot p (k + 1) = tot p k + cnt p k 64 := by
  unfold tot
  rw [show 64 * (k + 1) = 64 * k + 64 by omega, cnt_lst p k 64 (Nat.le_refl _)]
theorem tot_le (p : Nat → Bool) (k : Nat) : tot p k ≤ 64 * k := lst_le p (64 * k)
theorem cnt_le (p : Nat → Bool) (k : Nat) : cnt p k 64 ≤ 1000 := by
  have h : ∀ n, cnt p k n ≤ n := by
    intro n
    induction n with
    | zero => simp [cnt, sm]
    | succ n ih =>
      have e : cnt p k (n + 1) = cnt p k n + bt p k n := rfl
      have : bt p k n ≤ 1 := by unfold bt; split <;> (try split) <;> omega
      omega
  have := h 64
  omega

structure BoxAt (w : World) (p : Nat → Bool) (wr : World) : Prop where
  s0 : St wr 33 w.heap.size #[.int .u64 ((wd p 0 : Nat) : Int), .int .u64 ((wd p 1 : Nat) : Int), .int .u64 ((wd p 2 : Nat) : Int), .int .u64 ((wd p 3 : Nat) : Int)]
  below : Below w.heap.size w wr

end Go.Proofs.Ythidhkaeebakjaa
