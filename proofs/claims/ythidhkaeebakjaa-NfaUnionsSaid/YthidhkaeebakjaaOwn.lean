import Derived.Test.YthidhkaeebakjaaSt
import Derived.Test.YthidhkaeebakjaaMem
import Derived.LoopTactic
namespace Go.Proofs.Ythidhkaeebakjaa
open Go.RowKit

/-- The numbers of a set below k, in order. -/
def lst (p : Nat → Bool) (k : Nat) : List Nat := (List.range k).filter p
theorem lst_zero (p : Nat → Bool) : lst p 0 = [] := rfl
theorem lst_yes (p : Nat → Bool) (k : Nat) (h : p k = true) : lst p (k + 1) = lst p k ++ [k] := by simp [lst, List.range_succ, List.filter_append, h]
theorem lst_no (p : Nat → Bool) (k : Nat) (h : p k = false) : lst p (k + 1) = lst p k := by simp [lst, List.range_succ, List.filter_append, h]
theorem lst_le (p : Nat → Bool) (k : Nat) : (lst p k).length ≤ k := by
  have := List.length_filter_le p (List.range k)
  simpa [lst] using this
theorem lst_mem (p : Nat → Bool) (k x : Nat) : x ∈ lst p k ↔ x < k ∧ p x = true := by simp [lst]

/-- A list of bytes of the call's own. -/
def ListPost (l : List Nat) (w : World) (e : Ending) (w' : World) : Prop := ∃ a cap, e = .returned (.slice a l.length cap) ∧ w'.ownsRow w.heap.size 5 1 (.slice a l.length cap) l.length (u8s l) ∧ Below w.heap.size w w'

/-- After some rounds of a loop that collects: the box is p, the list is l. -/
structure Collects (w : World) (p : Nat → Bool) (l : List Nat) (v : Value) (wr : World) : Prop where
  s0 : St wr 33 w.heap.size #[.int .u64 ((wd p 0 : Nat) : Int), .int .u64 ((wd p 1 : Nat) : Int), .int .u64 ((wd p 2 : Nat) : Int), .int .u64 ((wd p 3 : Nat) : Int)]
  own : wr.ownsRow (w.heap.size + 1) 5 1 v l.length (u8s l)
  below : Below w.heap.size w wr
end Go.Proofs.Ythidhkaeebakjaa
