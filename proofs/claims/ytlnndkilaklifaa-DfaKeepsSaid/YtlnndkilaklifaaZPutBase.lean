import Derived.Test.YtlnndkilaklifaaZOwn
import Derived.Test.YtlnndkilaklifaaZRefHas
import Derived.BigQuiet
import Derived.Deep.QuietTactic
import Derived.Deep.RegionHeld3
namespace Go.Proofs.Ytlnndkilaklifaa
open Go.RowKit

theorem Try.info_bool : (Try.prog.info? 4).map (fun i => (i.zero, i.size, i.bytes)) = some (some (.bool false), 1, 1) := by kernel_rfl
theorem undrew2 {W w' : World} (h : Below W.drew.heap.size W.drew w') : Below W.heap.size W w' := ⟨h.os, h.tape, h.output, h.size, h.block⟩

/-- The first k truths of a set. -/
def tru (g : Nat → Bool) (k : Nat) : List Value := (List.range k).map fun i => .bool (g i)
theorem tru_snoc (g : Nat → Bool) (k : Nat) : tru g (k + 1) = tru g k ++ [.bool (g k)] := by simp [tru, List.range_succ]
theorem tru_length (g : Nat → Bool) (k : Nat) : (tru g k).length = k := by simp [tru]
theorem tru_get (g : Nat → Bool) (k j : Nat) (h : j < k) : (tru g k)[j]? = some (.bool (g j)) := by simp [tru, h]

structure PutAt (w : World) (p q g : Nat → Bool) (k : Nat) (v : Value) (wr : World) : Prop where
  s0 : St wr 41 w.heap.size #[.int .u64 ((wd p 0 : Nat) : Int), .int .u64 ((wd p 1 : Nat) : Int), .int .u64 ((wd p 2 : Nat) : Int), .int .u64 ((wd p 3 : Nat) : Int)]
  s1 : St wr 41 (w.heap.size + 1) #[.int .u64 ((wd q 0 : Nat) : Int), .int .u64 ((wd q 1 : Nat) : Int), .int .u64 ((wd q 2 : Nat) : Int), .int .u64 ((wd q 3 : Nat) : Int)]
  s2 : St wr 41 (w.heap.size + 1 + 1) #[.int .u64 0, .int .u64 0, .int .u64 0, .int .u64 0]
  own : wr.ownsRow (w.heap.size + 3) 4 1 v k (tru g k)
  below : Below w.heap.size w wr
  size : w.heap.size + 3 ≤ wr.heap.size
theorem PutAt.start (w : World) (p q g : Nat → Bool) : PutAt w p q g 0 (.slice none 0 0) (((w.alloc (.cells #[.int .u64 ((wd p 0 : Nat) : Int), .int .u64 ((wd p 1 : Nat) : Int), .int .u64 ((wd p 2 : Nat) : Int), .int .u64 ((wd p 3 : Nat) : Int)] 41)).alloc (.cells #[.int .u64 ((wd q 0 : Nat) : Int), .int .u64 ((wd q 1 : Nat) : Int), .int .u64 ((wd q 2 : Nat) : Int), .int .u64 ((wd q 3 : Nat) : Int)] 41)).alloc (.cells #[.int .u64 0, .int .u64 0, .int .u64 0, .int .u64 0] 41)) := by
  refine ⟨((St.new _ _ _).alloc _).alloc _, ?_, ?_, World.ownsRow_nil _ _ _ _, (((Below.refl _ _).alloc (Nat.le_refl _) _).alloc (by simp) _).alloc (by simp; omega) _, by simp⟩
  · have := (St.new (w.alloc (.cells #[.int .u64 ((wd p 0 : Nat) : Int), .int .u64 ((wd p 1 : Nat) : Int), .int .u64 ((wd p 2 : Nat) : Int), .int .u64 ((wd p 3 : Nat) : Int)] 41)) 41 #[.int .u64 ((wd q 0 : Nat) : Int), .int .u64 ((wd q 1 : Nat) : Int), .int .u64 ((wd q 2 : Nat) : Int), .int .u64 ((wd q 3 : Nat) : Int)]).alloc (.cells #[.int .u64 0, .int .u64 0, .int .u64 0, .int .u64 0] 41)
    simpa using this
  · have := St.new ((w.alloc (.cells #[.int .u64 ((wd p 0 : Nat) : Int), .int .u64 ((wd p 1 : Nat) : Int), .int .u64 ((wd p 2 : Nat) : Int), .int .u64 ((wd p 3 : Nat) : Int)] 41)).alloc (.cells #[.int .u64 ((wd q 0 : Nat) : Int), .int .u64 ((wd q 1 : Nat) : Int), .int .u64 ((wd q 2 : Nat) : Int), .int .u64 ((wd q 3 : Nat) : Int)] 41)) 41 #[.int .u64 0, .int .u64 0, .int .u64 0, .int .u64 0]
    simpa using this
theorem PutAt.keep {w wr w1 : World} {p q g : Nat → Bool} {k : Nat} {v : Value} (h : PutAt w p q g k v wr) (b : Below wr.heap.size wr w1) : PutAt w p q g k v w1 :=
  ⟨h.s0.keep b, h.s1.keep b, h.s2.keep b, ownsRow_keep h.own b, h.below.trans (b.mono h.below.size), Nat.le_trans h.size b.size⟩
theorem PutAt.below_ {w wr w1 : World} {p q g : Nat → Bool} {k : Nat} {v v' : Value} (h : PutAt w p q g k v wr) (b : Below (w.heap.size + 3) wr w1) (ho : w1.ownsRow (w.heap.size + 3) 4 1 v' (k + 1) (tru g (k + 1))) : PutAt w p q g (k + 1) v' w1 :=
  ⟨h.s0.below b (by omega), h.s1.below b (by omega), h.s2.below b (by omega), ho, h.below.trans (b.mono (by omega)), Nat.le_trans h.size b.size⟩
theorem PutAt.flags {w wr : World} {p q g : Nat → Bool} {a : Option Addr} {cap : Nat} (h : PutAt w p q g 256 (.slice a 256 cap) wr) : ∃ b, a = some ⟨b, 0, none⟩ ∧ b < wr.heap.size ∧ ∀ j, j < 256 → wr.cell? ⟨b, 0 + j, none⟩ = some (.bool (g j)) := by
  obtain ⟨b, rfl, _, hb, hc⟩ := ownsRow_read h.own (by omega)
  exact ⟨b, rfl, hb, fun j hj => by rw [Nat.zero_add, (hc j (by omega)).1, tru_get g 256 j hj]⟩
end Go.Proofs.Ytlnndkilaklifaa
