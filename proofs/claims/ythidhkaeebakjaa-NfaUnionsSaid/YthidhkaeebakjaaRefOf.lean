import Derived.Test.YthidhkaeebakjaaOf
namespace Go.Proofs.Ythidhkaeebakjaa
open Go.RowKit

theorem Fills.one {w wr : World} {q : Nat → Bool} (h : Fills w q wr) (q' : Nat → Bool) (i : Nat) (v : Value) (e : (#[.int .u64 ((wd q 0 : Nat) : Int), .int .u64 ((wd q 1 : Nat) : Int), .int .u64 ((wd q 2 : Nat) : Int), .int .u64 ((wd q 3 : Nat) : Int)]).setIfInBounds i v = #[.int .u64 ((wd q' 0 : Nat) : Int), .int .u64 ((wd q' 1 : Nat) : Int), .int .u64 ((wd q' 2 : Nat) : Int), .int .u64 ((wd q' 3 : Nat) : Int)]) :
    Fills w q' (wr.setCell ⟨w.heap.size + 1, i, none⟩ v) :=
  ⟨h.s0.far (by simp) _, e ▸ h.s1.set i _, h.below.setCell (by simp) _⟩

end Go.Proofs.Ythidhkaeebakjaa
