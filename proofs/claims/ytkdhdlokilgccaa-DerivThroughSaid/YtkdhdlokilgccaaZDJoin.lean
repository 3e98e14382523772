import Derived.Test.YtkdhdlokilgccaaZDStar
import Derived.Test.YtkdhdlokilgccaaZMem
import Derived.LoopTactic
import Derived.RegionTactic
import Derived.BigRegion
import Derived.Deep.RegionHeld3
import Derived.Deep.RegionWith
namespace Go.Proofs.Ytkdhdlokilgccaa
open Go.RowKit

/-- The set p while i of its words are joined with those of q. -/
def mixed (f : Bool → Bool → Bool) (p q : Nat → Bool) (i : Nat) : Nat → Bool := fun x => if x < 64 * i then f (p x) (q x) else p x
theorem mixed_zero (f : Bool → Bool → Bool) (p q : Nat → Bool) : mixed f p q 0 = p := by funext x; simp [mixed]
theorem mixed_here (f : Bool → Bool → Bool) (p q : Nat → Bool) (k : Nat) : wd (mixed f p q k) k = wd p k := wd_congr fun r _ => by simp only [mixed]; rw [if_neg (by omega)]
theorem mixed_next (f : Bool → Bool → Bool) (p q : Nat → Bool) (k : Nat) : wd (mixed f p q (k + 1)) k = wd (fun x => f (p x) (q x)) k := wd_congr fun r _ => by simp only [mixed]; rw [if_pos (by omega)]
theorem mixed_far (f : Bool → Bool → Bool) (p q : Nat → Bool) (k j : Nat) (h : j ≠ k) : wd (mixed f p q (k + 1)) j = wd (mixed f p q k) j := wd_congr fun r _ => by
  simp only [mixed]
  by_cases h1 : 64 * j + r < 64 * k
  · rw [if_pos h1, if_pos (by omega)]
  · rw [if_neg h1, if_neg (by omega)]
theorem mixed_all (f : Bool → Bool → Bool) (p q : Nat → Bool) (j : Nat) (hj : j < 4) : wd (mixed f p q 4) j = wd (fun x => f (p x) (q x)) j := wd_congr fun r _ => by simp only [mixed]; rw [if_pos (by omega)]

/-- After some rounds: the first box is m, the second is q, the result's block is c. -/
structure Joins2 (w : World) (m q : Nat → Bool) (wr : World) : Prop where
  s0 : St wr 28 w.heap.size #[.int .u64 ((wd m 0 : Nat) : Int), .int .u64 ((wd m 1 : Nat) : Int), .int .u64 ((wd m 2 : Nat) : Int), .int .u64 ((wd m 3 : Nat) : Int)]
  s1 : St wr 28 (w.heap.size + 1) #[.int .u64 ((wd q 0 : Nat) : Int), .int .u64 ((wd q 1 : Nat) : Int), .int .u64 ((wd q 2 : Nat) : Int), .int .u64 ((wd q 3 : Nat) : Int)]
  s2 : St wr 28 (w.heap.size + 1 + 1) #[.int .u64 0, .int .u64 0, .int .u64 0, .int .u64 0]
  below : Below w.heap.size w wr
theorem Joins2.start (w : World) (p q : Nat → Bool) : Joins2 w p q (((w.alloc (.cells #[.int .u64 ((wd p 0 : Nat) : Int), .int .u64 ((wd p 1 : Nat) : Int), .int .u64 ((wd p 2 : Nat) : Int), .int .u64 ((wd p 3 : Nat) : Int)] 28)).alloc (.cells #[.int .u64 ((wd q 0 : Nat) : Int), .int .u64 ((wd q 1 : Nat) : Int), .int .u64 ((wd q 2 : Nat) : Int), .int .u64 ((wd q 3 : Nat) : Int)] 28)).alloc (.cells #[.int .u64 0, .int .u64 0, .int .u64 0, .int .u64 0] 28)) := by
  refine ⟨?_, ?_, ?_, (((Below.refl _ _).alloc (Nat.le_refl _) _).alloc (by simp) _).alloc (by simp; omega) _⟩
  · exact ((St.new _ _ _).alloc _).alloc _
  · have := (St.new (w.alloc (.cells #[.int .u64 ((wd p 0 : Nat) : Int), .int .u64 ((wd p 1 : Nat) : Int), .int .u64 ((wd p 2 : Nat) : Int), .int .u64 ((wd p 3 : Nat) : Int)] 28)) 28 #[.int .u64 ((wd q 0 : Nat) : Int), .int .u64 ((wd q 1 : Nat) : Int), .int .u64 ((wd q 2 : Nat) : Int), .int .u64 ((wd q 3 : Nat) : Int)]).alloc (.cells #[.int .u64 0, .int .u64 0, .int .u64 0, .int .u64 0] 28)
    simpa using this
  · have := St.new ((w.alloc (.cells #[.int .u64 ((wd p 0 : Nat) : Int), .int .u64 ((wd p 1 : Nat) : Int), .int .u64 ((wd p 2 : Nat) : Int), .int .u64 ((wd p 3 : Nat) : Int)] 28)).alloc (.cells #[.int .u64 ((wd q 0 : Nat) : Int), .int .u64 ((wd q 1 : Nat) : Int), .int .u64 ((wd q 2 : Nat) : Int), .int .u64 ((wd q 3 : Nat) : Int)] 28)) 28 #[.int .u64 0, .int .u64 0, .int .u64 0, .int .u64 0]
    simpa using this
theorem Joins2.step {w wr : World} {m q : Nat → Bool} (h : Joins2 w m q wr) (m' : Nat → Bool) (i : Nat) (v : Int) (e : #[.int .u64 ((wd m 0 : Nat) : Int), .int .u64 ((wd m 1 : Nat) : Int), .int .u64 ((wd m 2 : Nat) : Int), .int .u64 ((wd m 3 : Nat) : Int)].setIfInBounds i (Value.int .u64 v) = #[.int .u64 ((wd m' 0 : Nat) : Int), .int .u64 ((wd m' 1 : Nat) : Int), .int .u64 ((wd m' 2 : Nat) : Int), .int .u64 ((wd m' 3 : Nat) : Int)]) :
    Joins2 w m' q (wr.setCell ⟨w.heap.size, i, none⟩ (.int .u64 v)) :=
  ⟨e ▸ h.s0.set i _, h.s1.far (by simp) _, h.s2.far (by simp; omega) _, h.below.setCell (by simp) _⟩

theorem Joins2.drew {w wr : World} {m q : Nat → Bool} (h : Joins2 w m q wr) : Joins2 w m q wr.drew := ⟨h.s0, h.s1, h.s2, h.below.drew⟩
end Go.Proofs.Ytkdhdlokilgccaa

namespace Go.Proofs.Ytkdhdlokilgccaa
open Go.RowKit

theorem or_cell (p q : Nat → Bool) (k : Nat) : bits .or .u64 ((wd (mixed (fun a b => a || b) p q k) k : Nat) : Int) ((wd q k : Nat) : Int) = ((wd (mixed (fun a b => a || b) p q (k + 1)) k : Nat) : Int) := by
  rw [mixed_here, mixed_next, bits_or]
theorem or_any (p q : Nat → Bool) (w : World) :
    Calls Try.prog 82 #[(.agg #[.int .u64 ((wd p 0 : Nat) : Int), .int .u64 ((wd p 1 : Nat) : Int), .int .u64 ((wd p 2 : Nat) : Int), .int .u64 ((wd p 3 : Nat) : Int)]), (.agg #[.int .u64 ((wd q 0 : Nat) : Int), .int .u64 ((wd q 1 : Nat) : Int), .int .u64 ((wd q 2 : Nat) : Int), .int .u64 ((wd q 3 : Nat) : Int)])] w fun e w' => e = .returned (.agg #[.int .u64 ((wd ((fun x => (fun a b => a || b) (p x) (q x))) 0 : Nat) : Int), .int .u64 ((wd ((fun x => (fun a b => a || b) (p x) (q x))) 1 : Nat) : Int), .int .u64 ((wd ((fun x => (fun a b => a || b) (p x) (q x))) 2 : Nat) : Int), .int .u64 ((wd ((fun x => (fun a b => a || b) (p x) (q x))) 3 : Nat) : Int)]) ∧ Below w.heap.size w w' := by
  go_enter Try.func82, Try.ntmps82
  go_wp2_with fail
  go_loopw [5, 6] (fun _ i wr => ∃ k : Nat, i = .int .i64 k ∧ k ≤ 4 ∧ Joins2 w (mixed (fun a b => a || b) p q k) q wr) (fun _ i _ => 4 - (intOf i).toNat)
  case atStart => exact ⟨0, rfl, Nat.zero_le _, by rw [mixed_zero]; exact Joins2.start w p q⟩
  case round =>
    obtain ⟨k, rfl, hk, R⟩ := hrel
    obtain ⟨r0, r1, r2, r3, r4, r5, r6, r7⟩ := row4 R.s0
    obtain ⟨q0, q1, q2, q3, q4, q5, q6, q7⟩ := row4 R.s1
    obtain ⟨x0, x1, x2, x3, x4, x5, x6, x7⟩ := row4 R.s2
    have hb := R.below.size
    rcases (by omega : k = 0 ∨ k = 1 ∨ k = 2 ∨ k = 3 ∨ k = 4) with rfl | rfl | rfl | rfl | rfl
    · go_wp2_with fail
      go_region
      go_wp2_with fail
      go_roundw
      case rel => exact ⟨0 + 1, rfl, by omega, (R.step (mixed (fun a b => a || b) p q (0 + 1)) 0 (bits .or .u64 ((wd (mixed (fun a b => a || b) p q 0) 0 : Nat) : Int) ((wd q 0 : Nat) : Int)) (by rw [or_cell p q 0, mixed_far _ p q 0 1 (by decide), mixed_far _ p q 0 2 (by decide), mixed_far _ p q 0 3 (by decide)]; rfl)).drew⟩
      case measure => simp [intOf]
    · go_wp2_with fail
      go_region
      go_wp2_with fail
      go_roundw
      case rel => exact ⟨1 + 1, rfl, by omega, (R.step (mixed (fun a b => a || b) p q (1 + 1)) 1 (bits .or .u64 ((wd (mixed (fun a b => a || b) p q 1) 1 : Nat) : Int) ((wd q 1 : Nat) : Int)) (by rw [or_cell p q 1, mixed_far _ p q 1 0 (by decide), mixed_far _ p q 1 2 (by decide), mixed_far _ p q 1 3 (by decide)]; rfl)).drew⟩
      case measure => simp [intOf]
    · go_wp2_with fail
      go_region
      go_wp2_with fail
      go_roundw
      case rel => exact ⟨2 + 1, rfl, by omega, (R.step (mixed (fun a b => a || b) p q (2 + 1)) 2 (bits .or .u64 ((wd (mixed (fun a b => a || b) p q 2) 2 : Nat) : Int) ((wd q 2 : Nat) : Int)) (by rw [or_cell p q 2, mixed_far _ p q 2 0 (by decide), mixed_far _ p q 2 1 (by decide), mixed_far _ p q 2 3 (by decide)]; rfl)).drew⟩
      case measure => simp [intOf]
    · go_wp2_with fail
      go_region
      go_wp2_with fail
      go_roundw
      case rel => exact ⟨3 + 1, rfl, by omega, (R.step (mixed (fun a b => a || b) p q (3 + 1)) 3 (bits .or .u64 ((wd (mixed (fun a b => a || b) p q 3) 3 : Nat) : Int) ((wd q 3 : Nat) : Int)) (by rw [or_cell p q 3, mixed_far _ p q 3 0 (by decide), mixed_far _ p q 3 1 (by decide), mixed_far _ p q 3 2 (by decide)]; rfl)).drew⟩
      case measure => simp [intOf]
    · have hbel := R.below
      rw [mixed_all _ _ _ 0 (by decide)] at r0
      rw [mixed_all _ _ _ 1 (by decide)] at r1
      rw [mixed_all _ _ _ 2 (by decide)] at r2
      rw [mixed_all _ _ _ 3 (by decide)] at r3
      clear R
      go_wp2_with fail
      exact bodyPost_ret (v := (.agg #[.int .u64 ((wd ((fun x => (fun a b => a || b) (p x) (q x))) 0 : Nat) : Int), .int .u64 ((wd ((fun x => (fun a b => a || b) (p x) (q x))) 1 : Nat) : Int), .int .u64 ((wd ((fun x => (fun a b => a || b) (p x) (q x))) 2 : Nat) : Int), .int .u64 ((wd ((fun x => (fun a b => a || b) (p x) (q x))) 3 : Nat) : Int)])) (by simp [results, Try.results82, go_sem, x0, x1, x2, x3]) rfl ⟨rfl, below4 hbel (by omega) _ _ _ _⟩
end Go.Proofs.Ytkdhdlokilgccaa

namespace Go.Proofs.Ytkdhdlokilgccaa
open Go.RowKit Go.Maps Go.WideElems Go.ChangeMaps Go.MapKept
set_option linter.unusedVariables false

/-- What a book tells of an expression, by what it tells of the operands. -/
def joinOf (x : Ex) (X Y : Fa) : Fa :=
  if x.p.k = 0 then ⟨true, emp, 1⟩
  else if x.p.k = 1 then ⟨false, x.p.p, 1⟩
  else if x.p.k = 3 then ⟨X.e || Y.e, fun b => (fun a b => a || b) (X.s b) (Y.s b), X.n + Y.n + 1⟩
  else if x.p.k = 2 then ⟨X.e && Y.e, if X.e = true then fun b => (fun a b => a || b) (X.s b) (Y.s b) else X.s, X.n + Y.n + 1⟩
  else ⟨X.e || !decide (x.p.k = 5), X.s, X.n + 1⟩
theorem row6 {w : World} {g : Nat} {c0 c1 c2 c3 c4 c5 : Value} {t : TypeId} (h : St w t g #[c0, c1, c2, c3, c4, c5]) :
    w.cell? ⟨g, 0, none⟩ = some c0 ∧ w.cell? ⟨g, 1, none⟩ = some c1 ∧ w.cell? ⟨g, 2, none⟩ = some c2 ∧ w.cell? ⟨g, 3, none⟩ = some c3 ∧ w.cell? ⟨g, 4, none⟩ = some c4 ∧ w.cell? ⟨g, 5, none⟩ = some c5 :=
  ⟨h.cell 0, h.cell 1, h.cell 2, h.cell 3, h.cell 4, h.cell 5⟩
theorem St.set6 {w : World} {t g : Nat} {c0 c1 c2 c3 c4 c5 : Value} (h : St w t g #[c0, c1, c2, c3, c4, c5]) (d0 d1 d2 d3 d4 d5 : Value) :
    St ((((((w.setCell ⟨g, 0, none⟩ d0).setCell ⟨g, 1, none⟩ d1).setCell ⟨g, 2, none⟩ d2).setCell ⟨g, 3, none⟩ d3).setCell ⟨g, 4, none⟩ d4).setCell ⟨g, 5, none⟩ d5) t g #[d0, d1, d2, d3, d4, d5] := by
  have := (((((h.set 0 d0).set 1 d1).set 2 d2).set 3 d3).set 4 d4).set 5 d5
  simpa using this
theorem St.far6 {w : World} {t g g' : Nat} {cs : Array Value} (h : St w t g cs) (hn : g ≠ g') (d0 d1 d2 d3 d4 d5 : Value) :
    St ((((((w.setCell ⟨g', 0, none⟩ d0).setCell ⟨g', 1, none⟩ d1).setCell ⟨g', 2, none⟩ d2).setCell ⟨g', 3, none⟩ d3).setCell ⟨g', 4, none⟩ d4).setCell ⟨g', 5, none⟩ d5) t g cs :=
  (((((h.far (p := ⟨g', 0, none⟩) hn d0).far (p := ⟨g', 1, none⟩) hn d1).far (p := ⟨g', 2, none⟩) hn d2).far (p := ⟨g', 3, none⟩) hn d3).far (p := ⟨g', 4, none⟩) hn d4).far (p := ⟨g', 5, none⟩) hn d5
theorem below6 {w0 w : World} {B g : Nat} (h : Below B w0 w) (hg : B ≤ g) (d0 d1 d2 d3 d4 d5 : Value) :
    Below B w0 ((((((w.setCell ⟨g, 0, none⟩ d0).setCell ⟨g, 1, none⟩ d1).setCell ⟨g, 2, none⟩ d2).setCell ⟨g, 3, none⟩ d3).setCell ⟨g, 4, none⟩ d4).setCell ⟨g, 5, none⟩ d5) :=
  (((((h.setCell (p := ⟨g, 0, none⟩) hg d0).setCell (p := ⟨g, 1, none⟩) hg d1).setCell (p := ⟨g, 2, none⟩) hg d2).setCell (p := ⟨g, 3, none⟩) hg d3).setCell (p := ⟨g, 4, none⟩) hg d4).setCell (p := ⟨g, 5, none⟩) hg d5

set_option maxHeartbeats 1000000 in
set_option maxRecDepth 100000 in
/-- .. of a leaf. -/
theorem join_leaf (x : Ex) (X Y : Fa) (kb : Nat) (w : World) (h : takesZ x.p.k = 0) :
    Calls Try.prog 79 #[.pointer (some ⟨kb, 0, none⟩), .agg #[.int .i64 x.p.k, .int .u64 ((wd x.p.p 0 : Nat) : Int), .int .u64 ((wd x.p.p 1 : Nat) : Int), .int .u64 ((wd x.p.p 2 : Nat) : Int), .int .u64 ((wd x.p.p 3 : Nat) : Int), .int .i64 ((x.a : Nat) : Int), .int .i64 ((x.b : Nat) : Int)]] w fun e w' => e = .returned (.agg #[.bool ((joinOf x X Y)).e, .int .u64 ((wd ((joinOf x X Y)).s 0 : Nat) : Int), .int .u64 ((wd ((joinOf x X Y)).s 1 : Nat) : Int), .int .u64 ((wd ((joinOf x X Y)).s 2 : Nat) : Int), .int .u64 ((wd ((joinOf x X Y)).s 3 : Nat) : Int), .int .i64 ((((joinOf x X Y)).n : Nat) : Int)]) ∧ Below w.heap.size w w' := by
  have hk : x.p.k = 0 ∨ x.p.k = 1 := by have := takesZ_cases x.p.k; omega
  have hw := (St.new w 142 #[.int .i64 x.p.k, .int .u64 ((wd x.p.p 0 : Nat) : Int), .int .u64 ((wd x.p.p 1 : Nat) : Int), .int .u64 ((wd x.p.p 2 : Nat) : Int), .int .u64 ((wd x.p.p 3 : Nat) : Int), .int .i64 ((x.a : Nat) : Int), .int .i64 ((x.b : Nat) : Int)]).alloc (.cells #[.bool false, .int .u64 0, .int .u64 0, .int .u64 0, .int .u64 0, .int .i64 0] 72)
  obtain ⟨x0, x1, x2, x3, x4, x5, x6⟩ := row7 hw
  clear h hw
  rcases hk with h | h
  · have hE : joinOf x X Y = ⟨true, emp, 1⟩ := by unfold joinOf; rw [if_pos h]
    have HV : Hid ((Value.agg #[.bool ((joinOf x X Y)).e, .int .u64 ((wd ((joinOf x X Y)).s 0 : Nat) : Int), .int .u64 ((wd ((joinOf x X Y)).s 1 : Nat) : Int), .int .u64 ((wd ((joinOf x X Y)).s 2 : Nat) : Int), .int .u64 ((wd ((joinOf x X Y)).s 3 : Nat) : Int), .int .i64 ((((joinOf x X Y)).n : Nat) : Int)]) = .agg #[.bool true, .int .u64 0, .int .u64 0, .int .u64 0, .int .u64 0, .int .i64 1]) := by
      show _ = _
      rw [hE]; simp only [wd_emp]; rfl
    have e1 : (x.p.k == 0) = true := by simp [h]
    clear h hE
    go_enter Try.func79, Try.ntmps79
    go_wp2_with fail
    exact bodyPost_ret (v := .agg #[.bool true, .int .u64 0, .int .u64 0, .int .u64 0, .int .u64 0, .int .i64 1]) (by simp [results, Try.results79, go_sem]) rfl ⟨by rw [HV.out], ((Below.refl _ _).alloc (Nat.le_refl _) _).alloc (by simp) _⟩
  · have hE : joinOf x X Y = ⟨false, x.p.p, 1⟩ := by unfold joinOf; rw [if_neg (by omega), if_pos h]
    have HV : Hid ((Value.agg #[.bool ((joinOf x X Y)).e, .int .u64 ((wd ((joinOf x X Y)).s 0 : Nat) : Int), .int .u64 ((wd ((joinOf x X Y)).s 1 : Nat) : Int), .int .u64 ((wd ((joinOf x X Y)).s 2 : Nat) : Int), .int .u64 ((wd ((joinOf x X Y)).s 3 : Nat) : Int), .int .i64 ((((joinOf x X Y)).n : Nat) : Int)]) = .agg #[.bool false, .int .u64 ((wd x.p.p 0 : Nat) : Int), .int .u64 ((wd x.p.p 1 : Nat) : Int), .int .u64 ((wd x.p.p 2 : Nat) : Int), .int .u64 ((wd x.p.p 3 : Nat) : Int), .int .i64 1]) := by
      show _ = _
      rw [hE]; rfl
    have e1 : (x.p.k == 0) = false := by simp; omega
    have e2 : (x.p.k == 1) = true := by simp [h]
    clear h hE
    go_enter Try.func79, Try.ntmps79
    go_wp2_with fail
    exact bodyPost_ret (v := .agg #[.bool false, .int .u64 ((wd x.p.p 0 : Nat) : Int), .int .u64 ((wd x.p.p 1 : Nat) : Int), .int .u64 ((wd x.p.p 2 : Nat) : Int), .int .u64 ((wd x.p.p 3 : Nat) : Int), .int .i64 1]) (by simp [results, Try.results79, go_sem]) rfl ⟨by rw [HV.out], ((Below.refl _ _).alloc (Nat.le_refl _) _).alloc (by simp) _⟩

end Go.Proofs.Ytkdhdlokilgccaa
