import Derived.Test.YtbacgnhkapancaaDoorVBase
import Derived.Test.YtbacgnhkapancaaDoorVNum
import Derived.Test.YtbacgnhkapancaaDoorVShelf
import Derived.Lib.LaidTab
import Derived.Lib.SmallJoins
import Derived.Laws.Concat
namespace Go.Proofs.YtbacgnhkapancaaDoor
open Go.RowKit Go.Maps Go.WideElems Go.ChangeMaps Go.MapKept
set_option linter.unusedVariables false
set_option linter.unusedSimpArgs false

theorem below_grow13 (B : Nat) (w : World) (hB : B ≤ w.heap.size) (k : Nat) (os : Array Obj) : Below B w (Sort.grow (w.drewN k) os) :=
  ⟨rfl, rfl, rfl, by show w.heap.size ≤ (w.heap ++ os).size; rw [Array.size_append]; omega, fun j hj => by
    show (w.heap ++ os)[j]? = w.heap[j]?
    rw [Array.getElem?_append_left (by omega)]⟩

/-- The text of a list of bytes. -/
def strB (l : List UInt8) : ByteArray := ⟨l.toArray⟩
theorem strB_list (l : List UInt8) : (strB l).data.toList = l := by simp [strB]
theorem strB_size (l : List UInt8) : (strB l).size = l.length := by show (strB l).data.size = _; simp [strB]
theorem strB_of (s : ByteArray) : strB s.data.toList = s := by
  obtain ⟨⟨x⟩⟩ := s
  rfl
/-- The library's table of powers of ten reads as its text lays it. -/
def PowAt (w : World) : Prop := Lib.TabIs Tryd.prog w "internal/strconv.uint64pow10" .u64 Lib.pow10Tab
theorem gPow : Tryd.prog.globalNamed "internal/strconv.uint64pow10" = some 2 := by kernel_rfl
theorem PowAt.keep {w w' : World} (h : PowAt w) (k : Below w.heap.size w w') : PowAt w' := Joins.tab_stays gPow h k (Nat.le_refl _)

/-- In each world behind w the digits of x are t. -/
def Dg (w : World) (x : Int) (t : ByteArray) : Prop := ∀ W, Below w.heap.size w W → Calls Tryd.prog 17 #[.int .i64 x] W fun e w' => e = .returned (.string t) ∧ Below W.heap.size W w'
theorem Dg.small (i : Nat) (hi : i < 100) (w : World) : Dg w (i : Int) (strB (Lib.decDigits i)) := fun W _ => by
  have HC := Lib.hid (Tryd.strconv_Itoa_small i hi W)
  go_enter Tryd.func17, Tryd.ntmps17
  go_wp2_with (go_at_call 23; refine HC.out.mono ?_; rintro e w1 ⟨rfl, rfl⟩; refine Hid.out ?_)
  refine Lib.hid ?_
  go_wp2_with fail
  go_ret
  exact ⟨rfl, Below.refl _ _⟩
theorem Dg.any (n : Int) (h0 : -9223372036854775808 ≤ n) (h1 : n ≤ 9223372036854775807) (w : World) (hP : PowAt w) : Dg w n (strB (Lib.itoa n)) := fun W hW => by
  have HC := Lib.hid (Tryd.strconv_Itoa n h0 h1 W (hP.keep hW))
  go_enter Tryd.func17, Tryd.ntmps17
  go_wp2_with (go_at_call 23; refine HC.out.mono ?_; rintro e w1 ⟨rfl, k, os, rfl⟩; refine Hid.out ?_)
  refine Lib.hid ?_
  have HB := Lib.hid (below_grow13 W.heap.size W (Nat.le_refl _) k os)
  generalize Sort.grow (W.drewN k) os = w1 at HB ⊢
  go_wp2_with fail
  go_ret
  exact ⟨rfl, HB.out⟩

set_option maxHeartbeats 2000000 in
set_option maxRecDepth 100000 in
theorem show13_any (x y : Int) (tx ty : ByteArray) (sx : tx.size ≤ 1000000) (sy : ty.size ≤ 1000000) (w : World) (hx : Dg w x tx) (hy : Dg w y ty) :
    Calls Tryd.prog 19 #[.agg #[.int .i64 x, .int .i64 y]] w fun e w' => e = .returned (.string (tx ++ ⟨#[58]⟩ ++ ty)) ∧ Below w.heap.size w w' := by
  go_enter Tryd.func19, Tryd.ntmps19
  go_upto_region 1 with fail
  have k0 := al w (.cells #[.int .i64 x, .int .i64 y] 23)
  have s0 := Bl.new w 23 #[.int .i64 x, .int .i64 y]
  have z0 : (w.alloc (.cells #[.int .i64 x, .int .i64 y] 23)).heap.size = w.heap.size + 1 := by simp
  generalize w.alloc (.cells #[.int .i64 x, .int .i64 y] 23) = W0 at k0 s0 z0 ⊢
  have HK := Lib.hid k0
  have Hx : Hid (∀ W, Below W0.heap.size W0 W → Calls Tryd.prog 17 #[.int .i64 x] W fun e w' => e = .returned (.string tx) ∧ Below W.heap.size W w') := fun W hW => hx W (k0.trans (hW.mono (by omega)))
  have Hy : Hid (∀ W, Below W0.heap.size W0 W → Calls Tryd.prog 17 #[.int .i64 y] W fun e w' => e = .returned (.string ty) ∧ Below W.heap.size W w') := fun W hW => hy W (k0.trans (hW.mono (by omega)))
  have HS : Hid (∀ W, Below W0.heap.size W0 W → Below W0.heap.size W0 W ∧ W.cell? ⟨w.heap.size, 0, none⟩ = some (.int .i64 x) ∧ W.cell? ⟨w.heap.size, 1, none⟩ = some (.int .i64 y)) := fun W hW => by
    obtain ⟨c0, c1, _, _⟩ := (s0.below hW (by omega)).row2
    exact ⟨hW, c0, c1⟩
  have hk : Below W0.heap.size W0 W0.drew := (Below.refl _ _).drew
  have hh := HS.out _ hk
  have z1 : ¬ 9223372036854775807 < tx.size + 1 := by omega
  have z2 : ¬ 9223372036854775807 < (tx ++ ⟨#[58]⟩).size + ty.size := by
    have : (tx ++ (⟨#[58]⟩ : ByteArray)).size = tx.size + 1 := by simp [ByteArray.size_append]; rfl
    omega
  have z3 : ¬ 9223372036854775807 < tx.size + 1 + ty.size := by omega
  clear hx hy k0 s0 hk
  go_region_held3 (fun W' => Below W0.heap.size W0 W' ∧ W'.cell? ⟨w.heap.size, 0, none⟩ = some (.int .i64 x) ∧ W'.cell? ⟨w.heap.size, 1, none⟩ = some (.int .i64 y)) (first | exact hh | exact hHeld)
    (first
      | (go_at_call_of 17 (Value.int IntKind.i64 x); refine (Hx.out _ (by first | exact hh.1 | exact hHeld.1)).mono ?_; rintro e wx ⟨rfl, bx⟩; (have hh' := HS.out wx (by first | exact hh.1.trans (bx.mono hh.1.size) | exact hHeld.1.trans (bx.mono hHeld.1.size))); clear bx; (try clear hh); (try clear hHeld); rename _ => hh)
      | (go_at_call_of 17 (Value.int IntKind.i64 y); refine (Hy.out _ (by first | exact hh.1 | exact hHeld.1)).mono ?_; rintro e wx ⟨rfl, bx⟩; (have hh' := HS.out wx (by first | exact hh.1.trans (bx.mono hh.1.size) | exact hHeld.1.trans (bx.mono hHeld.1.size))); clear bx; (try clear hh); (try clear hHeld); rename _ => hh))
  all_goals
    have HF := Lib.hid (HK.out.trans (hh.1.mono (by omega)))
    clear hh
    go_wp2_with fail
    go_ret
    exact ⟨rfl, HF.out⟩
end Go.Proofs.YtbacgnhkapancaaDoor
