import Derived.Test.YtfnfliooimkddaaDoorSpans
import Derived.Test.YtfnfliooimkddaaDoorOf
namespace Go.Proofs.YtfnfliooimkddaaDoor
open Go.RowKit

/-- The bytes of the example. -/
def exZ : Nat → Nat
  | 0 => 97
  | 1 => 98
  | 2 => 99
  | _ => 120
set_option maxRecDepth 100000 in
theorem ex_spans : spansOf (ofUp exZ 4) = [(97, 99), (120, 120)] := by decide

theorem awake_any (w : World) : Calls Tryd.prog 4 #[] w fun e w' => e = .returned (.bool true) ∧ Below w.heap.size w w' := by
  go_enter Tryd.func4, Tryd.ntmps4
  go_wp2_with fail
  have hE : ElsB (w.alloc (.cells #[.int .u8 97, .int .u8 98, .int .u8 99, .int .u8 120] 5)) (some ⟨w.heap.size, 0, none⟩) 4 exZ := by
    intro _
    refine ⟨w.heap.size, 0, rfl, by simp, fun j hj => ?_⟩
    have h0 := row4 (St.new w 5 #[.int .u8 97, .int .u8 98, .int .u8 99, .int .u8 120])
    match j, hj with
    | 0, _ => exact ⟨h0.1, by decide⟩
    | 1, _ => exact ⟨h0.2.1, by decide⟩
    | 2, _ => exact ⟨h0.2.2.1, by decide⟩
    | 3, _ => exact ⟨h0.2.2.2.1, by decide⟩
  refine (of_any _ 4 4 exZ _ hE (by decide)).mono ?_
  rintro e w1 ⟨rfl, b1⟩
  go_wp2_with fail
  refine (spans_any _ _).mono ?_
  rintro e w2 ⟨a, cap, rfl, ho, b2⟩
  rw [ex_spans] at ho ⊢
  obtain ⟨g, rfl, hg1, hg2, hg3⟩ := ownsRow_read ho (by decide)
  have c0 := (hg3 0 (by decide)).1
  have c1 := (hg3 1 (by decide)).1
  have c2 := (hg3 2 (by decide)).1
  have c3 := (hg3 3 (by decide)).1
  have hb : Below w.heap.size w w2 := (((Below.refl _ w).alloc (Nat.le_refl _) _).trans (b1.mono (by simp))).trans (b2.mono (by have := b1.size; simp at this; omega))
  clear hg3 ho b1 b2 hE
  simp [spCells] at c0 c1 c2 c3
  go_wp2_with fail
  go_ret
  exact ⟨rfl, hb⟩
end Go.Proofs.YtfnfliooimkddaaDoor
