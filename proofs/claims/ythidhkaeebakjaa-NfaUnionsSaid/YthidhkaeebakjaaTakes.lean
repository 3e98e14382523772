import Derived.Test.YthidhkaeebakjaaRx
import Derived.Test.YthidhkaeebakjaaBase
import Derived.Lib.Walk
import Derived.Deep.RegionWith
namespace Go.Proofs.Ythidhkaeebakjaa
open Go.RowKit

/-- Where a list of pieces lies. -/
def RxAt (w : World) (a : Option Addr) (l : List Pc) : Prop := 0 < l.length → ∃ g off, a = some ⟨g, off, none⟩ ∧ g < w.heap.size ∧ ∀ j, j < l.length * 5 → w.cell? ⟨g, off + j, none⟩ = (pcs l)[j]?
theorem RxAt.below {w w' : World} {a : Option Addr} {l : List Pc} (h : RxAt w a l) (k : Below w.heap.size w w') : RxAt w' a l := by
  intro h0
  obtain ⟨g, off, rfl, hg, hc⟩ := h h0
  have := k.size
  exact ⟨g, off, rfl, by omega, fun j hj => (k.cell (p := ⟨g, off + j, none⟩) hg).trans (hc j hj)⟩
/-- The cells of one piece. -/
theorem RxAt.get {w : World} {a : Option Addr} {l : List Pc} (h : RxAt w a l) (k : Nat) (hk : k < l.length) :
    ∃ g off, a = some ⟨g, off, none⟩ ∧ g < w.heap.size ∧ w.cell? ⟨g, off + k * 5, none⟩ = some (.int .i64 l[k].k) ∧ w.cell? ⟨g, off + k * 5 + 1, none⟩ = some (.int .u64 ((wd l[k].p 0 : Nat) : Int)) ∧ w.cell? ⟨g, off + k * 5 + 2, none⟩ = some (.int .u64 ((wd l[k].p 1 : Nat) : Int)) ∧
    w.cell? ⟨g, off + k * 5 + 3, none⟩ = some (.int .u64 ((wd l[k].p 2 : Nat) : Int)) ∧ w.cell? ⟨g, off + k * 5 + 4, none⟩ = some (.int .u64 ((wd l[k].p 3 : Nat) : Int)) := by
  obtain ⟨g, off, rfl, hg, hc⟩ := h (by omega)
  obtain ⟨c0, c1, c2, c3, c4⟩ := pcs_cells l k hk
  refine ⟨g, off, rfl, hg, ?_, ?_, ?_, ?_, ?_⟩
  · rw [hc _ (by omega), c0]
  · rw [Nat.add_assoc, hc _ (by omega), c1]
  · rw [Nat.add_assoc, hc _ (by omega), c2]
  · rw [Nat.add_assoc, hc _ (by omega), c3]
  · rw [Nat.add_assoc, hc _ (by omega), c4]

theorem takes_any (k : Int) (w : World) :
    Calls Try.prog 54 #[.int .i64 k] w fun e w' => e = .returned (.int .i64 (takesZ k)) ∧ w = w' := by
  rcases takesZ_cases k with ⟨e, rfl | rfl⟩ | ⟨e, rfl | rfl⟩ | ⟨e, rfl | rfl | rfl⟩ | ⟨e, h⟩
  all_goals
    have E := Lib.hid e
  rotate_right
  · have e0 : (k == 0) = false := by simp; omega
    have e1 : (k == 1) = false := by simp; omega
    have e2 : (k == 2) = false := by simp; omega
    have e3 : (k == 3) = false := by simp; omega
    have e4 : (k == 4) = false := by simp; omega
    have e5 : (k == 5) = false := by simp; omega
    have e6 : (k == 6) = false := by simp; omega
    clear e h
    go_enter Try.func54, Try.ntmps54
    go_wp2_with fail
    go_ret
    exact ⟨by rw [E.out]; rfl, rfl⟩
  all_goals
    clear e
    go_enter Try.func54, Try.ntmps54
    go_wp2_with fail
    go_ret
    exact ⟨by rw [E.out]; rfl, rfl⟩

end Go.Proofs.Ythidhkaeebakjaa
