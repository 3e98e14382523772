import Derived.Test.YtkdhdlokilgccaaZDBase
import Derived.Test.YtkdhdlokilgccaaZDNumT
namespace Go.Proofs.Ytkdhdlokilgccaa
open Go.RowKit
set_option linter.unusedVariables false

def nums64 (l : List Nat) : List Value := l.map fun n => .int .i64 ((n : Nat) : Int)
/-- A pile: different tails, in the order in which they were found, and a row that tells which are in it. -/
structure PileAt (w : World) (B b : Nat) (l : List Nat) (m : Nat) (vA vI : Value) : Prop where
  st : St w 84 b #[vA, vI]
  all : w.ownsRow B 3 1 vA l.length (nums64 l)
  tin : w.ownsRow B 4 1 vI m (bls (fun j => decide (j ∈ l)) m)
  lt : ∀ n, n ∈ l → n < m
  big : m ≤ 1000000
  nd : l.Nodup
  base : B ≤ b

set_option maxHeartbeats 1000000 in
set_option maxRecDepth 100000 in
theorem pile_has (w : World) (B b : Nat) (l : List Nat) (m : Nat) (vA vI : Value) (h : PileAt w B b l m vA vI) (n : Nat) (hn : n ≤ 1000000) :
    Calls Try.prog 62 #[.pointer (some ⟨b, 0, none⟩), .int .i64 n] w fun e w' => e = .returned (.bool (decide (n ∈ l))) ∧ w = w' := by
  obtain ⟨aI, cI, rfl⟩ := ownsRow_slice h.tin
  obtain ⟨k0, k1⟩ := row2 h.st
  have hb := h.big
  obtain ⟨x, hx⟩ : ∃ x, decide (n ∈ l) = x := ⟨_, rfl⟩
  rw [hx]
  by_cases hlt : n < m
  · obtain ⟨g, rfl, _, hg, hc⟩ := ownsRow_read h.tin (by omega)
    have hcn := (hc n (by omega)).1
    have d : w.cell? ⟨g, n, none⟩ = some (.bool x) := by
      rw [hcn, ← hx]
      simp [bls, hlt]
    have i1 : (n : Int) < (m : Int) := by omega
    have HX := Lib.hid hx
    clear h hc hcn hx
    go_enter Try.func62, Try.ntmps62
    go_wp2_with fail
    go_ret
    exact ⟨rfl, rfl⟩
  · have HZ : Hid (false = x) := by
      show _ = _
      rw [← hx]
      exact (decide_eq_false (fun hm => hlt (h.lt n hm))).symm
    have i1 : ¬ ((n : Int) < (m : Int)) := by omega
    clear h hx
    go_enter Try.func62, Try.ntmps62
    go_wp2_with fail
    go_ret
    exact ⟨by rw [← HZ.out]; rfl, rfl⟩
end Go.Proofs.Ytkdhdlokilgccaa
