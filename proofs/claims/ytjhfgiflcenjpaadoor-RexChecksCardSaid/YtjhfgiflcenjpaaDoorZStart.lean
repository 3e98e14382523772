import Derived.Test.YtjhfgiflcenjpaaDoorZBase
import Derived.Test.YtjhfgiflcenjpaaDoorZRx
import Derived.Lib.Walk
import Derived.Deep.RegionWith
namespace Go.Proofs.YtjhfgiflcenjpaaDoor
open Go.RowKit

/-- Where a list of pieces lies. -/
def RxAt (w : World) (a : Option Addr) (l : List Pc) : Prop := 0 < l.length → ∃ g off, a = some ⟨g, off, none⟩ ∧ g < w.heap.size ∧ ∀ j, j < l.length * 5 → w.cell? ⟨g, off + j, none⟩ = (pcs l)[j]?
theorem RxAt.below {w w' : World} {a : Option Addr} {l : List Pc} (h : RxAt w a l) (k : Below w.heap.size w w') : RxAt w' a l := by
  intro h0
  obtain ⟨g, off, rfl, hg, hc⟩ := h h0
  have := k.size
  exact ⟨g, off, rfl, by omega, fun j hj => (k.cell (p := ⟨g, off + j, none⟩) hg).trans (hc j hj)⟩
/-- The cells of one piece. -/
theorem RxAt.get {w : World} {a : Option Addr} {l : List Pc} (h : RxAt w a l) (k : Nat) (hk : k < l.length) :
    ∃ g off, a = some ⟨g, off, none⟩ ∧ g < w.heap.size ∧ w.cell? ⟨g, off + k * 5, none⟩ = some (.int .i64 l[k].k) ∧ w.cell? ⟨g, off + k * 5 + 1, none⟩ = some (.int .u64 ((wd l[k].p 0 : Nat) : Int)) ∧ w.cell? ⟨g, off + k * 5 + 2, none⟩ = some (.int .u64 ((wd l[k].p 1 : Nat) : Int)) ∧
    w.cell? ⟨g, off + k * 5 + 3, none⟩ = some (.int .u64 ((wd l[k].p 2 : Nat) : Int)) ∧ w.cell? ⟨g, off + k * 5 + 4, none⟩ = some (.int .u64 ((wd l[k].p 3 : Nat) : Int)) := by
  obtain ⟨g, off, rfl, hg, hc⟩ := h (by omega)
  obtain ⟨c0, c1, c2, c3, c4⟩ := pcs_cells l k hk
  refine ⟨g, off, rfl, hg, ?_, ?_, ?_, ?_, ?_⟩
  · rw [hc _ (by omega), c0]
  · rw [Nat.add_assoc, hc _ (by omega), c1]
  · rw [Nat.add_assoc, hc _ (by omega), c2]
  · rw [Nat.add_assoc, hc _ (by omega), c3]
  · rw [Nat.add_assoc, hc _ (by omega), c4]

theorem takes_any (k : Int) (w : World) :
    Calls Tryd.prog 20 #[.int .i64 k] w fun e w' => e = .returned (.int .i64 (takesZ k)) ∧ w = w' := by
  rcases takesZ_cases k with ⟨e, rfl | rfl⟩ | ⟨e, rfl | rfl⟩ | ⟨e, rfl | rfl | rfl⟩ | ⟨e, h⟩
  all_goals
    have E := Lib.hid e
  rotate_right
  · have e0 : (k == 0) = false := by simp; omega
    have e1 : (k == 1) = false := by simp; omega
    have e2 : (k == 2) = false := by simp; omega
    have e3 : (k == 3) = false := by simp; omega
    have e4 : (k == 4) = false := by simp; omega
    have e5 : (k == 5) = false := by simp; omega
    have e6 : (k == 6) = false := by simp; omega
    clear e h
    go_enter Tryd.func20, Tryd.ntmps20
    go_wp2_with fail
    go_ret
    exact ⟨by rw [E.out]; rfl, rfl⟩
  all_goals
    clear e
    go_enter Tryd.func20, Tryd.ntmps20
    go_wp2_with fail
    go_ret
    exact ⟨by rw [E.out]; rfl, rfl⟩

set_option maxRecDepth 100000 in
theorem rtakes_any (k : Int) (w : World) :
    Calls Tryd.prog 19 #[.int .i64 k] w fun e w' => e = .returned (.int .i64 (takesZ k)) ∧ Below w.heap.size w w' := by
  rcases takesZ_cases k with ⟨e, rfl | rfl⟩ | ⟨e, rfl | rfl⟩ | ⟨e, rfl | rfl | rfl⟩ | ⟨e, h | h⟩
  all_goals
    have E := Lib.hid e
    clear e
    go_enter Tryd.func19, Tryd.ntmps19
    go_wp2_with fail
    go_ret
    exact ⟨by rw [E.out]; rfl, (Below.refl _ _).alloc (Nat.le_refl _) _⟩
end Go.Proofs.YtjhfgiflcenjpaaDoor

namespace Go.Proofs.YtjhfgiflcenjpaaDoor
open Go.RowKit

/-- Where the expression begins, step by step. -/
theorem stGo_step (l : List Pc) (k : Nat) (hk : k < l.length) (m : Int) : stGo (l.take (k + 1)).reverse m = if m + (takesZ l[k].k - 1) ≤ 0 then k else stGo (l.take k).reverse (m + (takesZ l[k].k - 1)) := by
  rw [List.take_succ_eq_append_getElem hk, List.reverse_append]
  simp only [List.reverse_singleton, List.singleton_append, stGo]
  congr 1
  simp; omega

set_option maxHeartbeats 4000000 in
set_option maxRecDepth 100000 in
theorem start_any (l : List Pc) (a : Option Addr) (n cap : Nat) (w : World) (hL : RxAt w a l) (hn : l.length = n) (hmax : n ≤ 1000000) (i : Nat) (hi : i < n) :
    Calls Tryd.prog 12 #[.slice a n cap, .int .i64 i] w fun e w' => e = .returned (.int .i64 ((startT l i : Nat) : Int)) ∧ w = w' := by
  have HN := Lib.hid hn
  have HL := Lib.hid hL
  obtain ⟨R, hR⟩ : ∃ R, startT l i = R := ⟨_, rfl⟩
  rw [hR]
  have HG0 : Hid (stGo (l.take (i + 1)).reverse 1 = R) := hR
  have hd : decide (n ≤ i) = false := by simp; omega
  clear hn hL hR
  go_enter Tryd.func12, Tryd.ntmps12
  go_wp2_with fail
  go_loopw [1, 5] (fun v m wr => ∃ (k : Nat) (z : Int), v = .int .i64 ((k : Int) - 1) ∧ k ≤ i + 1 ∧ m = .int .i64 z ∧ 1 ≤ z ∧ z ≤ 1 + (n - k : Int) ∧ Hid (stGo (l.take k).reverse z = R) ∧ w = wr) (fun v _ _ => (intOf v + 1).toNat)
  case atStart => exact ⟨i + 1, 1, by go_num, Nat.le_refl _, rfl, by omega, by omega, HG0, rfl⟩
  case round =>
    obtain ⟨k, z, rfl, hk, rfl, hz1, hz2, HG, rfl⟩ := hrel
    rcases k with _ | k
    · have HZ : Hid (R = 0) := by show _ = _; rw [← HG.out]; simp [stGo]
      go_wp2_with fail
      go_ret
      exact ⟨by rw [HZ.out]; rfl, rfl⟩
    · have hkl : k < l.length := by rw [HN.out]; omega
      have hkn : k < n := by omega
      obtain ⟨g, off, rfl, hg, c0, c1, c2, c3, c4⟩ := HL.out.get k hkl
      have HS := Lib.hid (stGo_step l k hkl z)
      generalize l[k] = x at c0 c1 c2 c3 c4 HS
      obtain ⟨t, ht⟩ : ∃ t, takesZ x.k = t := ⟨_, rfl⟩
      have ht1 : -1 ≤ t ∧ t ≤ 2 := by have := takesZ_cases x.k; omega
      have HT := Lib.hid ht
      clear ht hkl c1 c2 c3 c4
      have e0 : ((k + 1 : Nat) : Int) - 1 = (k : Int) := by omega
      rw [e0]
      go_wp2_with fail
      refine (takes_any _ _).mono ?_
      rintro e w1 ⟨rfl, rfl⟩
      rw [HT.out]
      by_cases h1 : z + (t - 1) ≤ 0
      · have HZ : Hid (R = k) := by show _ = _; rw [← HG.out, HS.out, HT.out, if_pos h1]
        go_wp2_with fail
        go_ret
        exact ⟨by rw [HZ.out]; rfl, rfl⟩
      · have HZ : Hid (stGo (l.take k).reverse (z + (t - 1)) = R) := by show _ = _; rw [← HG.out, HS.out, HT.out, if_neg h1]
        go_wp2_with fail
        go_roundw
        case rel => exact ⟨k, z + (t - 1), by go_num, by omega, by go_num, by omega, by omega, HZ, (by first | rfl | trivial)⟩
        case measure => simp [intOf]
set_option maxHeartbeats 4000000 in
set_option maxRecDepth 100000 in
theorem rstart_any (l : List Pc) (a : Option Addr) (n cap : Nat) (w : World) (hL : RxAt w a l) (hn : l.length = n) (hmax : n ≤ 1000000) (hv : ∀ x ∈ l, 0 ≤ takesZ x.k) (i : Nat) (hi : i < n) :
    Calls Tryd.prog 13 #[.slice a n cap, .int .i64 i] w fun e w' => e = .returned (.int .i64 ((startT l i : Nat) : Int)) ∧ Below w.heap.size w w' := by
  have HN := Lib.hid hn
  have HL := Lib.hid hL
  have HV := Lib.hid hv
  obtain ⟨R, hR⟩ : ∃ R, startT l i = R := ⟨_, rfl⟩
  rw [hR]
  have HG0 : Hid (stGo (l.take (i + 1)).reverse 1 = R) := hR
  clear hn hL hR hv
  go_enter Tryd.func13, Tryd.ntmps13
  go_wp2_with fail
  go_loopw [6, 5] (fun v m wr => ∃ (k : Nat) (z : Int), v = .int .i64 ((k : Int) - 1) ∧ k ≤ i + 1 ∧ m = .int .i64 z ∧ 1 ≤ z ∧ z ≤ 1 + (n - k : Int) ∧ Hid (stGo (l.take k).reverse z = R) ∧ Below w.heap.size w wr) (fun v _ _ => (intOf v + 1).toNat)
  case atStart => exact ⟨i + 1, 1, by go_num, Nat.le_refl _, rfl, by omega, by omega, HG0, Below.refl _ _⟩
  case round =>
    obtain ⟨k, z, rfl, hk, rfl, hz1, hz2, HG, hbel⟩ := hrel
    rcases k with _ | k
    · have HZ : Hid (R = 0) := by show _ = _; rw [← HG.out]; simp [stGo]
      go_wp2_with fail
      go_ret
      exact ⟨by rw [HZ.out]; rfl, hbel⟩
    · have hkl : k < l.length := by rw [HN.out]; omega
      have hkn : k < n := by omega
      obtain ⟨g, off, rfl, hg, c0, c1, c2, c3, c4⟩ := (HL.out.below hbel).get k hkl
      have HS := Lib.hid (stGo_step l k hkl z)
      have ht0 := HV.out l[k] (List.getElem_mem hkl)
      generalize l[k] = x at c0 c1 c2 c3 c4 HS ht0
      obtain ⟨t, ht⟩ : ∃ t, takesZ x.k = t := ⟨_, rfl⟩
      have ht1 : 0 ≤ t ∧ t ≤ 2 := by have := takesZ_cases x.k; omega
      have HT := Lib.hid ht
      clear ht hkl c1 c2 c3 c4 ht0
      have e0 : ((k + 1 : Nat) : Int) - 1 = (k : Int) := by omega
      rw [e0]
      go_wp2_with fail
      refine (rtakes_any _ _).mono ?_
      rintro e w1 ⟨rfl, b1⟩
      rw [HT.out]
      have hb1 := hbel.trans (b1.mono hbel.size)
      by_cases h1 : z - 1 + t = 0
      · have HZ : Hid (R = k) := by show _ = _; rw [← HG.out, HS.out, HT.out, if_pos (by omega)]
        have e1 : (z - 1 + t == 0) = true := by simpa using h1
        go_wp2_with fail
        go_ret
        exact ⟨by rw [HZ.out]; rfl, hb1⟩
      · have HZ : Hid (stGo (l.take k).reverse (z + (t - 1)) = R) := by show _ = _; rw [← HG.out, HS.out, HT.out, if_neg (by omega)]
        have e1 : (z - 1 + t == 0) = false := by simpa using h1
        go_wp2_with fail
        go_roundw
        case rel => exact ⟨k, z + (t - 1), by go_num, by omega, by go_num, by omega, by omega, HZ, hb1⟩
        case measure => simp [intOf]
end Go.Proofs.YtjhfgiflcenjpaaDoor
