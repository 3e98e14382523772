import Derived.Test.YtghhjonhmelohaaYAhead
import Derived.RangeFuncNested
import Derived.RangeFuncBound
import Derived.RangeFuncCalls
import Derived.RangeFuncLeaves
import Derived.Shelf.Abstract
import Derived.Shelf.RegionOpen
import Derived.OwnWalkIn
import Derived.TacticsInMore
import Derived.LoopNIn
import Derived.LoopIn
namespace Go.Proofs.Ytghhjonhmelohaa
open Go.RowKit Go.Shelf
set_option linter.unusedVariables false
set_option linter.unusedSimpArgs false

attribute [local go_sem] Oper.semAt_some

/-- A token with its index. -/
abbrev Ix := Nat × Tok
/-- The last k of a list, the last one first. -/
def bkL (A : List Tok) (k : Nat) : List Ix := (List.range k).map (fun j => (A.length - 1 - j, A[A.length - 1 - j]?.getD ⟨0, ⟨#[]⟩, 0⟩))
theorem bkL_succ (A : List Tok) (k : Nat) : bkL A (k + 1) = bkL A k ++ [(A.length - 1 - k, A[A.length - 1 - k]?.getD ⟨0, ⟨#[]⟩, 0⟩)] := by simp [bkL, List.range_succ]
theorem bkL_len (A : List Tok) (k : Nat) : (bkL A k).length = k := by simp [bkL]
theorem bkL_rev (A : List Tok) {k : Nat} (h : k ≤ A.length) : (bkL A k).map (·.2) = A.reverse.take k := by
  apply List.ext_getElem
  · simp [bkL, h]
  · intro i h1 h2
    simp [bkL] at h1 ⊢
    rw [List.getElem?_eq_getElem (by omega)]
    rfl
def ixV (x : Ix) : Array Value := #[.int .i64 ((x.1 : Nat) : Int), .agg #[.int .i64 x.2.r, .string x.2.s, .int .i64 x.2.p]]

set_option maxRecDepth 100000 in
set_option maxHeartbeats 2000000 in
/-- The closure of slices.Backward. -/
theorem back1_in (F : Fence) (n : Nat) (h7 : F.fn 31) (hro : F.round = none) (hn : 1 ≤ n) (l Bs n₀ m c : Nat) (a2 : Option Addr) (A : List Tok) (hA : A.length = m) (hm : m ≤ 100000) (hB : Bs < n₀) (J Jx : List Ix → World → Prop)
    (hY : ∀ pre x W, J pre W → pre.length < m → YieldAt F (n - 1) Try.prog l (ixV x) W fun e W' =>
      (e = .returned (.bool true) ∧ J (pre ++ [x]) W' ∧ Below n₀ W W') ∨ (e = .returned (.bool false) ∧ Jx (pre ++ [x]) W'))
    (W : World) (hn0 : n₀ ≤ W.heap.size) (hBs : W.cell? ⟨Bs, 0, none⟩ = some (.slice a2 m c)) (hc : ∀ V, Below n₀ W V → TkAt V a2 A) (h0 : J [] W) :
    CallsIn F n Try.prog 31 #[.func (.yield l) #[] #[], .pointer (some ⟨Bs, 0, none⟩)] W fun e W' => (∃ v, e = .returned v) ∧
      ((∃ ys, ys = bkL A m ∧ J ys W') ∨ (∃ pre, (∃ k, k ≤ m ∧ pre = bkL A k) ∧ Jx pre W')) := by
  have i0 : IntKind.i64.wrap ((m : Int) - 1) = (m : Int) - 1 := IntWalk.i64_in _ ⟨by omega, by omega⟩
  refine callsIn_of_wp Try.func31 rfl h7 ?_ hro
  simp only [Try.ntmps31, List.size_toArray, List.length_cons, List.length_nil, Nat.reduceAdd, Nat.reduceSub, Array.replicate_succ, Array.replicate_zero, List.push_toArray, List.append_toArray, List.nil_append, List.cons_append]
  gi_wp2
  gi_loopw [3] (fun v wr => ∃ (i : Int) (k : Nat), k ≤ m ∧ v = .int .i64 i ∧ (m : Int) - 1 - (k : Int) = i ∧ J (bkL A k) wr ∧ Below n₀ W wr)
    (fun v _ => (nV v + 1).toNat)
  case atStart => exact ⟨_, 0, Nat.zero_le _, rfl, by omega, h0, Below.refl _ _⟩
  case round =>
    obtain ⟨i, k, hk, rfl, hi, hJs, hnx⟩ := hrel
    by_cases hlt : k < m
    · obtain ⟨q, rfl⟩ : ∃ q : Nat, i = (q : Int) := ⟨i.toNat, by omega⟩
      have hq : m - 1 - k = q := by omega
      have HI := Lib.hid hi
      have i1 : (0 : Int) ≤ (q : Int) := by omega
      have hqm : q < m := by omega
      have i2 : (q : Int) < (m : Int) := by omega
      have i3 : IntKind.i64.wrap ((q : Int) - 1) = (q : Int) - 1 := IntWalk.i64_in _ ⟨by omega, by omega⟩
      obtain ⟨g1, o1, rfl, _, x0, x1, x2⟩ := (hc _ hnx).get q (by omega)
      have hb := (hnx.cell (p := ⟨Bs, 0, none⟩) hB).trans hBs
      have hsu : bkL A (k + 1) = bkL A k ++ [(q, A[q])] := by
        have hx : A.length - 1 - k = q := by omega
        rw [bkL_succ, hx, List.getElem?_eq_getElem (by omega)]
        rfl
      generalize A[q] = x at x0 x1 x2 hsu
      obtain ⟨fn, tmps, assign, body, hy, hR⟩ := hY _ (q, x) wr hJs (by rw [bkL_len]; exact hlt)
      unfold ixV at hy
      dsimp only at hy
      clear hi hq
      gi_wp2
      refine hR.mono ?_
      rintro e W3 (⟨rfl, hJ3, hk3⟩ | ⟨rfl, hJx3⟩)
      · gi_wp2
        go_roundw
        case rel => exact ⟨_, k + 1, by omega, rfl, by have := HI.out; omega, by rw [hsu]; exact hJ3, hnx.trans hk3⟩
        case measure => have := HI.out; first | omega | (simp [nV]; done) | (simp [nV]; omega)
      · gi_wp2
        refine bodyPost_ret (results_none rfl _ _ _) rfl ?_
        exact ⟨⟨_, rfl⟩, .inr ⟨_, ⟨k + 1, by omega, hsu.symm⟩, hJx3⟩⟩
    · obtain rfl : k = m := by omega
      have i1 : ¬ ((0 : Int) ≤ i) := by omega
      gi_wp2
      go_end0
      first | exact ⟨⟨_, rfl⟩, .inl ⟨_, rfl, hJs⟩⟩ | exact ⟨⟨_, rfl⟩, .inl hJs⟩

set_option maxHeartbeats 1000000 in
theorem back_in (F : Fence) (n : Nat) (h5 : F.fn 29) (hro : F.round = none) (a : Option Addr) (len cap : Nat) (w : World) :
    CallsIn F n Try.prog 29 #[.slice a len cap] w fun e w' => e = .returned (.func (.func 31) #[] #[.pointer (some ⟨w.heap.size, 0, none⟩)]) ∧ w' = w.alloc (.cells #[.slice a len cap] 23) := by
  refine callsIn_of_wp Try.func29 rfl h5 ?_ hro
  simp only [Try.ntmps29, List.size_toArray, List.length_cons, List.length_nil, Nat.reduceAdd, Nat.reduceSub, Array.replicate_succ, Array.replicate_zero, List.push_toArray, List.append_toArray, List.nil_append, List.cons_append]
  gi_wp2
  go_ret
  exact ⟨rfl, rfl⟩

theorem back_stops (F : Fence) (n : Nat) (h7 : F.fn 31) (hro : F.round = none) (hn : 1 ≤ n) (Bs m c : Nat) (a2 : Option Addr) (A : List Tok) (hA : A.length = m) (hm : m ≤ 100000) (w : World) (hBs : Bs < w.heap.size)
    (hc : w.cell? ⟨Bs, 0, none⟩ = some (.slice a2 m c)) (hT : TkAt w a2 A) :
    SeqStopsK F n Try.prog 31 #[.pointer (some ⟨Bs, 0, none⟩)] ixV (Below w.heap.size) (fun ys => ys = bkL A m) (fun pre => ∃ k, k ≤ m ∧ pre = bkL A k) m w := fun l J Jx W hW _ _ hY h0 =>
  back1_in F n h7 hro hn l Bs w.heap.size m c a2 A hA hm hBs J Jx hY W hW.size ((hW.cell (p := ⟨Bs, 0, none⟩) hBs).trans hc) (fun V hV => hT.below (hW.trans hV)) h0
end Go.Proofs.Ytghhjonhmelohaa
