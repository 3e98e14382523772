import Derived.Test.YtjhfgiflcenjpaaDoorZEmpty
import Derived.Test.YtjhfgiflcenjpaaDoorZStart
import Derived.BigQuiet
import Derived.WalkSmall
import Derived.Laws.StructEq
import Derived.Deep.QuietTactic
namespace Go.Proofs.YtjhfgiflcenjpaaDoor
open Go.RowKit
set_option linter.unusedVariables false

theorem part_k (W : World) (x : Pc) : (part 3 #[.int .i64 x.k, .int .u64 ((wd x.p 0 : Nat) : Int), .int .u64 ((wd x.p 1 : Nat) : Int), .int .u64 ((wd x.p 2 : Nat) : Int), .int .u64 ((wd x.p 3 : Nat) : Int)] 0).run Tryd.prog W = .ok (.int .i64 x.k) W := by
  have hag : (isAgg 3).run Tryd.prog W = .ok false W := by kernel_rfl
  unfold part
  simp [hag]
theorem part_s (W : World) (x : Pc) : (part 33 #[.int .i64 x.k, .int .u64 ((wd x.p 0 : Nat) : Int), .int .u64 ((wd x.p 1 : Nat) : Int), .int .u64 ((wd x.p 2 : Nat) : Int), .int .u64 ((wd x.p 3 : Nat) : Int)] 1).run Tryd.prog W = .ok (.agg #[.int .u64 ((wd x.p 0 : Nat) : Int), .int .u64 ((wd x.p 1 : Nat) : Int), .int .u64 ((wd x.p 2 : Nat) : Int), .int .u64 ((wd x.p 3 : Nat) : Int)]) W := by
  have hag : (isAgg 33).run Tryd.prog W = .ok true W := by kernel_rfl
  unfold part
  simp [hag]
theorem run_eq_piece (W : World) (x : Pc) : (Op.equalIn 10000 35 (.agg #[.int .i64 x.k, .int .u64 ((wd x.p 0 : Nat) : Int), .int .u64 ((wd x.p 1 : Nat) : Int), .int .u64 ((wd x.p 2 : Nat) : Int), .int .u64 ((wd x.p 3 : Nat) : Int)]) (.agg #[.int .i64 x.k, .int .u64 ((wd x.p 0 : Nat) : Int), .int .u64 ((wd x.p 1 : Nat) : Int), .int .u64 ((wd x.p 2 : Nat) : Int), .int .u64 ((wd x.p 3 : Nat) : Int)])).run Tryd.prog W = .ok true W := by
  rw [run_equalIn_agg W 9999 35 _ _ (by kernel_rfl) (by kernel_rfl)]
  have h9 := run_eq_set_at 9998 (fun w a b => run_equalIn_int w 9997 31 .u64 .u64 a b Tryd.underlying31) W (wd x.p 0) (wd x.p 1) (wd x.p 2) (wd x.p 3) (wd x.p 0) (wd x.p 1) (wd x.p 2) (wd x.p 3)
  have h1 := run_equalIn_int (P := Tryd.prog) W 9998 3 .i64 .i64 x.k x.k Tryd.underlying3
  simp only [Program.fieldsOf, Tryd.underlying35]
  simp only [Op.eqFields, Sem.run_bind, Sem.run_ite, part_k, part_s, Result.andThen_ok, h1, h9]
  simp

set_option maxHeartbeats 2000000 in
set_option maxRecDepth 100000 in
/-- Two lists of the same pieces are alike, for the reference. -/
theorem rsame_any (l m : List Pc) (hlm : pcs l = pcs m) (a1 a2 : Option Addr) (n c1 c2 : Nat) (w : World) (h1 : RxAt w a1 l) (h2 : RxAt w a2 m) (hn : l.length = n) (hm : m.length = n) (hmax : n ≤ 1000000) :
    Calls Tryd.prog 14 #[.slice a1 n c1, .slice a2 n c2] w fun e w' => e = .returned (.bool true) ∧ Below w.heap.size w w' := by
  have H1 := Lib.hid h1
  have H2 : Hid (RxAt w a2 l) := by
    intro h0
    obtain ⟨g, off, e, hg, hc⟩ := h2 (by omega)
    exact ⟨g, off, e, hg, fun j hj => by rw [hc j (by omega), hlm]⟩
  have HN := Lib.hid hn
  have heq := run_eq_piece
  clear h1 h2 hn hm hlm
  go_enter Tryd.func14, Tryd.ntmps14
  go_wp2_with fail
  go_loopw [5] (fun i wr => ∃ k : Nat, i = .int .i64 k ∧ k ≤ n ∧ Below w.heap.size w wr) (fun i _ => n - (intOf i).toNat)
  case atStart => exact ⟨0, rfl, Nat.zero_le _, Below.refl _ _⟩
  case round =>
    obtain ⟨k, rfl, hk, hbel⟩ := hrel
    by_cases hlt : k < n
    · have hkl : k < l.length := by rw [HN.out]; exact hlt
      obtain ⟨g, off, rfl, hg, c0, c1, c2, c3, c4⟩ := (H1.out.below hbel).get k hkl
      obtain ⟨g2, off2, rfl, hg2, d0, d1, d2, d3, d4⟩ := (H2.out.below hbel).get k hkl
      generalize l[k] = x at c0 c1 c2 c3 c4 d0 d1 d2 d3 d4
      clear hkl
      go_wp2_with fail
      go_quiet (fail)
      go_wp2_with fail
      go_roundw
      case rel => exact ⟨k + 1, by go_num, by omega, below_drewN hbel _⟩
      case measure => simp [intOf]; omega
    · obtain rfl : k = n := by omega
      go_wp2_with fail
      go_ret
      exact ⟨rfl, hbel⟩

set_option maxHeartbeats 2000000 in
set_option maxRecDepth 100000 in
/-- .. and for the program. -/
theorem equal_any (l m : List Pc) (hlm : pcs l = pcs m) (a1 a2 : Option Addr) (n c1 c2 : Nat) (w : World) (h1 : RxAt w a1 l) (h2 : RxAt w a2 m) (hn : l.length = n) (hm : m.length = n) (hmax : n ≤ 1000000) :
    Calls Tryd.prog 25 #[.slice a1 n c1, .slice a2 n c2] w fun e w' => e = .returned (.bool true) ∧ Below w.heap.size w w' := by
  have H1 := Lib.hid h1
  have H2 : Hid (RxAt w a2 l) := by
    intro h0
    obtain ⟨g, off, e, hg, hc⟩ := h2 (by omega)
    exact ⟨g, off, e, hg, fun j hj => by rw [hc j (by omega), hlm]⟩
  have HN := Lib.hid hn
  have heq := run_eq_piece
  clear h1 h2 hn hm hlm
  go_enter Tryd.func25, Tryd.ntmps25
  go_wp2_with fail
  go_loopw [13] (fun i wr => ∃ k : Nat, i = .int .i64 k ∧ k ≤ n ∧ Below w.heap.size w wr) (fun i _ => n - (intOf i).toNat)
  case atStart => exact ⟨0, rfl, Nat.zero_le _, Below.refl _ _⟩
  case round =>
    obtain ⟨k, rfl, hk, hbel⟩ := hrel
    by_cases hlt : k < n
    · have hkl : k < l.length := by rw [HN.out]; exact hlt
      obtain ⟨g, off, rfl, hg, c0, c1, c2, c3, c4⟩ := (H1.out.below hbel).get k hkl
      obtain ⟨g2, off2, rfl, hg2, d0, d1, d2, d3, d4⟩ := (H2.out.below hbel).get k hkl
      generalize l[k] = x at c0 c1 c2 c3 c4 d0 d1 d2 d3 d4
      clear hkl
      go_wp2_with fail
      go_quiet (fail)
      go_wp2_with fail
      go_roundw
      case rel => exact ⟨k + 1, by go_num, by omega, below_drewN hbel _⟩
      case measure => simp [intOf]; omega
    · obtain rfl : k = n := by omega
      go_wp2_with fail
      go_ret
      exact ⟨rfl, hbel⟩
theorem same_any (l m : List Pc) (hlm : pcs l = pcs m) (a1 a2 : Option Addr) (n c1 c2 : Nat) (w : World) (h1 : RxAt w a1 l) (h2 : RxAt w a2 m) (hn : l.length = n) (hm : m.length = n) (hmax : n ≤ 1000000) :
    Calls Tryd.prog 15 #[.slice a1 n c1, .slice a2 n c2] w fun e w' => e = .returned (.bool true) ∧ Below w.heap.size w w' := by
  have H := Lib.hid (equal_any l m hlm a1 a2 n c1 c2 w h1 h2 hn hm hmax)
  clear hlm h1 h2 hn hm
  go_enter Tryd.func15, Tryd.ntmps15
  go_wp2_with fail
  refine H.out.mono ?_
  rintro e w1 ⟨rfl, b1⟩
  go_wp2_with fail
  go_ret
  exact ⟨rfl, b1⟩
end Go.Proofs.YtjhfgiflcenjpaaDoor
