import Derived.Test.YtddkloagaiibaaaFlags
import Derived.Test.YtddkloagaiibaaaAwake
import Derived.Test.YtddkloagaiibaaaRange
import Derived.Test.YtddkloagaiibaaaRefOf
import Derived.Test.YtddkloagaiibaaaSetEq
import Derived.Deep.DeepCutAuto
namespace Go.Proofs.Ytddkloagaiibaaa
open Go.RowKit

theorem make_flags (w : World) : (Instr.makeSlice 24 (.int .i64 256) (.int .i64 256)).run Try.prog w = .ok (.slice (some ⟨w.heap.size, 0, none⟩) 256 256) (w.alloc (.cells (Array.replicate 256 (.bool false)) 4)) := by kernel_rfl
theorem flags_new (w : World) : Flags (w.alloc (.cells (Array.replicate 256 (.bool false)) 4)) w.heap.size (fun _ => false) :=
  ⟨_, St.new w _ _, by simp, fun j hj => by simp [hj]⟩
theorem Flags.alloc {w : World} {b : Nat} {p : Nat → Bool} (h : Flags w b p) (o : Obj) : Flags (w.alloc o) b p := by
  obtain ⟨cs, h, r⟩ := h; exact ⟨cs, h.alloc o, r⟩
theorem two_flags (w : World) : Flags ((w.alloc (.cells (Array.replicate 256 (.bool false)) 4)).alloc (.cells (Array.replicate 256 (.bool false)) 4)) w.heap.size (fun _ => false) ∧
    Flags ((w.alloc (.cells (Array.replicate 256 (.bool false)) 4)).alloc (.cells (Array.replicate 256 (.bool false)) 4)) (w.heap.size + 1) (fun _ => false) ∧
    Below w.heap.size w ((w.alloc (.cells (Array.replicate 256 (.bool false)) 4)).alloc (.cells (Array.replicate 256 (.bool false)) 4)) := by
  refine ⟨(flags_new w).alloc _, ?_, ((Below.refl _ _).alloc (Nat.le_refl _) _).alloc (by simp) _⟩
  have := flags_new (w.alloc (.cells (Array.replicate 256 (.bool false)) 4))
  simpa using this
theorem makes_long (a : Option Addr) (len cap : Nat) (x y : Int) (w : World) (hl : 300 < len) :
    Calls Try.prog 3 #[.slice a len cap, .int .u8 x, .int .u8 y] w fun e w' => e = .returned (.bool true) ∧ Below w.heap.size w w' := by
  go_enter Try.func3, Try.ntmps3
  go_wp2_with fail
  refine (awake_any _).mono ?_
  rintro e w1 ⟨rfl, b1⟩
  go_wp2_with fail
  go_ret
  exact ⟨rfl, b1⟩

set_option maxHeartbeats 1000000 in
set_option maxRecDepth 100000 in
theorem makesLaw (a : Option Addr) (len cap : Nat) (z : Nat → Nat) (x y : Nat) (hx : x < 256) (hy : y < 256) (w : World) (hl : len ≤ 300) (hE : ElsB w a len z) :
    Calls Try.prog 3 #[.slice a len cap, .int .u8 x, .int .u8 y] w fun e w' => e = .returned (.bool true) ∧ Below w.heap.size w w' := by
  go_enter Try.func3, Try.ntmps3
  go_wp2_with fail
  refine (awake_any _).mono ?_
  rintro e w1 ⟨rfl, b1⟩
  have hE1 := hE.keep b1
  have hs1 := b1.size
  have hmk := make_flags
  clear hE
  go_wp2_with fail
  go_cut [7, 8] (fun v7 v8 wr => ∃ bs ba, v7 = .slice (some ⟨bs, 0, none⟩) 256 256 ∧ v8 = .slice (some ⟨ba, 0, none⟩) 256 256 ∧ Two w1 bs ba (fun _ => false) (fun _ => false) wr)
  case first =>
    go_region
    all_goals
      go_wp2_with fail
      go_meet
      obtain ⟨f0, f1, fb⟩ := two_flags w1
      have T1 : Two w1 w1.heap.size (w1.heap.size + 1) (fun _ => false) (fun _ => false) _ := ⟨f0, f1, by omega, by omega, by omega, fb⟩
      have T2 : Two w1 (w1.heap.size + 1) w1.heap.size (fun _ => false) (fun _ => false) _ := ⟨f1, f0, by omega, by omega, by omega, fb⟩
      first | exact ⟨_, _, rfl, rfl, T1.drew⟩ | exact ⟨_, _, rfl, rfl, T2.drew⟩
  case rest =>
    obtain ⟨bs, ba, rfl, rfl, R⟩ := hcut
    clear hmk
    go_wp2_with fail
    go_loopw [9] (fun i wr => ∃ k : Nat, i = .int .i64 k ∧ k ≤ len ∧ Two w1 bs ba (ofUp z k) (fun _ => false) wr) (fun i _ => len - (intOf i).toNat)
    case atStart => exact ⟨0, rfl, Nat.zero_le _, R⟩
    case round =>
      clear R
      obtain ⟨k, rfl, hk, R⟩ := hrel
      by_cases hlt : k < len
      · obtain ⟨b, off, rfl, hb, hz⟩ := hE1 (by omega)
        obtain ⟨hz1, hz2⟩ := hz k hlt
        have hc := (R.below.cell (p := ⟨b, off + k, none⟩) hb).trans hz1
        obtain ⟨hc1, hc2⟩ := R.s.cell (z k) hz2
        have R1 : Two w1 bs ba (ofUp z (k + 1)) (fun _ => false) (wr.setCell ⟨bs, z k, none⟩ (.bool true)) := ⟨R.s.set _ hz2, R.a.far (Ne.symm R.ne) _, R.ne, R.hs, R.ha, R.below.setCell R.hs _⟩
        have HR := Lib.hid R1
        clear hz1 hz R R1
        go_wp2_with fail
        go_roundw
        case rel => exact ⟨k + 1, by go_num, by omega, HR.out⟩
        case measure => simp [intOf]; omega
      · obtain rfl : k = len := by omega
        go_wp2_with fail
        obtain ⟨wo, rfl⟩ : ∃ wo : World, wo = wr := ⟨_, rfl⟩
        go_loopw [10] (fun i wl => ∃ j : Nat, i = .int .i64 ((x + j : Nat) : Int) ∧ j ≤ y + 1 - x ∧ Two w1 bs ba (ofUp z k) (ival x j) wl) (fun i _ => 256 - (intOf i).toNat)
        case atStart => exact ⟨0, rfl, Nat.zero_le _, by rw [ival_zero]; exact R⟩
        case round =>
          clear R
          obtain ⟨j, rfl, hj, R⟩ := hrel
          by_cases hlt2 : x + j ≤ y
          · obtain ⟨hc1, hc2⟩ := R.a.cell (x + j) (by omega)
            have R1 : Two w1 bs ba (ofUp z k) (ival x (j + 1)) (wr.setCell ⟨ba, x + j, none⟩ (.bool true)) := ⟨R.s.far R.ne _, by rw [ival_succ]; exact R.a.set _ (by omega), R.ne, R.hs, R.ha, R.below.setCell R.ha _⟩
            have HR := Lib.hid R1
            clear R R1
            go_wp2_with fail
            go_roundw
            case rel => exact ⟨j + 1, by go_num, by omega, HR.out⟩
            case measure => simp [intOf]; omega
          · obtain ⟨n, rfl⟩ : ∃ n, n = j := ⟨_, rfl⟩
            have hn : y + 1 - x ≤ n := by omega
            have HN : Hid (n = y + 1 - x) := by show n = y + 1 - x; omega
            go_wp2_with fail
            refine (of_any a k cap z _ (hE1.keep R.below) (by omega)).mono ?_
            rintro e w3 ⟨rfl, b3⟩
            have hs3 := R.s.keep b3
            have ha3 := R.a.keep b3
            have hb3 := R.below.trans (b3.mono R.below.size)
            clear R b3
            go_wp2_with fail
            refine (rof_any (ofUp z k) bs 0 256 _ hs3.lt (fun j hj => by simpa using (hs3.cell j hj).1)).mono ?_
            rintro e w4 ⟨rfl, b4⟩
            have ha4 := ha3.keep b4
            have hb4 := hb3.trans (b4.mono hb3.size)
            have heq := run_eq_set
            clear hs3 ha3 hb3 b4
            go_wp2_with fail
            refine (range_any x y hx hy _).mono ?_
            rintro e w5 ⟨rfl, b5⟩
            have ha5 := ha4.keep b5
            have hb5 := hb4.trans (b5.mono hb4.size)
            rw [← HN.out]
            clear ha4 hb4 b5
            go_wp2_with fail
            refine (rof_any (ival x n) ba 0 256 _ ha5.lt (fun j hj => by simpa using (ha5.cell j hj).1)).mono ?_
            rintro e w6 ⟨rfl, b6⟩
            have hb6 := b1.trans ((hb5.trans (b6.mono hb5.size)).mono hs1)
            clear ha5 hb5 b6
            go_wp2_with fail
            go_ret
            exact ⟨rfl, hb6⟩
end Go.Proofs.Ytddkloagaiibaaa
