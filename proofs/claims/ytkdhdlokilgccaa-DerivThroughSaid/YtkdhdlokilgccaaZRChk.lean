import Derived.Test.YtkdhdlokilgccaaZChk
namespace Go.Proofs.Ytkdhdlokilgccaa
open Go.RowKit
set_option linter.unusedVariables false

set_option maxHeartbeats 4000000 in
set_option maxRecDepth 100000 in
theorem rcheck_any (l : List Pc) (a : Option Addr) (n cap : Nat) (w : World) (hL : RxAt w a l) (hn : l.length = n) (hmax : n ≤ 100000) :
    Calls Try.prog 8 #[.slice a n cap] w fun e w' => e = .returned (.int .i64 ((chkT l : Nat) : Int)) ∧ Below w.heap.size w w' := by
  by_cases hbig : 400 < n
  · have HZ : Hid (chkT l = 6) := by show _ = _; unfold chkT; rw [if_pos (by omega)]
    go_enter Try.func8, Try.ntmps8
    go_wp2_with fail
    go_ret
    exact ⟨by rw [HZ.out]; rfl, Below.refl _ _⟩
  have HC := Lib.hid (fun o => chkT_of l (by omega) o)
  have HN := Lib.hid hn
  have HL := Lib.hid hL
  have heq := run_eq_set
  clear hn hL
  go_enter Try.func8, Try.ntmps8
  go_wp2_with fail
  go_loopw [3, 4] (fun v i wr => ∃ (k : Nat) (m : Int), i = .int .i64 k ∧ k ≤ n ∧ v = .int .i64 m ∧ 0 ≤ m ∧ m ≤ k ∧ Hid (chkGo l 0 = chkGo (l.drop k) m) ∧ Below w.heap.size w wr) (fun _ i _ => n - (intOf i).toNat)
  case atStart => exact ⟨0, 0, rfl, Nat.zero_le _, rfl, by omega, by omega, rfl, Below.refl _ _⟩
  case round =>
    obtain ⟨k, m, rfl, hk, rfl, hm0, hmk, HG, hbel⟩ := hrel
    by_cases hlt : k < n
    · have hkl : k < l.length := by rw [HN.out]; exact hlt
      obtain ⟨g, off, rfl, hg, c0, c1, c2, c3, c4⟩ := (HL.out.below hbel).get k hkl
      have HS := Lib.hid (chkGo_step l k hkl m)
      have hbw := hbel.size
      generalize l[k] = x at c0 c1 c2 c3 c4 HS
      obtain ⟨t, ht⟩ : ∃ t, takesZ x.k = t := ⟨_, rfl⟩
      have ht1 : -1 ≤ t ∧ t ≤ 2 := by have := takesZ_cases x.k; omega
      have HT := Lib.hid ht
      have HE := Lib.hid (set_none x.p)
      have hnn : noneB x.p = decide ((lst x.p 256).length = 0) := rfl
      clear ht hkl
      go_wp2_with fail
      refine (rtakes_any _ _).mono ?_
      rintro e w1 ⟨rfl, b1⟩
      rw [HT.out]
      have hb1 := hbel.trans (b1.mono hbw)
      have d0 := (b1.cell (p := ⟨g, off + k * 5, none⟩) hg).trans c0
      have d1 := (b1.cell (p := ⟨g, off + k * 5 + 1, none⟩) hg).trans c1
      have d2 := (b1.cell (p := ⟨g, off + k * 5 + 2, none⟩) hg).trans c2
      have d3 := (b1.cell (p := ⟨g, off + k * 5 + 3, none⟩) hg).trans c3
      have d4 := (b1.cell (p := ⟨g, off + k * 5 + 4, none⟩) hg).trans c4
      clear c0 c1 c2 c3 c4 b1
      by_cases h1 : t < 0 ∨ m < t
      · have HZ : Hid (chkT l = 5) := by
          show _ = _
          rw [HC.out none (by rw [HG.out, HS.out, if_neg]; simp [okPc, HT.out]; omega), if_neg (by simp)]
        rcases (by omega : t < 0 ∨ (0 ≤ t ∧ m < t)) with h2 | ⟨h2, h3⟩
        · have g1 : decide (t < 0) = true := by simp; omega
          clear h1
          go_wp2_with fail
          go_quiet (fail)
          go_wp2_with fail
          go_ret
          exact ⟨by rw [HZ.out]; rfl, below_drewN hb1 _⟩
        · have g1 : decide (t < 0) = false := by simp; omega
          have g2 : decide (m < t) = true := by simp; omega
          clear h1
          go_wp2_with fail
          go_quiet (fail)
          go_wp2_with fail
          go_ret
          exact ⟨by rw [HZ.out]; rfl, below_drewN hb1 _⟩
      have h2 : 0 ≤ t := by omega
      have h3 : t ≤ m := by omega
      clear h1
      have g1 : decide (t < 0) = false := by simp; omega
      have g2 : decide (m < t) = false := by simp; omega
      have HO : Hid (okPc x m = okSet x) := by
        show _ = _
        simp [okPc, HT.out, decide_eq_true h2, decide_eq_true h3]
      obtain ⟨b, hb⟩ : ∃ b, noneB x.p = b := ⟨_, rfl⟩
      have hE := HE.out
      rw [← hnn, hb] at hE
      obtain ⟨b1, hb1'⟩ : ∃ b1, (x.k == 1) = b1 := ⟨_, rfl⟩
      have HS2 : Hid (okSet x = (b != b1)) := by show _ = _; unfold okSet; rw [hb, hb1']
      clear hb hnn HE
      rcases b1 with _ | _ <;> rcases b with _ | _
      all_goals
        go_wp2_with fail
        go_quiet (fail)
        have HHH := Lib.hid (below_drewN hb1 nq)
        clear d0 d1 d2 d3 d4
        first
          | (have HZ : Hid (chkT l = 5) := by
               show _ = _
               rw [HC.out none (by rw [HG.out, HS.out, if_neg (by rw [HO.out, HS2.out]; decide)]), if_neg (by simp)]
             go_wp2_with fail
             go_ret
             exact ⟨by rw [HZ.out]; rfl, HHH.out⟩)
          | (have HZ : Hid (chkGo l 0 = chkGo (l.drop (k + 1)) (m - t + 1)) := by
               show _ = _
               rw [HG.out, HS.out, if_pos (by rw [HO.out, HS2.out]; decide), HT.out]
               congr 1; omega
             go_wp2_with fail
             go_roundw
             case rel => exact ⟨k + 1, m - t + 1, by go_num, by omega, rfl, by omega, by omega, HZ, HHH.out⟩
             case measure => simp [intOf]; omega)
    · obtain rfl : k = n := by omega
      have HE : Hid (chkT l = if some m = some 1 then 0 else 5) := by
        show _ = _
        rw [HC.out (some m) (by rw [HG.out, chkGo_end l k (by rw [HN.out]; exact Nat.le_refl _)])]
      by_cases h1 : m = 1
      · have HZ : Hid (chkT l = 0) := by show _ = _; rw [HE.out, if_pos (by rw [h1])]
        subst h1
        go_wp2_with fail
        go_ret
        exact ⟨by rw [HZ.out]; rfl, hbel⟩
      · have HZ : Hid (chkT l = 5) := by show _ = _; rw [HE.out, if_neg (by simpa using h1)]
        have e1 : (m != 1) = true := by simpa using h1
        go_wp2_with fail
        go_ret
        exact ⟨by rw [HZ.out]; rfl, hbel⟩
end Go.Proofs.Ytkdhdlokilgccaa
