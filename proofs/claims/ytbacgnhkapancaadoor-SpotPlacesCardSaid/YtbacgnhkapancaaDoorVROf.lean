import Derived.Test.YtbacgnhkapancaaDoorVBase
namespace Go.Proofs.YtbacgnhkapancaaDoor
open Go.RowKit Go.Maps Go.WideElems Go.ChangeMaps Go.MapKept
set_option linter.unusedVariables false
set_option linter.unusedSimpArgs false

set_option maxHeartbeats 1000000 in
set_option maxRecDepth 100000 in
theorem rof13_any (s : ByteArray) (x : Int) (m : Nat) (hs : s.size = m) (hm : m ≤ 1000000) (w : World) :
    Calls Tryd.prog 7 #[.string s, .int .i64 x] w fun e w' => e = .returned (.tuple #[.int .i64 ((lnF (bz s) (clp m x) : Nat) : Int), .int .i64 (((clp m x : Nat) : Int) - ((frF (bz s) (clp m x) : Nat) : Int) + 1)]) ∧ w' = w := by
  have hcl := clp_le m x
  have hc1 : ∀ k : Nat, k < clp m x ↔ (k : Int) < x ∧ k < m := fun k => by unfold clp; repeat' split
                                                                           all_goals omega
  generalize clp m x = n at hc1 hcl ⊢
  have HC := Lib.hid hc1
  clear hc1
  have hss := hs
  have HS := Lib.hid hs
  clear hs
  go_enter Tryd.func7, Tryd.ntmps7
  go_wp2_with fail
  go_loopw [6, 7, 8] (fun v6 v7 v8 wr => ∃ k : Nat, k ≤ n ∧ v6 = .int .i64 ((lnF (bz s) k : Nat) : Int) ∧ v7 = .int .i64 ((k : Int) - ((frF (bz s) k : Nat) : Int) + 1) ∧ v8 = .int .i64 (k : Int) ∧ Hid (wr = w)) (fun _ _ v _ => n - (nV v).toNat)
  case atStart => exact ⟨0, Nat.zero_le _, rfl, by simp [frF], rfl, (rfl : w = w)⟩
  case round =>
    obtain ⟨k, hk, rfl, rfl, rfl, HW⟩ := hrel
    have hl := lnF_le (bz s) k
    have hf := frF_le (bz s) k
    by_cases hlt : k < n
    · have h1 := (HC.out k).1 hlt
      have i1 : (k : Int) < x := h1.1
      have i2 : (k : Int) < (m : Int) := by omega
      have hks : k < s.size := by omega
      have hbz := bz_at s k hks
      obtain ⟨bt, hbe⟩ : ∃ bt, (s[k]'hks).toNat = bt := ⟨_, rfl⟩
      rw [hbe] at hbz
      have Hbz := Lib.hid hbz
      clear hbz h1
      by_cases hz : bt = 10
      · have hz' : (bt : Int) = 10 := by omega
        have e1 : lnF (bz s) (k + 1) = lnF (bz s) k + 1 := by rw [lnF, if_pos (by rw [← Hbz.out]; exact hz)]
        have e2 : frF (bz s) (k + 1) = k + 1 := by rw [frF, if_pos (by rw [← Hbz.out]; exact hz)]
        have HE := Lib.hid (And.intro e1 e2)
        clear e1 e2
        subst hz
        go_wp2_with fail
        go_roundw
        case rel => exact ⟨k + 1, by omega, by rw [HE.out.1]; rfl, by rw [HE.out.2]; congr 1; omega, by go_num, HW⟩
        case measure => simp [nV]; omega
      · have hz' : ¬ ((bt : Int) = 10) := by omega
        have e1 : lnF (bz s) (k + 1) = lnF (bz s) k := by rw [lnF, if_neg (by rw [← Hbz.out]; exact hz)]
        have e2 : frF (bz s) (k + 1) = frF (bz s) k := by rw [frF, if_neg (by rw [← Hbz.out]; exact hz)]
        have HE := Lib.hid (And.intro e1 e2)
        clear e1 e2
        go_wp2_with fail
        go_roundw
        case rel => exact ⟨k + 1, by omega, by rw [HE.out.1], by rw [HE.out.2]; congr 1; omega, by go_num, HW⟩
        case measure => simp [nV]; omega
    · obtain rfl : k = n := by omega
      have h1 : ¬ ((k : Int) < x ∧ k < m) := fun h => by have := (HC.out k).2 h; omega
      by_cases i1 : (k : Int) < x
      · have i2 : ¬ ((k : Int) < (m : Int)) := by omega
        clear h1
        go_wp2_with fail
        go_ret2
        exact ⟨rfl, HW.out⟩
      · clear h1
        go_wp2_with fail
        go_ret2
        exact ⟨rfl, HW.out⟩
end Go.Proofs.YtbacgnhkapancaaDoor
