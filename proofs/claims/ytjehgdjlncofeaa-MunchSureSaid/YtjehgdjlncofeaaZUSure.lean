import Derived.Test.YtjehgdjlncofeaaZUMun
namespace Go.Proofs.Ytjehgdjlncofeaa
open Go.RowKit Go.Maps Go.WideElems Go.ChangeMaps Go.MapKept
set_option linter.unusedVariables false
set_option linter.unusedSimpArgs false

/-- How far one looks. -/
def SuP (D : Dd) (z : Nat → Nat) (m n : Nat) : Prop := (∃ k, n = k + 1 ∧ k < m ∧ runF D 0 z (k + 1) = -1 ∧ ∀ j, j ≤ k → runF D 0 z j ≠ -1) ∨ (n = m ∧ ∀ j, j ≤ m → runF D 0 z j ≠ -1)
def SuPost (D : Dd) (z : Nat → Nat) (m : Nat) (w : World) (e : Ending) (w' : World) : Prop := ∃ n : Nat, e = .returned (.int .i64 ((n : Nat) : Int)) ∧ SuP D z m n ∧ Below w.heap.size w w'

set_option maxHeartbeats 4000000 in
set_option maxRecDepth 100000 in
theorem sure_any (D : Dd) (C : Nat) (hR : DR D C) (s : ByteArray) (m : Nat) (hs : s.size = m) (hm : m ≤ 100000) (w : World) (hD : DM w D) :
    Calls Try.prog 17 #[.agg D.cD, .string s, .int .i64 0] w (SuPost D (zof s) m w) := by
  have kb := al w (.cells D.cD 26)
  have HB : Hid (DBx (w.alloc (.cells D.cD 26)) w.heap.size D ∧ Below w.heap.size w (w.alloc (.cells D.cD 26))) := ⟨DBx.new hD, kb⟩
  have HR := Lib.hid hR
  have hss := hs
  clear kb hR hD hs
  go_enter Try.func17, Try.ntmps17
  go_upto_region 1 with fail
  generalize w.alloc (.cells D.cD 26) = W0 at HB ⊢
  obtain ⟨b, hb0⟩ : ∃ b0, w.heap.size = b0 := ⟨_, rfl⟩
  have Hb0 := Lib.hid hb0
  rw [hb0] at HB
  rw [hb0]
  clear hb0
  have HFw : Hid (∀ W', Below W0.heap.size W0 W' → Below w.heap.size w W') := fun W' h => by
    have hz := HB.out.2.size
    rw [Hb0.out]
    exact HB.out.2.trans (h.mono (by have := Hb0.out; omega))
  go_wp2_with fail
  go_loopw [7, 8] (fun vs vi wr => ∃ (k : Nat), k ≤ m ∧ vs = .int .i64 (runF D 0 (zof s) k) ∧ vi = .int .i64 ((k : Nat) : Int) ∧ Hid ((∀ j, j ≤ k → runF D 0 (zof s) j ≠ -1) ∧ Below W0.heap.size W0 wr)) (fun _ v _ => m - (intOf v).toNat)
  case atStart => exact ⟨0, by omega, rfl, rfl, fun j hj => by rw [show j = 0 by omega]; show (0 : Int) ≠ -1; omega, Below.refl _ _⟩
  case round =>
    obtain ⟨k, hk, rfl, rfl, HX⟩ := hrel
    have HCr := Lib.hid (HB.out.1.keep HX.out.2)
    obtain ⟨st, hst⟩ : ∃ st, runF D 0 (zof s) k = st := ⟨_, rfl⟩
    rw [hst]
    have HL := Lib.hid hst
    clear hst
    by_cases hlt : k < m
    · have i1 : (k : Int) < (m : Int) := by omega
      have hks : k < s.size := by rw [hss]; exact hlt
      obtain ⟨bt, hbe⟩ : ∃ bt, (s[k]'hks).toNat = bt := ⟨_, rfl⟩
      have hbz := zof_at s k hks
      rw [hbe] at hbz
      have hbt : bt < 256 := by rw [hbz]; exact zof_lt s k
      have Hbt := Lib.hid hbt
      have HSt : Hid (stepF D st bt = runF D 0 (zof s) (k + 1)) := by
        show _ = stepF D (runF D 0 (zof s) k) (zof s k)
        rw [HL.out, ← hbz]
      clear hbz hbt
      go_upto_region 7 with fail
      have HSo : Hid (∀ W', Below W0.heap.size W0 W' → Below W0.heap.size W0 W' ∧ DBx W' b D ∧ True) := fun W' h => ⟨h, HB.out.1.keep h, trivial⟩
      refine wp_region_held_drew (S := fun W' => Below W0.heap.size W0 W' ∧ DBx W' b D ∧ True) (by kernel_rfl) (HSo.out _ HX.out.2.drew) (fun hHeld => ?_)
      (refine wpAnyH_take (i := 0) (oi := ?_) (v := .agg D.cD) ?_ (by kernel_rfl) (by kernel_rfl) (by kernel_rfl) ?_ (Or.inl ⟨?_, ?_⟩) (by assumption) ?_; rotate_left; (focus ((simp only [List.getElem?_toArray, List.getElem?_cons_zero]); first | done | rfl)); (focus (exact fun _ _ _ h => h)); (focus rfl); (focus (intro wz hSw; exact exec_load_any9 (o := _) (ρ := _) wz 26 (.tmp 3) rfl ⟨b, 0, none⟩ rfl D.cD _ (DBx.st (And.left (And.right hSw))).part Try.underlying26 rfl (DBx.dm (And.left (And.right hSw))).info)); try simp only [Act.put, List.setIfInBounds_toArray, List.set_cons_zero, List.set_cons_succ])
      (refine wpAnyH_take (i := 1) (oi := ?_) (v := ?_) ?_ (by kernel_rfl) (by kernel_rfl) (by kernel_rfl) ?_ (Or.inl ⟨?_, ?_⟩) (by assumption) ?_; rotate_left 2; (focus ((simp only [List.getElem?_toArray, List.getElem?_cons_succ, List.getElem?_cons_zero]); first | done | rfl)); (focus (exact fun _ _ _ h => h)); (focus rfl); (focus (intro wz hSw; (try dsimp only at hSw); go_simp; first | done | with_reducible rfl)); try simp only [Act.put, List.setIfInBounds_toArray, List.set_cons_zero, List.set_cons_succ])
      (refine wpAnyH_take (i := 2) (oi := ?_) (v := ?_) ?_ (by kernel_rfl) (by kernel_rfl) (by kernel_rfl) ?_ (Or.inl ⟨?_, ?_⟩) (by assumption) ?_; rotate_left 2; (focus ((simp only [List.getElem?_toArray, List.getElem?_cons_succ, List.getElem?_cons_zero]); first | done | rfl)); (focus (exact fun _ _ _ h => h)); (focus rfl); (focus (intro wz hSw; (try dsimp only at hSw); go_simp; first | done | with_reducible rfl)); try simp only [Act.put, List.setIfInBounds_toArray, List.set_cons_zero, List.set_cons_succ])
      (refine wpAnyH_take (i := 3) (oi := ?_) (v := ?_) ?_ (by kernel_rfl) (by kernel_rfl) (by kernel_rfl) ?_ (Or.inl ⟨?_, ?_⟩) (by assumption) ?_; rotate_left 2; (focus ((simp only [List.getElem?_toArray, List.getElem?_cons_succ, List.getElem?_cons_zero]); first | done | rfl)); (focus (exact fun _ _ _ h => h)); (focus rfl); (focus (intro wz hSw; (try dsimp only at hSw); go_simp; first | done | with_reducible rfl)); try simp only [Act.put, List.setIfInBounds_toArray, List.set_cons_zero, List.set_cons_succ])
      (refine wpAnyH_take (i := 4) (oi := ?_) (v := ?_) ?_ (by kernel_rfl) (by kernel_rfl) (by kernel_rfl) ?_ (Or.inl ⟨?_, ?_⟩) (by assumption) ?_; rotate_left 2; (focus ((simp only [List.getElem?_toArray, List.getElem?_cons_succ, List.getElem?_cons_zero]); first | done | rfl)); (focus (exact fun _ _ _ h => h)); (focus rfl); (focus (intro wz hSw; (try dsimp only at hSw); go_simp; first | done | with_reducible rfl)); try simp only [Act.put, List.setIfInBounds_toArray, List.set_cons_zero, List.set_cons_succ])
      refine wpAnyH_ready (rs := [5]) (by kernel_rfl) (by simp) ?_
      refine AllReadyH.cons (o := ?_) ?_ (fun K hK => ?_) ?_
      rotate_left
      (focus ((simp only [List.getElem?_toArray, List.getElem?_cons_succ, List.getElem?_cons_zero]); first | done | rfl))
      · skip
        go_simp
        go_at_call 30
        refine (dstep_any D C HR.out st bt Hbt.out _ hHeld.2.1.dm).mono ?_
        rintro e wj ⟨rfl, vj⟩
        have hbn : Below W0.heap.size W0 wj := hHeld.1.trans (vj.mono hHeld.1.size)
        clear vj
        try go_wp2_with fail
        refine hK.out _ _ (HSo.out _ hbn) (fun hHeld => ?_)
        clear hK K
        try simp only [Act.put, List.setIfInBounds_toArray, List.set_cons_zero, List.set_cons_succ]
        (refine wpAnyH_take (i := 6) (oi := ?_) (v := ?_) ?_ (by kernel_rfl) (by kernel_rfl) (by kernel_rfl) ?_ (Or.inl ⟨?_, ?_⟩) (by assumption) ?_; rotate_left 2; (focus ((simp only [List.getElem?_toArray, List.getElem?_cons_succ, List.getElem?_cons_zero]); first | done | rfl)); (focus (exact fun _ _ _ h => h)); (focus rfl); (focus (intro wz hSw; (try dsimp only at hSw); go_simp; first | done | with_reducible rfl)); try simp only [Act.put, List.setIfInBounds_toArray, List.set_cons_zero, List.set_cons_succ])
        refine wpAnyH_done (by kernel_rfl) ?_ _
        have HBn := Lib.hid hbn
        clear hHeld hbn
        rw [HSt.out]
        by_cases hd : runF D 0 (zof s) (k + 1) = -1
        · have HZ : Hid (SuPost D (zof s) m w (.returned (.int .i64 ((k + 1 : Nat) : Int))) wj) := ⟨k + 1, rfl, Or.inl ⟨k, rfl, hlt, hd, HX.out.1⟩, HFw.out _ HBn.out⟩
          rw [hd]
          clear hd
          go_wp2_with fail
          go_ret
          exact HZ.out
        · have HZ : Hid (∀ j, j ≤ k + 1 → runF D 0 (zof s) j ≠ -1) := fun j hj => by
            by_cases e : j = k + 1
            · rw [e]; exact hd
            · exact HX.out.1 j (by omega)
          obtain ⟨r, hr⟩ : ∃ r, runF D 0 (zof s) (k + 1) = r := ⟨_, rfl⟩
          have Hr := Lib.hid hr
          rw [hr] at hd
          rw [hr]
          clear hr
          have hd2 : (r == -1) = false := by rw [beq_eq_false_iff_ne]; exact hd
          clear hd
          go_wp2_with fail
          go_roundw
          case rel => exact ⟨k + 1, by omega, by rw [Hr.out], by go_num, HZ.out, HBn.out⟩
          case measure => simp [intOf]; omega
      exact AllReadyH.nil
    · have i1 : ¬ ((k : Int) < (m : Int)) := by omega
      have HZ : Hid (SuPost D (zof s) m w (.returned (.int .i64 ((m : Nat) : Int))) wr) := ⟨m, rfl, Or.inr ⟨rfl, fun j hj => HX.out.1 j (by omega)⟩, HFw.out _ HX.out.2⟩
      go_wp2_with fail
      go_ret
      exact HZ.out
end Go.Proofs.Ytjehgdjlncofeaa
