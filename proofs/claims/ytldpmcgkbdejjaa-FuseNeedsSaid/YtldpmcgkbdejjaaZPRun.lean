import Derived.Test.YtldpmcgkbdejjaaZTFrame
import Derived.BigQuiet
import Derived.Deep.QuietTactic
namespace Go.Proofs.Ytldpmcgkbdejjaa
open Go.RowKit Go.Maps Go.WideElems Go.ChangeMaps Go.MapKept
set_option linter.unusedVariables false
set_option linter.unusedSimpArgs false

set_option maxHeartbeats 1000000 in
set_option maxRecDepth 100000 in
theorem rstep8_any (D : Dd) (C : Nat) (hR : DR D C) (st : Int) (b : Nat) (hb : b < 256) (w : World) (hD : DM w D) :
    Calls Try.prog 72 #[.agg D.cD, .int .i64 st, .int .i64 ((b : Nat) : Int)] w fun e w' => e = .returned (.int .i64 (stepF D st b)) ∧ Below w.heap.size w w' := by
  have HB := Lib.hid (And.intro (DBx.new hD) (And.intro (al w (.cells D.cD 26)) hR))
  have hn2 := hR.n2
  have hC6 := (hR.c256 hD.kl).2
  clear hD hR
  go_enter Try.func72, Try.ntmps72
  go_upto_region 1 with fail
  generalize w.alloc (.cells D.cD 26) = W0 at HB ⊢
  obtain ⟨b0, hb0⟩ : ∃ b0, w.heap.size = b0 := ⟨_, rfl⟩
  have Hb0 := Lib.hid hb0
  rw [hb0] at HB
  rw [hb0]
  clear hb0
  have HF := Lib.hid (show Below w.heap.size w W0 by rw [Hb0.out]; exact HB.out.2.1)
  have k0 := HB.out.1.f0 b hb
  have hkl := HB.out.1.dm.kl b hb
  have hkc := HB.out.2.2.c.1 b hb
  have i0 : (b : Int) < 256 := by omega
  have f1 := HB.out.1.f1
  obtain ⟨kb, hkb⟩ : ∃ kb, D.K b = kb := ⟨_, rfl⟩
  have Hkb := Lib.hid hkb
  rw [hkb] at k0 hkl hkc
  clear hkb
  by_cases h0 : 0 ≤ st
  · obtain ⟨s, rfl⟩ : ∃ s : Nat, st = (s : Int) := ⟨st.toNat, by omega⟩
    by_cases hsn : s < D.n
    · have HV : Hid (stepF D ((s : Nat) : Int) b = D.nx s kb) := by
        show _ = _
        unfold stepF
        rw [if_pos (by omega), Hkb.out]
        rfl
      have hcell : Hid (∀ W', Below W0.heap.size W0 W' → ∃ gN oN gA oA cA, W'.cell? ⟨b0, 256, none⟩ = some (.slice (some ⟨gN, oN, none⟩) D.n D.cN) ∧ W'.cell? ⟨gN, oN + s, none⟩ = some (.slice (some ⟨gA, oA, none⟩) C cA) ∧ W'.cell? ⟨gA, oA + kb, none⟩ = some (.int .i64 (D.nx s kb)) ∧ W'.cell? ⟨b0, b, none⟩ = some (.int .u8 ((kb : Nat) : Int))) := fun W' h => by
        have hb9 := HB.out.1.keep h
        have f1 := hb9.f1
        obtain ⟨gN, oN, eN, hgN, cN, zN⟩ := hb9.dm.row s hsn
        rw [HB.out.2.2.len s hsn] at cN zN
        rw [eN] at f1
        obtain ⟨gA, oA, eA, _, cA0⟩ := zN (by omega)
        rw [eA] at cN
        have k0 := hb9.f0 b hb
        rw [Hkb.out] at k0
        exact ⟨gN, oN, gA, oA, _, f1, cN, cA0 kb hkc, k0⟩
      have i1 : (kb : Int) < (C : Int) := by omega
      have i2 : (s : Int) < (D.n : Int) := by omega
      have i3 : ¬ ((C : Int) ≤ (kb : Int)) := by omega
      have i4 : ¬ ((D.n : Int) ≤ (s : Int)) := by omega
      have i5 : ¬ ((s : Int) < 0) := by omega
      clear h0 f1 k0
      generalize D.nx s kb = r at hcell HV
      obtain ⟨gN, oN, gA, oA, cA, c1, c2, c3, c4⟩ := hcell.out W0 (Below.refl _ _)
      go_quiet (fail)
      go_wp2_with fail
      go_quiet (fail)
      go_wp2_with fail
      go_ret
      exact ⟨by rw [HV.out]; first | rfl | simp, below_drewN (below_drewN HF.out _) _⟩
    · have HV : Hid (stepF D ((s : Nat) : Int) b = -1) := by
        show _ = _
        unfold stepF
        rw [if_neg (by omega)]
      have i4 : (D.n : Int) ≤ (s : Int) := by omega
      have i5 : ¬ ((s : Int) < 0) := by omega
      clear h0
      go_quiet (fail)
      go_wp2_with fail
      go_ret
      exact ⟨by rw [HV.out]; first | rfl | simp, below_drewN HF.out _⟩
  · have HV : Hid (stepF D st b = -1) := by
      show _ = _
      unfold stepF
      rw [if_neg (by omega)]
    have i5 : st < 0 := by omega
    clear h0
    go_quiet (fail)
    go_wp2_with fail
    go_ret
    exact ⟨by rw [HV.out]; first | rfl | simp, below_drewN HF.out _⟩

set_option maxHeartbeats 2000000 in
set_option maxRecDepth 100000 in
theorem rrun8_any (D : Dd) (C : Nat) (hR : DR D C) (st : Int) (s : ByteArray) (m : Nat) (hs : s.size = m) (hm : m ≤ 1000000) (w : World) (hD : DM w D) :
    Calls Try.prog 68 #[.agg D.cD, .int .i64 st, .string s] w fun e w' => e = .returned (.int .i64 (runF D st (zof s) m)) ∧ Below w.heap.size w w' := by
  have HB := Lib.hid (And.intro (DBx.new hD) (And.intro (al w (.cells D.cD 26)) hR))
  have hss := hs
  have HS := Lib.hid hs
  clear hD hR hs
  go_enter Try.func68, Try.ntmps68
  go_upto_region 1 with fail
  generalize w.alloc (.cells D.cD 26) = W0 at HB ⊢
  obtain ⟨b0, hb0⟩ : ∃ b0, w.heap.size = b0 := ⟨_, rfl⟩
  have Hb0 := Lib.hid hb0
  rw [hb0] at HB
  rw [hb0]
  clear hb0
  go_wp2_with fail
  go_loopw [1, 7] (fun v1 v wr => ∃ (k : Nat), v = .int .i64 k ∧ k ≤ m ∧ v1 = .int .i64 (runF D st (zof s) k) ∧ Hid (Below W0.heap.size W0 wr)) (fun _ v _ => m - (intOf v).toNat)
  case atStart => exact ⟨0, rfl, by omega, rfl, Below.refl _ _⟩
  case round =>
    obtain ⟨k, rfl, hk, rfl, HX⟩ := hrel
    have HFw : Hid (∀ W', Below W0.heap.size W0 W' → Below w.heap.size w W') := fun W' h => by
      rw [Hb0.out]
      exact HB.out.2.1.trans (h.mono (by have := HB.out.2.1.size; have := Hb0.out; omega))
    by_cases hlt : k < m
    · have hks : k < s.size := by rw [hss]; exact hlt
      obtain ⟨bt, hbe⟩ : ∃ bt, (s[k]'hks).toNat = bt := ⟨_, rfl⟩
      have hbz := zof_at s k hks
      rw [hbe] at hbz
      have hbt : bt < 256 := by rw [hbz]; exact zof_lt s k
      have HSt : Hid (runF D st (zof s) (k + 1) = stepF D (runF D st (zof s) k) bt) := by show stepF D (runF D st (zof s) k) (zof s k) = _; rw [← hbz]
      have i1 : (k : Int) < (m : Int) := by omega
      generalize runF D st (zof s) k = a at HSt ⊢
      have HSo : Hid (∀ W', Below W0.heap.size W0 W' → Below W0.heap.size W0 W' ∧ DBx W' b0 D) := fun W' h => ⟨h, HB.out.1.keep h⟩
      clear hbz
      go_upto_region 4 with fail
      refine wp_region_held_drew (S := fun W' => Below W0.heap.size W0 W' ∧ DBx W' b0 D) (by kernel_rfl) (HSo.out _ HX.out.drew) (fun hHeld => ?_)
      (refine wpAnyH_take (i := 0) (oi := ?_) (v := .agg D.cD) ?_ (by kernel_rfl) (by kernel_rfl) (by kernel_rfl) ?_ (Or.inl ⟨?_, ?_⟩) (by assumption) ?_; rotate_left; (focus ((simp only [List.getElem?_toArray, List.getElem?_cons_zero]); first | done | rfl)); (focus (exact fun _ _ _ h => h)); (focus rfl); (focus (intro wz hSw; exact exec_load_any9 (o := _) (ρ := _) wz 26 (.tmp 3) rfl ⟨b0, 0, none⟩ rfl D.cD _ (DBx.st (And.right hSw)).part Try.underlying26 rfl (DBx.dm (And.right hSw)).info)); try simp only [Act.put, List.setIfInBounds_toArray, List.set_cons_zero, List.set_cons_succ])
      (refine wpAnyH_take (i := 1) (oi := ?_) (v := ?_) ?_ (by kernel_rfl) (by kernel_rfl) (by kernel_rfl) ?_ (Or.inl ⟨?_, ?_⟩) (by assumption) ?_; rotate_left 2; (focus ((simp only [List.getElem?_toArray, List.getElem?_cons_succ, List.getElem?_cons_zero]); first | done | rfl)); (focus (exact fun _ _ _ h => h)); (focus rfl); (focus (intro wz hSw; (try dsimp only at hSw); go_simp; first | done | with_reducible rfl)); try simp only [Act.put, List.setIfInBounds_toArray, List.set_cons_zero, List.set_cons_succ])
      (refine wpAnyH_take (i := 2) (oi := ?_) (v := ?_) ?_ (by kernel_rfl) (by kernel_rfl) (by kernel_rfl) ?_ (Or.inl ⟨?_, ?_⟩) (by assumption) ?_; rotate_left 2; (focus ((simp only [List.getElem?_toArray, List.getElem?_cons_succ, List.getElem?_cons_zero]); first | done | rfl)); (focus (exact fun _ _ _ h => h)); (focus rfl); (focus (intro wz hSw; (try dsimp only at hSw); go_simp; first | done | with_reducible rfl)); try simp only [Act.put, List.setIfInBounds_toArray, List.set_cons_zero, List.set_cons_succ])
      (refine wpAnyH_take (i := 3) (oi := ?_) (v := ?_) ?_ (by kernel_rfl) (by kernel_rfl) (by kernel_rfl) ?_ (Or.inl ⟨?_, ?_⟩) (by assumption) ?_; rotate_left 2; (focus ((simp only [List.getElem?_toArray, List.getElem?_cons_succ, List.getElem?_cons_zero]); first | done | rfl)); (focus (exact fun _ _ _ h => h)); (focus rfl); (focus (intro wz hSw; (try dsimp only at hSw); go_simp; first | done | with_reducible rfl)); try simp only [Act.put, List.setIfInBounds_toArray, List.set_cons_zero, List.set_cons_succ])
      (refine wpAnyH_take (i := 4) (oi := ?_) (v := ?_) ?_ (by kernel_rfl) (by kernel_rfl) (by kernel_rfl) ?_ (Or.inl ⟨?_, ?_⟩) (by assumption) ?_; rotate_left 2; (focus ((simp only [List.getElem?_toArray, List.getElem?_cons_succ, List.getElem?_cons_zero]); first | done | rfl)); (focus (exact fun _ _ _ h => h)); (focus rfl); (focus (intro wz hSw; (try dsimp only at hSw); go_simp; first | done | with_reducible rfl)); try simp only [Act.put, List.setIfInBounds_toArray, List.set_cons_zero, List.set_cons_succ])
      (refine wpAnyH_take (i := 5) (oi := ?_) (v := ?_) ?_ (by kernel_rfl) (by kernel_rfl) (by kernel_rfl) ?_ (Or.inl ⟨?_, ?_⟩) (by assumption) ?_; rotate_left 2; (focus ((simp only [List.getElem?_toArray, List.getElem?_cons_succ, List.getElem?_cons_zero]); first | done | rfl)); (focus (exact fun _ _ _ h => h)); (focus rfl); (focus (intro wz hSw; (try dsimp only at hSw); go_simp; first | done | with_reducible rfl)); try simp only [Act.put, List.setIfInBounds_toArray, List.set_cons_zero, List.set_cons_succ])
      refine wpAnyH_ready (rs := [6]) (by kernel_rfl) (by simp) ?_
      refine AllReadyH.cons (o := ?_) ?_ (fun K hK => ?_) ?_
      rotate_left
      (focus ((simp only [List.getElem?_toArray, List.getElem?_cons_succ, List.getElem?_cons_zero]); first | done | rfl))
      · skip
        go_simp
        go_at_call 72
        have hwr : IntKind.i64.wrap ((bt : Nat) : Int) = ((bt : Nat) : Int) := by rw [IntKind.wrap_i64]; omega
        rw [hwr]
        clear hwr
        refine (rstep8_any D C HB.out.2.2 a bt hbt _ hHeld.2.dm).mono ?_
        rintro e wj ⟨rfl, vj⟩
        have hbn : Below W0.heap.size W0 wj := hHeld.1.trans (vj.mono hHeld.1.size)
        clear vj
        try go_wp2_with fail
        refine hK.out _ _ (HSo.out _ hbn) (fun hHeld => ?_)
        clear hK K
        try simp only [Act.put, List.setIfInBounds_toArray, List.set_cons_zero, List.set_cons_succ]
        (refine wpAnyH_take (i := 7) (oi := ?_) (v := ?_) ?_ (by kernel_rfl) (by kernel_rfl) (by kernel_rfl) ?_ (Or.inl ⟨?_, ?_⟩) (by assumption) ?_; rotate_left 2; (focus ((simp only [List.getElem?_toArray, List.getElem?_cons_succ, List.getElem?_cons_zero]); first | done | rfl)); (focus (exact fun _ _ _ h => h)); (focus rfl); (focus (intro wz hSw; (try dsimp only at hSw); go_simp; first | done | with_reducible rfl)); try simp only [Act.put, List.setIfInBounds_toArray, List.set_cons_zero, List.set_cons_succ])
        refine wpAnyH_done (by kernel_rfl) ?_ _
        have HBn := Lib.hid hbn
        clear hHeld hbn
        go_wp2_with fail
        go_roundw
        case rel => exact ⟨k + 1, by go_num, by omega, by rw [HSt.out], HBn⟩
        case measure => simp [intOf]; omega
      exact AllReadyH.nil
    · obtain rfl : k = m := by omega
      have HF := Lib.hid (HFw.out wr HX.out)
      go_wp2_with fail
      go_ret
      exact ⟨rfl, HF.out⟩
end Go.Proofs.Ytldpmcgkbdejjaa
