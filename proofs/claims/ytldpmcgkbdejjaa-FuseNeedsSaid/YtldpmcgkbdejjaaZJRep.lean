import Derived.Test.YtldpmcgkbdejjaaZDBase
import Derived.Test.YtldpmcgkbdejjaaZNRClose
import Derived.Test.YtldpmcgkbdejjaaZTRefW
import Derived.LoopTactic
import Derived.Laws.CopyOwn
import Derived.Laws.BitsAllLaws
import Derived.IntWalk
import Derived.StillTailTactics
namespace Go.Proofs.Ytldpmcgkbdejjaa
open Go.RowKit Go.Maps Go.WideElems Go.ChangeMaps Go.MapKept
set_option linter.unusedVariables false
set_option linter.unusedSimpArgs false

theorem wrap_nat9 (x : Nat) (h : x < 18446744073709551616) : IntKind.u64.wrap (x : Int) = (x : Int) := by
  simp only [IntKind.wrap, IntKind.bits, IntKind.signed]
  simp
  omega
theorem and_mask9 (N : Nat) (hN : N < 4294967296) : bits .and .u64 ((N : Nat) : Int) 4294967295 = (N : Int) := by
  have h := u64_and_nat N 4294967295 (by omega) (by omega)
  have e : N &&& 4294967295 = N := by
    rw [show (4294967295 : Nat) = 2 ^ 32 - 1 from rfl, Nat.and_two_pow_sub_one_eq_mod, Nat.mod_eq_of_lt hN]
  rw [e] at h
  exact h

set_option maxHeartbeats 1000000 in
set_option maxRecDepth 100000 in
theorem mul64_one (N : Nat) (hN : N ≤ 100000) (w : World) : Calls Try.prog 53 #[.int .u64 1, .int .u64 ((N : Nat) : Int)] w fun e w' => e = .returned (.tuple #[.int .u64 0, .int .u64 ((N : Nat) : Int)]) ∧ w = w' := by
  have h1 : ((N : Nat) : Int) % 4294967296 = (N : Int) := by omega
  have h2 : ((N : Nat) : Int) / 4294967296 = 0 := by omega
  have h3 := and_mask9 N (by omega)
  have h4 : bits .and .u64 1 4294967295 = 1 := and_mask9 1 (by omega)
  have h5 : bits .and .u64 0 4294967295 = 0 := and_mask9 0 (by omega)
  have h6 : IntKind.u64.wrap ((N : Nat) : Int) = (N : Int) := wrap_nat9 N (by omega)
  have h7 : IntKind.u64.wrap 0 = 0 := by decide
  go_enter Try.func53, Try.ntmps53
  go_wp2_with fail
  go_ret2
  exact ⟨rfl, rfl⟩

set_option maxHeartbeats 1000000 in
set_option maxRecDepth 100000 in
theorem mul_one9 (N : Nat) (hN : N ≤ 100000) (w : World) : Calls Try.prog 34 #[.int .u64 1, .int .u64 ((N : Nat) : Int)] w fun e w' => e = .returned (.tuple #[.int .u64 0, .int .u64 ((N : Nat) : Int)]) ∧ w = w' := by
  have HM := Lib.hid (mul64_one N hN w)
  go_enter Try.func34, Try.ntmps34
  go_wp2_with fail
  refine HM.out.mono ?_
  rintro e w2 ⟨rfl, rfl⟩
  go_wp2_with fail
  go_ret2
  exact ⟨rfl, rfl⟩
end Go.Proofs.Ytldpmcgkbdejjaa

namespace Go.Proofs.Ytldpmcgkbdejjaa
open Go.RowKit Go.Maps Go.WideElems Go.ChangeMaps Go.MapKept
set_option linter.unusedVariables false
set_option linter.unusedSimpArgs false

def RepBP (N : Nat) (w : World) (e : Ending) (w' : World) : Prop :=
  ∃ g, e = .returned (.slice (some ⟨g, 0, none⟩) N N) ∧ OB w g N (fun _ => true) w'
/-- The first n are filled. -/
def repB (N n : Nat) : List Value := List.replicate n (.bool true) ++ List.replicate (N - n) (.bool false)
theorem repB_len (N n : Nat) (h : n ≤ N) : (repB N n).length = N := by simp [repB]; omega
theorem repB_splice (N n m : Nat) (h : n + m ≤ N) : splice (repB N n) n (List.replicate m (.bool true)) = repB N (n + m) := by
  unfold splice repB
  rw [List.take_append_of_le_length (by simp), List.take_of_length_le (by simp), List.length_replicate, List.drop_append]
  simp only [List.length_replicate, List.drop_replicate]
  rw [show n - (n + m) = 0 by omega, List.replicate_zero, List.nil_append, ← List.append_assoc, List.replicate_append_replicate, show N - n - (n + m - n) = N - (n + m) by omega]
theorem repB_zero (N : Nat) : repB N 0 = List.replicate N (.bool false) := by simp [repB]

set_option maxHeartbeats 2000000 in
set_option maxRecDepth 100000 in
theorem repeatB_any (N : Nat) (hN : N ≤ 100000) (g : Nat) (w : World) (hc : w.cell? ⟨g, 0, none⟩ = some (.bool true)) (hg : g < w.heap.size) :
    Calls Try.prog 18 #[.slice (some ⟨g, 0, none⟩) 1 1, .int .i64 ((N : Nat) : Int)] w (RepBP N w) := by
  have HM := Lib.hid (mul_one9 N hN w)
  have hm := make_bl N (by omega)
  have i1 : ¬ ((N : Int) < 0) := by omega
  have i2 : IntKind.u64.wrap ((N : Nat) : Int) = (N : Int) := wrap_nat9 N (by omega)
  have i3 : ¬ ((N : Int) > 9223372036854775807) := by omega
  have i4 : IntKind.i64.wrap ((N : Nat) : Int) = (N : Int) := IntWalk.i64_in _ (by omega)
  have i5 : IntKind.u64.wrap 1 = 1 := by decide
  have iI := Try.info_bool9
  go_enter Try.func18, Try.ntmps18
  go_wp2_with fail
  refine HM.out.mono ?_
  rintro e w2 ⟨rfl, rfl⟩
  go_upto_region 7 with fail
  have HG : Hid ((w.alloc (.cells (madeCells #[.bool false] N) 4)).heap[w.heap.size]? = some (.cells (List.replicate N (.bool false)).toArray 4 (0, 0)) ∧ Below w.heap.size w (w.alloc (.cells (madeCells #[.bool false] N) 4))) := by
    refine ⟨?_, al w _⟩
    have := (own_full (made_own w w.heap.size N 4 (.bool false) (Nat.le_refl _) (by unfold maxLen; omega))).1
    exact this
  have hc2 : (w.alloc (.cells (madeCells #[.bool false] N) 4)).cell? ⟨g, 0, none⟩ = some (.bool true) := ((al w _).cell (p := ⟨g, 0, none⟩) hg).trans hc
  obtain ⟨gN, hgN⟩ : ∃ gN, w.heap.size = gN := ⟨_, rfl⟩
  rw [hgN] at HG ⊢
  generalize w.alloc (.cells (madeCells #[.bool false] N) 4) = W1 at HG hc2 ⊢
  obtain ⟨q, hq⟩ : ∃ q, Nat.min 1 N = q := ⟨_, rfl⟩
  have hq1 : q ≤ 1 ∧ q ≤ N ∧ (0 < N → q = 1) := by rw [← hq]; exact ⟨Nat.min_le_left _ _, Nat.min_le_right _ _, fun h => Nat.min_eq_left h⟩
  have Hq := Lib.hid (And.intro hq hq1)
  have HgN := Lib.hid hgN
  clear hgN hm hc HM
  have hsrc : ∀ j v, (List.replicate q (Value.bool true))[j]? = some v → W1.cell? ((⟨g, 0, none⟩ : Addr).add j) = some v := fun j v hj => by
    have h1 := (List.getElem?_eq_some_iff.1 hj).1
    have : j = 0 := by
      rw [List.length_replicate] at h1
      omega
    subst this
    have h2 := (List.getElem?_eq_some_iff.1 hj).2
    rw [List.getElem_replicate] at h2
    rw [← h2]
    exact hc2
  have Hsrc := Lib.hid hsrc
  clear hsrc
  have hsz1 : (Try.prog.info? 4).map (·.size) = some 1 := by kernel_rfl
  have hP1 : 0 < (List.replicate q (Value.bool true)).length → (some ⟨gN, 0, none⟩ : Option Addr) = some ⟨gN, 0, none⟩ ∧ ∃ ad, (some ⟨g, 0, none⟩ : Option Addr) = some ad ∧ ∀ j v, (List.replicate q (Value.bool true))[j]? = some v → W1.cell? (ad.add j) = some v := fun _ => ⟨rfl, ⟨g, 0, none⟩, rfl, Hsrc.out⟩
  have hP2 : 0 + (List.replicate q (Value.bool true)).length ≤ (List.replicate N (Value.bool false)).length := by rw [List.length_replicate, List.length_replicate]; omega
  have hP3 : ∀ v ∈ (List.replicate q (Value.bool true)), v.oneCell' = true := by intro v hv; rw [List.eq_of_mem_replicate hv]; rfl
  have HP := Lib.hid (And.intro hP1 (And.intro hP2 (And.intro hP3 (show (List.replicate q (Value.bool true)).length = Nat.min 1 N from by rw [List.length_replicate, hq]))))
  clear hP1 hP2 hP3 hq hq1
  go_wp2_with (refine wpList_copy_splice rfl _ _ _ _ rfl 4 Try.underlying31 hsz1 (some ⟨gN, 0, none⟩) (some ⟨g, 0, none⟩) N N 1 1 rfl rfl gN 0 (List.replicate N (.bool false)) 4 HG.out.1 (List.replicate q (Value.bool true)) HP.out.2.2.2 HP.out.1 HP.out.2.1 HP.out.2.2.1 gN w HG.out.2 (Nat.le_refl _) ?_)
  intro W2 hG2 hB2
  have H2 : Hid (W2.heap[gN]? = some (.cells (repB N q).toArray 4 (0, 0)) ∧ Below gN w W2) := by
    refine ⟨?_, hB2⟩
    have h := hG2.out
    rw [← repB_zero N, repB_splice N 0 q (by have := Hq.out.2; omega), Nat.zero_add] at h
    exact h
  clear hG2 hB2 HG hc2
  go_wp2_with fail
  go_loopw [8] (fun v wr => ∃ n : Nat, v = .int .i64 n ∧ Nat.min 1 N ≤ n ∧ n ≤ N ∧ Hid (wr.heap[gN]? = some (.cells (repB N n).toArray 4 (0, 0)) ∧ Below gN w wr)) (fun v _ => N - (intOf v).toNat)
  case atStart => exact ⟨q, rfl, by have := Hq.out; omega, Hq.out.2.2.1, H2.out⟩
  case round =>
    clear H2
    obtain ⟨n, rfl, hn1, hn, HL⟩ := hrel
    by_cases hlt : n < N
    · have hn1 : 1 ≤ n := by have := Hq.out.2.2.2 (by omega); have := Hq.out.1; omega
      have j1 : (n : Int) < (N : Int) := by omega
      have j2 : (n : Int) ≤ (N : Int) := by omega
      obtain ⟨m, hmm⟩ : ∃ m, min n (N - n) = m := ⟨_, rfl⟩
      have hm1 : 1 ≤ m ∧ n + m ≤ N ∧ m ≤ n := by omega
      have hmm2 : Nat.min n (N - n) = m := hmm
      have hP0 : (List.replicate m (Value.bool true)).length = Nat.min n (N - n) := by rw [List.length_replicate, hmm2]
      have hP1 : 0 < (List.replicate m (Value.bool true)).length → (some ⟨gN, n, none⟩ : Option Addr) = some ⟨gN, n, none⟩ ∧ ∃ ad, (some ⟨gN, 0, none⟩ : Option Addr) = some ad ∧ ∀ j v, (List.replicate m (Value.bool true))[j]? = some v → wr.drew.cell? (ad.add j) = some v := fun _ => ⟨rfl, ⟨gN, 0, none⟩, rfl, fun j v hj => by
        have hj2 : j < m := by simpa using (List.getElem?_eq_some_iff.1 hj).1
        have hv : v = .bool true := by
          have := (List.getElem?_eq_some_iff.1 hj).2
          simpa using this.symm
        have hc : wr.cell? ⟨gN, j, none⟩ = (repB N n).toArray[j]? := cell_of_row wr gN j _ _ _ HL.out.1
        have e : (⟨gN, 0, none⟩ : Addr).add j = ⟨gN, j, none⟩ := by unfold Addr.add; split <;> simp_all
        rw [e]
        show wr.cell? ⟨gN, j, none⟩ = some v
        rw [hc, hv]
        simp [repB, List.getElem?_append, show j < n by omega]⟩
      have hP2 : n + (List.replicate m (Value.bool true)).length ≤ (repB N n).length := by rw [List.length_replicate, repB_len N n hn]; omega
      have hP3 : ∀ v ∈ List.replicate m (Value.bool true), v.oneCell' = true := by intro v hv; rw [List.eq_of_mem_replicate hv]; rfl
      have HP := Lib.hid (And.intro hP0 (And.intro hP1 (And.intro hP2 hP3)))
      have HG9 : Hid (wr.drew.heap[gN]? = some (.cells (repB N n).toArray 4 (0, 0)) ∧ Below gN w wr.drew) := ⟨HL.out.1, HL.out.2.drew⟩
      have HS : Hid (splice (repB N n) n (List.replicate m (Value.bool true)) = repB N (n + m)) := repB_splice N n m hm1.2.1
      have Hm := Lib.hid (And.intro hmm hm1)
      clear hP0 hP1 hP2 hP3 hmm hmm2 hm1
      have hne : ¬ (N = n) := by omega
      go_upto_region 9 with fail
      refine wp_region_held_drew (S := fun W' => Below gN w W') (by kernel_rfl) HG9.out.2 (fun hHeld => ?_)
      (refine wpAnyH_take (i := 0) (oi := ?_) (v := ?_) ?_ (by kernel_rfl) (by kernel_rfl) (by kernel_rfl) ?_ (Or.inl ⟨?_, ?_⟩) (by assumption) ?_; rotate_left 2; (focus ((simp only [List.getElem?_toArray, List.getElem?_cons_zero]); first | done | rfl)); (focus (exact fun _ _ _ h => h)); (focus rfl); (focus (intro wz hSw; (try dsimp only at hSw); go_simp; first | done | with_reducible rfl)); try simp only [Act.put, List.setIfInBounds_toArray, List.set_cons_zero, List.set_cons_succ])
      (refine wpAnyH_take (i := 1) (oi := ?_) (v := ?_) ?_ (by kernel_rfl) (by kernel_rfl) (by kernel_rfl) ?_ (Or.inl ⟨?_, ?_⟩) (by assumption) ?_; rotate_left 2; (focus ((simp only [List.getElem?_toArray, List.getElem?_cons_succ, List.getElem?_cons_zero]); first | done | rfl)); (focus (exact fun _ _ _ h => h)); (focus rfl); (focus (intro wz hSw; (try dsimp only at hSw); go_simp; first | done | with_reducible rfl)); try simp only [Act.put, List.setIfInBounds_toArray, List.set_cons_zero, List.set_cons_succ])
      (refine wpAnyH_take (i := 2) (oi := ?_) (v := ?_) ?_ (by kernel_rfl) (by kernel_rfl) (by kernel_rfl) ?_ (Or.inl ⟨?_, ?_⟩) (by assumption) ?_; rotate_left 2; (focus ((simp only [List.getElem?_toArray, List.getElem?_cons_succ, List.getElem?_cons_zero]); first | done | rfl)); (focus (exact fun _ _ _ h => h)); (focus rfl); (focus (intro wz hSw; (try dsimp only at hSw); go_simp; first | done | with_reducible rfl)); try simp only [Act.put, List.setIfInBounds_toArray, List.set_cons_zero, List.set_cons_succ])
      (refine wpAnyH_take (i := 3) (oi := ?_) (v := ?_) ?_ (by kernel_rfl) (by kernel_rfl) (by kernel_rfl) ?_ (Or.inl ⟨?_, ?_⟩) (by assumption) ?_; rotate_left 2; (focus ((simp only [List.getElem?_toArray, List.getElem?_cons_succ, List.getElem?_cons_zero]); first | done | rfl)); (focus (exact fun _ _ _ h => h)); (focus rfl); (focus (intro wz hSw; (try dsimp only at hSw); go_simp; first | done | with_reducible rfl)); try simp only [Act.put, List.setIfInBounds_toArray, List.set_cons_zero, List.set_cons_succ])
      (refine wpAnyH_take (i := 4) (oi := ?_) (v := ?_) ?_ (by kernel_rfl) (by kernel_rfl) (by kernel_rfl) ?_ (Or.inl ⟨?_, ?_⟩) (by assumption) ?_; rotate_left 2; (focus ((simp only [List.getElem?_toArray, List.getElem?_cons_succ, List.getElem?_cons_zero]); first | done | rfl)); (focus (exact fun _ _ _ h => h)); (focus rfl); (focus (intro wz hSw; (try dsimp only at hSw); go_simp; first | done | with_reducible rfl)); try simp only [Act.put, List.setIfInBounds_toArray, List.set_cons_zero, List.set_cons_succ])
      (refine wpAnyH_take (i := 5) (oi := ?_) (v := ?_) ?_ (by kernel_rfl) (by kernel_rfl) (by kernel_rfl) ?_ (Or.inl ⟨?_, ?_⟩) (by assumption) ?_; rotate_left 2; (focus ((simp only [List.getElem?_toArray, List.getElem?_cons_succ, List.getElem?_cons_zero]); first | done | rfl)); (focus (exact fun _ _ _ h => h)); (focus rfl); (focus (intro wz hSw; (try dsimp only at hSw); go_simp; first | done | with_reducible rfl)); try simp only [Act.put, List.setIfInBounds_toArray, List.set_cons_zero, List.set_cons_succ])
      (refine wpAnyH_take (i := 6) (oi := ?_) (v := ?_) ?_ (by kernel_rfl) (by kernel_rfl) (by kernel_rfl) ?_ (Or.inl ⟨?_, ?_⟩) (by assumption) ?_; rotate_left 2; (focus ((simp only [List.getElem?_toArray, List.getElem?_cons_succ, List.getElem?_cons_zero]); first | done | rfl)); (focus (exact fun _ _ _ h => h)); (focus rfl); (focus (intro wz hSw; (try dsimp only at hSw); go_simp; first | done | with_reducible rfl)); try simp only [Act.put, List.setIfInBounds_toArray, List.set_cons_zero, List.set_cons_succ])
      refine wpAnyH_ready (rs := [7]) (by kernel_rfl) (by simp) ?_
      refine AllReadyH.cons (o := ?_) ?_ (fun K hK => ?_) ?_
      rotate_left
      (focus ((simp only [List.getElem?_toArray, List.getElem?_cons_succ, List.getElem?_cons_zero]); first | done | rfl))
      · skip
        refine step_copy_splice (by rfl) _ _ _ _ (by rfl) 4 Try.underlying31 hsz1 (some ⟨gN, n, none⟩) (some ⟨gN, 0, none⟩) (N - n) (N - n) n N (by rfl) (by rfl) gN n (repB N n) 4 HG9.out.1 (List.replicate m (Value.bool true)) HP.out.1 HP.out.2.1 HP.out.2.2.1 HP.out.2.2.2 gN w HG9.out.2 (Nat.le_refl _) ?_
        intro W5 hG5 hB5
        have H5 : Hid (W5.heap[gN]? = some (.cells (repB N (n + m)).toArray 4 (0, 0)) ∧ Below gN w W5) := by
          have h := hG5.out
          rw [HS.out] at h
          exact ⟨h, hB5⟩
        have hlen : (List.replicate m (Value.bool true)).length = m := List.length_replicate
        rw [hlen]
        refine hK.out _ _ (hB5) (fun hHeld => ?_)
        clear hK K
        try simp only [Act.put, List.setIfInBounds_toArray, List.set_cons_zero, List.set_cons_succ]
        have w1 : (n : Int) + (m : Int) ≤ 100000 := by have := Hm.out.2; omega
        have w2 : IntKind.i64.wrap ((n : Int) + (m : Int)) = (n : Int) + (m : Int) := IntWalk.i64_in _ (by omega)
        (refine wpAnyH_take (i := 8) (oi := ?_) (v := ?_) ?_ (by kernel_rfl) (by kernel_rfl) (by kernel_rfl) ?_ (Or.inl ⟨?_, ?_⟩) (by assumption) ?_; rotate_left 2; (focus ((simp only [List.getElem?_toArray, List.getElem?_cons_succ, List.getElem?_cons_zero]); first | done | rfl)); (focus (exact fun _ _ _ h => h)); (focus rfl); (focus (intro wz hSw; (try dsimp only at hSw); go_simp; first | done | with_reducible rfl)); try simp only [Act.put, List.setIfInBounds_toArray, List.set_cons_zero, List.set_cons_succ])
        (refine wpAnyH_take (i := 9) (oi := ?_) (v := ?_) ?_ (by kernel_rfl) (by kernel_rfl) (by kernel_rfl) ?_ (Or.inl ⟨?_, ?_⟩) (by assumption) ?_; rotate_left 2; (focus ((simp only [List.getElem?_toArray, List.getElem?_cons_succ, List.getElem?_cons_zero]); first | done | rfl)); (focus (exact fun _ _ _ h => h)); (focus rfl); (focus (intro wz hSw; (try dsimp only at hSw); go_simp; first | done | with_reducible rfl)); try simp only [Act.put, List.setIfInBounds_toArray, List.set_cons_zero, List.set_cons_succ])
        refine wpAnyH_done (by kernel_rfl) ?_ _
        clear hG5 hB5 HG9 HP HL HS hHeld
        go_wp2_with fail
        go_roundw
        case rel => exact ⟨n + m, by go_num, by have := Hm.out.2; have := Hq.out; omega, by have := Hm.out.2; omega, H5.out⟩
        case measure => (have h8 := Hm.out.2; have h9 : ((n : Int) + (m : Int)).toNat = n + m := (by omega); simp [intOf]; omega)
      exact AllReadyH.nil
    · obtain rfl : n = N := by omega
      have HF : Hid (RepBP n w (.returned (.slice (some ⟨gN, 0, none⟩) n n)) wr) := by
        refine ⟨gN, rfl, ?_, by rw [HgN.out]; exact HL.out.2, by rw [HgN.out]; exact Nat.le_refl _⟩
        rw [HgN.out]
        have e : repB n n = bls (fun _ => true) n := by
          refine List.ext_getElem (by simp [repB, bls]) fun i h1 h2 => ?_
          simp [repB, bls]
        refine ⟨by simp [bls], Or.inr ⟨gN, n, _, rfl, Nat.le_refl _, HL.out.1, Nat.le_refl _, by unfold maxLen; omega, by simp [repB_len n n (Nat.le_refl _)], ?_⟩⟩
        rw [← e]
        simp [List.take_of_length_le, repB_len n n (Nat.le_refl _)]
      clear HL
      go_wp2_with fail
      go_ret
      exact HF.out
end Go.Proofs.Ytldpmcgkbdejjaa
