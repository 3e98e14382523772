import Derived.Test.YtgmcfgkjhobiaaaZMUniq
import Derived.Test.YtgmcfgkjhobiaaaZPApt
import Derived.Test.YtgmcfgkjhobiaaaZPRBlk
import Derived.Test.YtgmcfgkjhobiaaaZSClose
import Derived.BigQuiet
import Derived.Deep.QuietTactic
namespace Go.Proofs.Ytgmcfgkjhobiaaa
open Go.RowKit Go.Maps Go.WideElems Go.ChangeMaps Go.MapKept
set_option linter.unusedVariables false
set_option linter.unusedSimpArgs false

set_option maxHeartbeats 4000000 in
set_option maxRecDepth 100000 in
theorem apartness_yes (D : Dd) (C : Nat) (hR : DR D C) (hA1 : ∀ i k, i < D.n → k < i → ¬ Eqv C (tD D) (mD D) i k) (hA2 : 1 < D.n → ∀ i, i < D.n → ¬ Eqv C (tD D) (mD D) i D.n) (w : World) (hD : DM w D) :
    Calls Try.prog 17 #[.agg D.cD] w fun e w' => e = .returned (.bool true) ∧ Below w.heap.size w w' := by
  have HB := Lib.hid (And.intro (DBx.new hD) (And.intro (al w (.cells D.cD 26)) (And.intro hR (And.intro hA1 hA2))))
  have hn2 := hR.n2
  have hn1 := hR.n1
  clear hD hR hA1 hA2
  go_enter Try.func17, Try.ntmps17
  go_upto_region 1 with fail
  generalize w.alloc (.cells D.cD 26) = W0 at HB ⊢
  obtain ⟨b0, hb0⟩ : ∃ b0, w.heap.size = b0 := ⟨_, rfl⟩
  have Hb0 := Lib.hid hb0
  rw [hb0] at HB
  rw [hb0]
  have hb9 : b0 ≤ W0.heap.size := by have := HB.out.2.1.size; omega
  clear hb0
  have HAp := Lib.hid (rapart_any D C HB.out.2.2.1 W0 HB.out.1.dm)
  go_wp2_with (refine wpList_load_any9 (by rfl) 26 _ rfl ⟨b0, 0, none⟩ rfl D.cD _ HB.out.1.st.part Try.underlying26 rfl HB.out.1.dm.info ?_)
  refine HAp.out.mono ?_
  rintro e w1 ⟨vO, gs, A, rfl, hA, hEq⟩
  have H1 := Lib.hid (And.intro (HB.out.1.keep hA.bel) (HB.out.2.1.trans (hA.bel.mono hb9)))
  have hb1 : b0 ≤ w1.heap.size := by have := hA.bel.size; omega
  obtain ⟨gO, cO, rfl, _, _⟩ := hA.out (i := 0) (by omega)
  have HA := Lib.hid hA
  have HE := Lib.hid hEq
  have HFw : Hid (∀ W', Below w1.heap.size w1 W' → Below w.heap.size w W') := fun W' h => by
    rw [Hb0.out]
    exact H1.out.2.trans (h.mono hb1)
  obtain ⟨N, hN⟩ : ∃ N, D.n + 1 = N := ⟨_, rfl⟩
  have HN := Lib.hid hN
  have HC : Hid (∀ W', Below w1.heap.size w1 W' → ∀ i k, i < N → k < N → W'.cell? ⟨gO, i, none⟩ = some (.slice (some ⟨gs i, 0, none⟩) N N) ∧ W'.cell? ⟨gs i, k, none⟩ = some (.bool (A i k))) := fun W' h i k hi hk => by
    have h9 := HA.out.keep h
    rw [HN.out] at h9
    exact ⟨h9.cells hi, (h9.cell hi hk).1⟩
  have HF1 : Hid (∀ W', Below w1.heap.size w1 W' → W'.cell? ⟨b0, 256, none⟩ = some (.slice D.aN D.n D.cN)) := fun W' h => (H1.out.1.keep h).f1
  have hnN : D.n < N := by omega
  rw [hN]
  clear hA hEq HAp hN
  go_wp2_with fail
  go_loopw [4, 5] (fun v _ wr => ∃ (i : Nat), v = .int .i64 i ∧ i ≤ D.n ∧ Hid (Below w1.heap.size w1 wr)) (fun v _ _ => D.n - (intOf v).toNat)
  case atStart => exact ⟨0, rfl, by omega, Below.refl _ _⟩
  case round =>
    obtain ⟨i, rfl, hi, HL⟩ := hrel
    have f1 := HF1.out wr HL.out
    by_cases hlt : i < D.n
    · have i1 : (i : Int) < (D.n : Int) := by omega
      have i2 : (i : Int) < (N : Int) := by omega
      go_wp2_with fail
      go_loopw [5] (fun v wq => ∃ (k : Nat), v = .int .i64 k ∧ k ≤ i ∧ wq = wr) (fun v _ => i - (intOf v).toNat)
      case atStart => exact ⟨0, rfl, by omega, rfl⟩
      case round =>
        obtain ⟨k, rfl, hk, rfl⟩ := hrel
        by_cases hlk : k < i
        · obtain ⟨c1, c2⟩ := HC.out wr HL.out i k (by omega) (by omega)
          have hA : A i k = true := (HE.out i k (by have := HN.out; omega) (by have := HN.out; omega)).2 (HB.out.2.2.2.1 i k hlt hlk)
          rw [hA] at c2
          have i3 : (k : Int) < (i : Int) := by omega
          have i4 : (k : Int) < (N : Int) := by omega
          clear hA
          go_wp2_with fail
          go_roundw
          case rel => exact ⟨k + 1, by go_num, by omega, by first | trivial | rfl⟩
          case measure => simp [intOf]; omega
        · obtain rfl : k = i := by omega
          obtain ⟨c1, c2⟩ := HC.out wr HL.out k D.n (by omega) hnN
          have i4 : (D.n : Int) < (N : Int) := by omega
          cases hA : A k D.n
          · have hn : ¬ (1 < D.n) := fun h => by
              have := (HE.out k D.n (by omega) (by omega)).2 (HB.out.2.2.2.2 h k hlt)
              rw [hA] at this
              cases this
            rw [hA] at c2
            clear hA
            have i5 : ¬ ((1 : Int) < (D.n : Int)) := by omega
            go_wp2_with fail
            go_quiet (fail)
            rename_i nq
            have HL2 : Hid (Below w1.heap.size w1 (wr.drewN nq)) := below_drewN HL.out _
            go_wp2_with fail
            go_roundw
            case rel => exact ⟨k + 1, by go_num, by omega, HL2.out⟩
            case measure => simp [intOf]; omega
          · rw [hA] at c2
            clear hA
            go_wp2_with fail
            go_quiet (fail)
            rename_i nq
            have HL2 : Hid (Below w1.heap.size w1 (wr.drewN nq)) := below_drewN HL.out _
            go_wp2_with fail
            go_roundw
            case rel => exact ⟨k + 1, by go_num, by omega, HL2.out⟩
            case measure => simp [intOf]; omega
    · obtain rfl : i = D.n := by omega
      have HF := Lib.hid (HFw.out wr HL.out)
      go_wp2_with fail
      go_ret
      exact ⟨rfl, HF.out⟩
end Go.Proofs.Ytgmcfgkjhobiaaa

namespace Go.Proofs.Ytgmcfgkjhobiaaa
open Go.RowKit Go.Maps Go.WideElems Go.ChangeMaps Go.MapKept
set_option linter.unusedVariables false
set_option linter.unusedSimpArgs false

theorem cls_next {D : Dd} {C : Nat} (hN : Num (ColE D D.n) 256 D.K C) {b m : Nat} (hb : b < 256) (h1 : ∀ j, j < b → D.K j < m) (h2 : ∀ c, c < m → ∃ j, j < b ∧ D.K j = c) : D.K b ≤ m := by
  refine Nat.le_of_not_lt fun hlt => ?_
  have hC := hN.lt b hb
  obtain ⟨i, hi, e, h3⟩ := hN.new m (by omega)
  rcases Nat.lt_trichotomy i b with h | h | h
  · have := h1 i h; omega
  · subst h; omega
  · have := h3 b h; omega
theorem cls_apart {D : Dd} {C c k : Nat} (hR : DR D C) (hN : Num (ColE D D.n) 256 D.K C) (hc : c < C) (hk : k < c) : ¬ ∀ i, i < D.n → tD D i c = tD D i k := by
  intro h
  obtain ⟨a, ha, ea, _⟩ := hN.new c hc
  obtain ⟨b, hb, eb, _⟩ := hN.new k (by omega)
  have h2 := (hN.same a b ha hb).2 (fun i hi => by
    rw [ea, eb]
    have h3 := h i hi
    have x1 := hR.nx i c hi hc
    have x2 := hR.nx i k hi (by omega)
    unfold tD at h3
    split at h3 <;> split at h3 <;> omega)
  omega

set_option maxHeartbeats 4000000 in
set_option maxRecDepth 100000 in
theorem classes_yes (D : Dd) (C : Nat) (hR : DR D C) (hN : Num (ColE D D.n) 256 D.K C) (w : World) (hD : DM w D) :
    Calls Try.prog 18 #[.agg D.cD] w fun e w' => e = .returned (.bool true) ∧ Below w.heap.size w w' := by
  have HB := Lib.hid (And.intro (DBx.new hD) (And.intro (al w (.cells D.cD 26)) (And.intro hR hN)))
  have hn2 := hR.n2
  have hn1 := hR.n1
  have hC6 := (hR.c256 hD.kl).2
  clear hD hR hN
  go_enter Try.func18, Try.ntmps18
  go_upto_region 1 with fail
  generalize w.alloc (.cells D.cD 26) = W0 at HB ⊢
  obtain ⟨b0, hb0⟩ : ∃ b0, w.heap.size = b0 := ⟨_, rfl⟩
  have Hb0 := Lib.hid hb0
  rw [hb0] at HB
  rw [hb0]
  have hb9 : b0 ≤ W0.heap.size := by have := HB.out.2.1.size; omega
  clear hb0
  have HFw : Hid (∀ W', Below W0.heap.size W0 W' → Below w.heap.size w W') := fun W' h => by
    rw [Hb0.out]
    exact HB.out.2.1.trans (h.mono hb9)
  have HSo : Hid (∀ W', Below W0.heap.size W0 W' → Below W0.heap.size W0 W' ∧ DBx W' b0 D) := fun W' h => ⟨h, HB.out.1.keep h⟩
  go_wp2_with fail
  go_loopw [3, 4] (fun v3 v wr => ∃ (b m : Nat), v = .int .i64 b ∧ v3 = .int .i64 m ∧ b ≤ 256 ∧ m ≤ b ∧ W0 = wr ∧ Hid ((∀ j, j < b → D.K j < m) ∧ ∀ c, c < m → ∃ j, j < b ∧ D.K j = c)) (fun _ v _ => 256 - (intOf v).toNat)
  case atStart => exact ⟨0, 0, rfl, rfl, by omega, by omega, rfl, fun j hj => absurd hj (by omega), fun c hc => absurd hc (by omega)⟩
  case round =>
    obtain ⟨b, m, rfl, rfl, hb, hm, rfl, HI⟩ := hrel
    by_cases hlt : b < 256
    · have f0 := HB.out.1.f0 b hlt
      have hkk := HB.out.1.dm.kl b hlt
      have hle := cls_next HB.out.2.2.2 hlt HI.out.1 HI.out.2
      have i1 : (b : Int) < 256 := by omega
      have HS : Hid (D.K b < m → (∀ j, j < b + 1 → D.K j < m) ∧ ∀ c, c < m → ∃ j, j < b + 1 ∧ D.K j = c) := fun h => ⟨fun j hj => by
        by_cases e : j = b
        · subst e; exact h
        · exact HI.out.1 j (by omega), fun c hc => by
        obtain ⟨j, hj, e⟩ := HI.out.2 c hc
        exact ⟨j, by omega, e⟩⟩
      have HT : Hid (D.K b = m → (∀ j, j < b + 1 → D.K j < m + 1) ∧ ∀ c, c < m + 1 → ∃ j, j < b + 1 ∧ D.K j = c) := fun h => ⟨fun j hj => by
        by_cases e : j = b
        · subst e; omega
        · have := HI.out.1 j (by omega); omega, fun c hc => by
        by_cases e : c = m
        · exact ⟨b, by omega, by omega⟩
        · obtain ⟨j, hj, e⟩ := HI.out.2 c (by omega)
          exact ⟨j, by omega, e⟩⟩
      clear HI
      generalize D.K b = y at f0 hkk hle HS HT
      have i2 : ¬ ((m : Int) < (y : Int)) := by omega
      by_cases e : y = m
      · have HZ := Lib.hid (HT.out e)
        subst e
        clear HS HT
        go_wp2_with fail
        go_roundw
        case rel => exact ⟨b + 1, y + 1, by go_num, by go_num, by omega, by omega, by first | trivial | rfl, HZ⟩
        case measure => simp [intOf]; omega
      · have HZ := Lib.hid (HS.out (by omega))
        have i3 : ¬ ((y : Int) = (m : Int)) := by omega
        clear HS HT
        go_wp2_with fail
        go_roundw
        case rel => exact ⟨b + 1, m, by go_num, rfl, by omega, by omega, by first | trivial | rfl, HZ⟩
        case measure => simp [intOf]; omega
    · obtain rfl : b = 256 := by omega
      obtain rfl : m = C := by
        obtain ⟨j, hj, e⟩ := HB.out.2.2.1.c.2
        have h1 := HI.out.1 j hj
        refine Nat.le_antisymm (Nat.le_of_not_lt fun h => ?_) (by omega)
        obtain ⟨j2, hj2, e2⟩ := HI.out.2 C h
        have := HB.out.2.2.1.c.1 j2 hj2
        omega
      clear HI hlt
      go_wp2_with fail
      rw [show ((256 : Nat) : Int) = 256 from rfl]
      go_loopw [5, 6, 7, 8] (fun v _ _ _ wr => ∃ (c : Nat), v = .int .i64 c ∧ c ≤ m ∧ Hid (Below W0.heap.size W0 wr)) (fun v _ _ _ _ => m - (intOf v).toNat)
      case atStart => exact ⟨0, rfl, by omega, Below.refl _ _⟩
      case round =>
        obtain ⟨c, rfl, hc, HL⟩ := hrel
        by_cases hlc : c < m
        · have i1 : (c : Int) < (m : Int) := by omega
          go_wp2_with fail
          go_loopw [6, 7, 8] (fun v _ _ wq => ∃ (k : Nat), v = .int .i64 k ∧ k ≤ c ∧ Hid (Below W0.heap.size W0 wq)) (fun v _ _ _ => c - (intOf v).toNat)
          case atStart => exact ⟨0, rfl, by omega, HL.out⟩
          case round =>
            clear HL
            obtain ⟨k, rfl, hk, HL⟩ := hrel
            by_cases hlk : k < c
            · have i2 : (k : Int) < (c : Int) := by omega
              have HAp := Lib.hid (cls_apart HB.out.2.2.1 HB.out.2.2.2 hlc hlk)
              go_wp2_with fail
              go_loopw [7, 8] (fun v7 v wq => ∃ (i : Nat) (s : Bool), v = .int .i64 i ∧ v7 = .bool s ∧ i ≤ D.n ∧ Hid (Below W0.heap.size W0 wq) ∧ Hid (s = true ↔ ∀ i', i' < i → tD D i' c = tD D i' k)) (fun _ v _ => D.n - (intOf v).toNat)
              case atStart => exact ⟨0, true, rfl, rfl, by omega, HL.out, ⟨fun _ i' hi' => absurd hi' (by omega), fun _ => rfl⟩⟩
              case round =>
                clear HL
                obtain ⟨i, s, rfl, rfl, hi, HL, HS⟩ := hrel
                have f1 := (HSo.out wr HL.out).2.f1
                by_cases hli : i < D.n
                · have i3 : (i : Int) < (D.n : Int) := by omega
                  have i4 : i ≤ D.n := hi
                  cases s
                  · have HN : Hid (false = true ↔ ∀ i', i' < i + 1 → tD D i' c = tD D i' k) := ⟨fun h => (by cases h), fun h => HS.out.2 (fun i' hi' => h i' (by omega))⟩
                    go_upto_region 19 with fail
                    clear f1
                    refine wp_region_held_drew (S := fun W' => Below W0.heap.size W0 W' ∧ DBx W' b0 D) (by kernel_rfl) (HSo.out _ HL.out.drew) (fun hHeld => ?_)
                    (refine wpAnyH_take (i := 0) (oi := ?_) (v := ?_) ?_ (by kernel_rfl) (by kernel_rfl) (by kernel_rfl) ?_ (Or.inl ⟨?_, ?_⟩) (by assumption) ?_; rotate_left 2; (focus ((simp only [List.getElem?_toArray, List.getElem?_cons_zero]); first | done | rfl)); (focus (exact fun _ _ _ h => h)); (focus rfl); (focus (intro wz hSw; (try dsimp only at hSw); go_simp; first | done | with_reducible rfl)); try simp only [Act.put, List.setIfInBounds_toArray, List.set_cons_zero, List.set_cons_succ])
                    (refine wpAnyH_take (i := 1) (oi := ?_) (v := ?_) ?_ (by kernel_rfl) (by kernel_rfl) (by kernel_rfl) ?_ (Or.inl ⟨?_, ?_⟩) (by assumption) ?_; rotate_left 2; (focus ((simp only [List.getElem?_toArray, List.getElem?_cons_succ, List.getElem?_cons_zero]); first | done | rfl)); (focus (exact fun _ _ _ h => h)); (focus rfl); (focus (intro wz hSw; (try dsimp only at hSw); go_simp; first | done | with_reducible rfl)); try simp only [Act.put, List.setIfInBounds_toArray, List.set_cons_zero, List.set_cons_succ])
                    (refine wpAnyH_take (i := 2) (oi := ?_) (v := undef) ?_ (by kernel_rfl) (by kernel_rfl) (by kernel_rfl) ?_ (Or.inr ⟨?_, rfl⟩) (by assumption) ?_; rotate_left; (focus ((simp only [List.getElem?_toArray, List.getElem?_cons_succ, List.getElem?_cons_zero]); first | done | rfl)); (focus (exact fun _ _ _ h => h)); (focus (first | rfl | kernel_rfl | (simp [Region.wanted, yielded]; done))); try simp only [Act.put, List.setIfInBounds_toArray, List.set_cons_zero, List.set_cons_succ])
                    (refine wpAnyH_take (i := 3) (oi := ?_) (v := undef) ?_ (by kernel_rfl) (by kernel_rfl) (by kernel_rfl) ?_ (Or.inr ⟨?_, rfl⟩) (by assumption) ?_; rotate_left; (focus ((simp only [List.getElem?_toArray, List.getElem?_cons_succ, List.getElem?_cons_zero]); first | done | rfl)); (focus (exact fun _ _ _ h => h)); (focus (first | rfl | kernel_rfl | (simp [Region.wanted, yielded]; done))); try simp only [Act.put, List.setIfInBounds_toArray, List.set_cons_zero, List.set_cons_succ])
                    (refine wpAnyH_take (i := 4) (oi := ?_) (v := undef) ?_ (by kernel_rfl) (by kernel_rfl) (by kernel_rfl) ?_ (Or.inr ⟨?_, rfl⟩) (by assumption) ?_; rotate_left; (focus ((simp only [List.getElem?_toArray, List.getElem?_cons_succ, List.getElem?_cons_zero]); first | done | rfl)); (focus (exact fun _ _ _ h => h)); (focus (first | rfl | kernel_rfl | (simp [Region.wanted, yielded]; done))); try simp only [Act.put, List.setIfInBounds_toArray, List.set_cons_zero, List.set_cons_succ])
                    (refine wpAnyH_take (i := 5) (oi := ?_) (v := undef) ?_ (by kernel_rfl) (by kernel_rfl) (by kernel_rfl) ?_ (Or.inr ⟨?_, rfl⟩) (by assumption) ?_; rotate_left; (focus ((simp only [List.getElem?_toArray, List.getElem?_cons_succ, List.getElem?_cons_zero]); first | done | rfl)); (focus (exact fun _ _ _ h => h)); (focus (first | rfl | kernel_rfl | (simp [Region.wanted, yielded]; done))); try simp only [Act.put, List.setIfInBounds_toArray, List.set_cons_zero, List.set_cons_succ])
                    (refine wpAnyH_take (i := 6) (oi := ?_) (v := undef) ?_ (by kernel_rfl) (by kernel_rfl) (by kernel_rfl) ?_ (Or.inr ⟨?_, rfl⟩) (by assumption) ?_; rotate_left; (focus ((simp only [List.getElem?_toArray, List.getElem?_cons_succ, List.getElem?_cons_zero]); first | done | rfl)); (focus (exact fun _ _ _ h => h)); (focus (first | rfl | kernel_rfl | (simp [Region.wanted, yielded]; done))); try simp only [Act.put, List.setIfInBounds_toArray, List.set_cons_zero, List.set_cons_succ])
                    (refine wpAnyH_take (i := 7) (oi := ?_) (v := undef) ?_ (by kernel_rfl) (by kernel_rfl) (by kernel_rfl) ?_ (Or.inr ⟨?_, rfl⟩) (by assumption) ?_; rotate_left; (focus ((simp only [List.getElem?_toArray, List.getElem?_cons_succ, List.getElem?_cons_zero]); first | done | rfl)); (focus (exact fun _ _ _ h => h)); (focus (first | rfl | kernel_rfl | (simp [Region.wanted, yielded]; done))); try simp only [Act.put, List.setIfInBounds_toArray, List.set_cons_zero, List.set_cons_succ])
                    (refine wpAnyH_take (i := 8) (oi := ?_) (v := undef) ?_ (by kernel_rfl) (by kernel_rfl) (by kernel_rfl) ?_ (Or.inr ⟨?_, rfl⟩) (by assumption) ?_; rotate_left; (focus ((simp only [List.getElem?_toArray, List.getElem?_cons_succ, List.getElem?_cons_zero]); first | done | rfl)); (focus (exact fun _ _ _ h => h)); (focus (first | rfl | kernel_rfl | (simp [Region.wanted, yielded]; done))); try simp only [Act.put, List.setIfInBounds_toArray, List.set_cons_zero, List.set_cons_succ])
                    (refine wpAnyH_take (i := 9) (oi := ?_) (v := undef) ?_ (by kernel_rfl) (by kernel_rfl) (by kernel_rfl) ?_ (Or.inr ⟨?_, rfl⟩) (by assumption) ?_; rotate_left; (focus ((simp only [List.getElem?_toArray, List.getElem?_cons_succ, List.getElem?_cons_zero]); first | done | rfl)); (focus (exact fun _ _ _ h => h)); (focus (first | rfl | kernel_rfl | (simp [Region.wanted, yielded]; done))); try simp only [Act.put, List.setIfInBounds_toArray, List.set_cons_zero, List.set_cons_succ])
                    (refine wpAnyH_take (i := 10) (oi := ?_) (v := undef) ?_ (by kernel_rfl) (by kernel_rfl) (by kernel_rfl) ?_ (Or.inr ⟨?_, rfl⟩) (by assumption) ?_; rotate_left; (focus ((simp only [List.getElem?_toArray, List.getElem?_cons_succ, List.getElem?_cons_zero]); first | done | rfl)); (focus (exact fun _ _ _ h => h)); (focus (first | rfl | kernel_rfl | (simp [Region.wanted, yielded]; done))); try simp only [Act.put, List.setIfInBounds_toArray, List.set_cons_zero, List.set_cons_succ])
                    (refine wpAnyH_take (i := 11) (oi := ?_) (v := ?_) ?_ (by kernel_rfl) (by kernel_rfl) (by kernel_rfl) ?_ (Or.inl ⟨?_, ?_⟩) (by assumption) ?_; rotate_left 2; (focus ((simp only [List.getElem?_toArray, List.getElem?_cons_succ, List.getElem?_cons_zero]); first | done | rfl)); (focus (exact fun _ _ _ h => h)); (focus rfl); (focus (intro wz hSw; (try dsimp only at hSw); go_simp; first | done | with_reducible rfl)); try simp only [Act.put, List.setIfInBounds_toArray, List.set_cons_zero, List.set_cons_succ])
                    (refine wpAnyH_take (i := 12) (oi := ?_) (v := ?_) ?_ (by kernel_rfl) (by kernel_rfl) (by kernel_rfl) ?_ (Or.inl ⟨?_, ?_⟩) (by assumption) ?_; rotate_left 2; (focus ((simp only [List.getElem?_toArray, List.getElem?_cons_succ, List.getElem?_cons_zero]); first | done | rfl)); (focus (exact fun _ _ _ h => h)); (focus rfl); (focus (intro wz hSw; (try dsimp only at hSw); go_simp; first | done | with_reducible rfl)); try simp only [Act.put, List.setIfInBounds_toArray, List.set_cons_zero, List.set_cons_succ])
                    refine wpAnyH_done (by kernel_rfl) ?_ _
                    have HL9 := Lib.hid hHeld.1
                    clear hHeld
                    go_wp2_with fail
                    go_roundw
                    case rel => exact ⟨i + 1, _, by go_num, rfl, by omega, HL9.out, HN.out⟩
                    case measure => simp [intOf]; omega
                  · have HN : Hid ((decide (((tD D i c : Nat) : Int) = ((tD D i k : Nat) : Int))) = true ↔ ∀ i', i' < i + 1 → tD D i' c = tD D i' k) := ⟨fun h i' hi' => by
                      by_cases e : i' = i
                      · subst e; have := of_decide_eq_true h; omega
                      · exact HS.out.1 rfl i' (by omega), fun h => decide_eq_true (by rw [h i (by omega)])⟩
                    go_upto_region 19 with fail
                    clear f1
                    refine wp_region_held_drew (S := fun W' => Below W0.heap.size W0 W' ∧ DBx W' b0 D) (by kernel_rfl) (HSo.out _ HL.out.drew) (fun hHeld => ?_)
                    (refine wpAnyH_take (i := 0) (oi := ?_) (v := ?_) ?_ (by kernel_rfl) (by kernel_rfl) (by kernel_rfl) ?_ (Or.inl ⟨?_, ?_⟩) (by assumption) ?_; rotate_left 2; (focus ((simp only [List.getElem?_toArray, List.getElem?_cons_zero]); first | done | rfl)); (focus (exact fun _ _ _ h => h)); (focus rfl); (focus (intro wz hSw; (try dsimp only at hSw); go_simp; first | done | with_reducible rfl)); try simp only [Act.put, List.setIfInBounds_toArray, List.set_cons_zero, List.set_cons_succ])
                    (refine wpAnyH_take (i := 1) (oi := ?_) (v := ?_) ?_ (by kernel_rfl) (by kernel_rfl) (by kernel_rfl) ?_ (Or.inl ⟨?_, ?_⟩) (by assumption) ?_; rotate_left 2; (focus ((simp only [List.getElem?_toArray, List.getElem?_cons_succ, List.getElem?_cons_zero]); first | done | rfl)); (focus (exact fun _ _ _ h => h)); (focus rfl); (focus (intro wz hSw; (try dsimp only at hSw); go_simp; first | done | with_reducible rfl)); try simp only [Act.put, List.setIfInBounds_toArray, List.set_cons_zero, List.set_cons_succ])
                    (refine wpAnyH_take (i := 2) (oi := ?_) (v := .agg D.cD) ?_ (by kernel_rfl) (by kernel_rfl) (by kernel_rfl) ?_ (Or.inl ⟨?_, ?_⟩) (by assumption) ?_; rotate_left; (focus ((simp only [List.getElem?_toArray, List.getElem?_cons_succ, List.getElem?_cons_zero]); first | done | rfl)); (focus (exact fun _ _ _ h => h)); (focus rfl); (focus (intro wz hSw; exact exec_load_any9 (o := _) (ρ := _) wz 26 (.tmp 1) rfl ⟨b0, 0, none⟩ rfl D.cD _ (DBx.st (And.right hSw)).part Try.underlying26 rfl (DBx.dm (And.right hSw)).info)); try simp only [Act.put, List.setIfInBounds_toArray, List.set_cons_zero, List.set_cons_succ])
                    (refine wpAnyH_take (i := 3) (oi := ?_) (v := ?_) ?_ (by kernel_rfl) (by kernel_rfl) (by kernel_rfl) ?_ (Or.inl ⟨?_, ?_⟩) (by assumption) ?_; rotate_left 2; (focus ((simp only [List.getElem?_toArray, List.getElem?_cons_succ, List.getElem?_cons_zero]); first | done | rfl)); (focus (exact fun _ _ _ h => h)); (focus rfl); (focus (intro wz hSw; (try dsimp only at hSw); go_simp; first | done | with_reducible rfl)); try simp only [Act.put, List.setIfInBounds_toArray, List.set_cons_zero, List.set_cons_succ])
                    (refine wpAnyH_take (i := 4) (oi := ?_) (v := ?_) ?_ (by kernel_rfl) (by kernel_rfl) (by kernel_rfl) ?_ (Or.inl ⟨?_, ?_⟩) (by assumption) ?_; rotate_left 2; (focus ((simp only [List.getElem?_toArray, List.getElem?_cons_succ, List.getElem?_cons_zero]); first | done | rfl)); (focus (exact fun _ _ _ h => h)); (focus rfl); (focus (intro wz hSw; (try dsimp only at hSw); go_simp; first | done | with_reducible rfl)); try simp only [Act.put, List.setIfInBounds_toArray, List.set_cons_zero, List.set_cons_succ])
                    (refine wpAnyH_take (i := 6) (oi := ?_) (v := .agg D.cD) ?_ (by kernel_rfl) (by kernel_rfl) (by kernel_rfl) ?_ (Or.inl ⟨?_, ?_⟩) (by assumption) ?_; rotate_left; (focus ((simp only [List.getElem?_toArray, List.getElem?_cons_succ, List.getElem?_cons_zero]); first | done | rfl)); (focus (exact fun _ _ _ h => h)); (focus rfl); (focus (intro wz hSw; exact exec_load_any9 (o := _) (ρ := _) wz 26 (.tmp 1) rfl ⟨b0, 0, none⟩ rfl D.cD _ (DBx.st (And.right hSw)).part Try.underlying26 rfl (DBx.dm (And.right hSw)).info)); try simp only [Act.put, List.setIfInBounds_toArray, List.set_cons_zero, List.set_cons_succ])
                    (refine wpAnyH_take (i := 7) (oi := ?_) (v := ?_) ?_ (by kernel_rfl) (by kernel_rfl) (by kernel_rfl) ?_ (Or.inl ⟨?_, ?_⟩) (by assumption) ?_; rotate_left 2; (focus ((simp only [List.getElem?_toArray, List.getElem?_cons_succ, List.getElem?_cons_zero]); first | done | rfl)); (focus (exact fun _ _ _ h => h)); (focus rfl); (focus (intro wz hSw; (try dsimp only at hSw); go_simp; first | done | with_reducible rfl)); try simp only [Act.put, List.setIfInBounds_toArray, List.set_cons_zero, List.set_cons_succ])
                    (refine wpAnyH_take (i := 8) (oi := ?_) (v := ?_) ?_ (by kernel_rfl) (by kernel_rfl) (by kernel_rfl) ?_ (Or.inl ⟨?_, ?_⟩) (by assumption) ?_; rotate_left 2; (focus ((simp only [List.getElem?_toArray, List.getElem?_cons_succ, List.getElem?_cons_zero]); first | done | rfl)); (focus (exact fun _ _ _ h => h)); (focus rfl); (focus (intro wz hSw; (try dsimp only at hSw); go_simp; first | done | with_reducible rfl)); try simp only [Act.put, List.setIfInBounds_toArray, List.set_cons_zero, List.set_cons_succ])
                    refine wpAnyH_ready (rs := [5]) (by kernel_rfl) (by simp) ?_
                    refine AllReadyH.cons (o := ?_) ?_ (fun K hK => ?_) ?_
                    rotate_left
                    (focus ((simp only [List.getElem?_toArray, List.getElem?_cons_succ, List.getElem?_cons_zero]); first | done | rfl))
                    · skip
                      go_simp
                      go_at_call 37
                      refine (rto_any D m HB.out.2.2.1 i c hi (by omega) _ hHeld.2.dm).mono ?_
                      rintro e w5 ⟨rfl, vj⟩
                      have hbn : Below W0.heap.size W0 w5 := hHeld.1.trans (vj.mono hHeld.1.size)
                      clear vj
                      try go_wp2_with fail
                      refine hK.out _ _ (HSo.out _ hbn) (fun hHeld => ?_)
                      clear hK K
                      try simp only [Act.put, List.setIfInBounds_toArray, List.set_cons_zero, List.set_cons_succ]
                      clear hbn
                      refine wpAnyH_ready (rs := [9]) (by kernel_rfl) (by simp) ?_
                      refine AllReadyH.cons (o := ?_) ?_ (fun K hK => ?_) ?_
                      rotate_left
                      (focus ((simp only [List.getElem?_toArray, List.getElem?_cons_succ, List.getElem?_cons_zero]); first | done | rfl))
                      · skip
                        go_simp
                        go_at_call 37
                        refine (rto_any D m HB.out.2.2.1 i k hi (by omega) _ hHeld.2.dm).mono ?_
                        rintro e w9 ⟨rfl, vj⟩
                        have hbn : Below W0.heap.size W0 w9 := hHeld.1.trans (vj.mono hHeld.1.size)
                        clear vj
                        try go_wp2_with fail
                        refine hK.out _ _ (HSo.out _ hbn) (fun hHeld => ?_)
                        clear hK K
                        try simp only [Act.put, List.setIfInBounds_toArray, List.set_cons_zero, List.set_cons_succ]
                        clear hbn
                        (refine wpAnyH_take (i := 10) (oi := ?_) (v := ?_) ?_ (by kernel_rfl) (by kernel_rfl) (by kernel_rfl) ?_ (Or.inl ⟨?_, ?_⟩) (by assumption) ?_; rotate_left 2; (focus ((simp only [List.getElem?_toArray, List.getElem?_cons_succ, List.getElem?_cons_zero]); first | done | rfl)); (focus (exact fun _ _ _ h => h)); (focus rfl); (focus (intro wz hSw; (try dsimp only at hSw); go_simp; first | done | with_reducible rfl)); try simp only [Act.put, List.setIfInBounds_toArray, List.set_cons_zero, List.set_cons_succ])
                        (refine wpAnyH_take (i := 11) (oi := ?_) (v := ?_) ?_ (by kernel_rfl) (by kernel_rfl) (by kernel_rfl) ?_ (Or.inl ⟨?_, ?_⟩) (by assumption) ?_; rotate_left 2; (focus ((simp only [List.getElem?_toArray, List.getElem?_cons_succ, List.getElem?_cons_zero]); first | done | rfl)); (focus (exact fun _ _ _ h => h)); (focus rfl); (focus (intro wz hSw; (try dsimp only at hSw); go_simp; first | done | with_reducible rfl)); try simp only [Act.put, List.setIfInBounds_toArray, List.set_cons_zero, List.set_cons_succ])
                        (refine wpAnyH_take (i := 12) (oi := ?_) (v := ?_) ?_ (by kernel_rfl) (by kernel_rfl) (by kernel_rfl) ?_ (Or.inl ⟨?_, ?_⟩) (by assumption) ?_; rotate_left 2; (focus ((simp only [List.getElem?_toArray, List.getElem?_cons_succ, List.getElem?_cons_zero]); first | done | rfl)); (focus (exact fun _ _ _ h => h)); (focus rfl); (focus (intro wz hSw; (try dsimp only at hSw); go_simp; first | done | with_reducible rfl)); try simp only [Act.put, List.setIfInBounds_toArray, List.set_cons_zero, List.set_cons_succ])
                        refine wpAnyH_done (by kernel_rfl) ?_ _
                        have HL9 := Lib.hid hHeld.1
                        clear hHeld
                        go_wp2_with fail
                        go_roundw
                        case rel => exact ⟨i + 1, _, by go_num, rfl, by omega, HL9.out, HN.out⟩
                        case measure => simp [intOf]; omega
                      exact AllReadyH.nil
                    exact AllReadyH.nil
                · obtain rfl : i = D.n := by omega
                  cases s
                  · go_wp2_with fail
                    go_roundw
                    case rel => exact ⟨k + 1, by go_num, by omega, HL.out⟩
                    case measure => simp [intOf]; omega
                  · exact absurd (HS.out.1 rfl) HAp.out
            · obtain rfl : k = c := by omega
              go_wp2_with fail
              go_roundw
              case rel => exact ⟨k + 1, by go_num, by omega, HL.out⟩
              case measure => simp [intOf]; omega
        · obtain rfl : c = m := by omega
          have HF := Lib.hid (HFw.out wr HL.out)
          go_wp2_with fail
          go_ret
          exact ⟨rfl, HF.out⟩
end Go.Proofs.Ytgmcfgkjhobiaaa
