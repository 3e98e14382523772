import Derived.Test.YtohgbkajnhgnaaaZClasses
import Derived.Test.YtohgbkajnhgnaaaZLPairA
import Derived.Test.YtohgbkajnhgnaaaZPBy
namespace Go.Proofs.Ytohgbkajnhgnaaa
open Go.RowKit Go.Maps Go.WideElems Go.ChangeMaps Go.MapKept
set_option linter.unusedVariables false
set_option linter.unusedSimpArgs false

/-- A list of which the first k and the last k have changed places. -/
def revK (xs : List Nat) (k : Nat) : List Nat := (List.range xs.length).map fun x => if x < k ∨ xs.length - k ≤ x then xs.getD (xs.length - 1 - x) 0 else xs.getD x 0
theorem revK_len (xs : List Nat) (k : Nat) : (revK xs k).length = xs.length := by simp [revK]
theorem revK_at (xs : List Nat) (k x : Nat) (hx : x < xs.length) : (revK xs k)[x]? = some (if x < k ∨ xs.length - k ≤ x then xs.getD (xs.length - 1 - x) 0 else xs.getD x 0) := by simp [revK, hx]
theorem revK_zero (xs : List Nat) : revK xs 0 = xs := by
  apply List.ext_getElem?
  intro i
  by_cases h : i < xs.length
  · rw [revK_at xs 0 i h, if_neg (by omega), List.getElem?_eq_getElem h, List.getD_eq_getElem?_getD, List.getElem?_eq_getElem h]; rfl
  · rw [List.getElem?_eq_none (by rw [revK_len]; omega), List.getElem?_eq_none (by omega)]
theorem revK_all (xs : List Nat) (k : Nat) (h : xs.length ≤ 2 * k + 1) : revK xs k = xs.reverse := by
  apply List.ext_getElem?
  intro i
  by_cases hi : i < xs.length
  · rw [revK_at xs k i hi, List.getElem?_reverse hi]
    have e : xs[xs.length - 1 - i]? = some (xs.getD (xs.length - 1 - i) 0) := by
      rw [List.getD_eq_getElem?_getD, List.getElem?_eq_getElem (by omega)]; rfl
    rw [e]
    by_cases hc : i < k ∨ xs.length - k ≤ i
    · rw [if_pos hc]
    · rw [if_neg hc]
      have : xs.length - 1 - i = i := by omega
      rw [this]
  · rw [List.getElem?_eq_none (by rw [revK_len]; omega), List.getElem?_eq_none (by simp; omega)]
theorem revK_step (xs : List Nat) (k j : Nat) (hj : j + k + 1 = xs.length) (hk : k < j) : (((revK xs k).set k (xs.getD j 0)).set j (xs.getD k 0)) = revK xs (k + 1) := by
  apply List.ext_getElem?
  intro i
  by_cases hi : i < xs.length
  · rw [revK_at xs (k + 1) i hi, List.getElem?_set, List.getElem?_set]
    by_cases h1 : j = i
    · subst h1
      rw [if_pos rfl, if_pos (by rw [List.length_set, revK_len]; exact hi), if_pos (Or.inr (by omega)), show xs.length - 1 - j = k by omega]
    · rw [if_neg h1]
      by_cases h2 : k = i
      · subst h2
        rw [if_pos rfl, if_pos (by rw [revK_len]; exact hi), if_pos (Or.inl (by omega)), show xs.length - 1 - k = j by omega]
      · rw [if_neg h2, revK_at xs k i hi]
        by_cases hc : i < k ∨ xs.length - k ≤ i
        · rw [if_pos hc, if_pos (by omega)]
        · rw [if_neg hc, if_neg (by omega)]
  · rw [List.getElem?_eq_none (by rw [List.length_set, List.length_set, revK_len]; omega), List.getElem?_eq_none (by rw [revK_len]; omega)]
theorem u8s_at {l : List Nat} {i x : Nat} (h : l[i]? = some x) : (u8s l)[i]? = some (.int .u8 ((x : Nat) : Int)) := by simp [u8s, h]
theorem u8s_set (l : List Nat) (i x : Nat) : (u8s l).set i (.int .u8 ((x : Nat) : Int)) = u8s (l.set i x) := by simp [u8s, List.map_set]
/-- The row, as it is turned. -/
def RevR (B g n c : Nat) (W0 : World) (xs : List Nat) (w : World) : Prop := w.ownsRow B 5 1 (.slice (some ⟨g, 0, none⟩) n c) n (u8s xs) ∧ Below B W0 w
theorem RevR.cell {B g n c : Nat} {W0 w : World} {xs : List Nat} (h : RevR B g n c W0 xs w) (i x : Nat) (hi : i < n) (hx : xs[i]? = some x) : w.cell? ⟨g, i, none⟩ = some (.int .u8 ((x : Nat) : Int)) ∧ w.frozen? ⟨g, i, none⟩ = false := by
  obtain ⟨g', e', _, _, hc'⟩ := ownsRow_read h.1 (by omega)
  injection e' with e'
  injection e' with e' _
  subst e'
  obtain ⟨y0, y1⟩ := hc' i (by omega)
  exact ⟨by rw [y0, u8s_at hx], y1⟩
theorem RevR.drew {B g n c : Nat} {W0 w : World} {xs : List Nat} (h : RevR B g n c W0 xs w) : RevR B g n c W0 xs w.drew := ⟨ownsRow_keep h.1 (Below.refl _ _).drew, h.2.drew⟩
theorem RevR.put {B g n c : Nat} {W0 w : World} {xs : List Nat} (h : RevR B g n c W0 xs w) (hB : B ≤ g) (i x : Nat) (hi : i < n) : RevR B g n c W0 (xs.set i x) (w.setCell ⟨g, i, none⟩ (.int .u8 ((x : Nat) : Int))) :=
  ⟨by rw [← u8s_set]; exact own_put h.1 i hi _, h.2.setCell (p := ⟨g, i, none⟩) hB _⟩

set_option maxHeartbeats 1000000 in
set_option maxRecDepth 100000 in
theorem rev_any (B g n c : Nat) (xs : List Nat) (hn : xs.length = n) (hn1 : 1 ≤ n) (hn2 : n ≤ 1000000) (hB : B ≤ g) (w : World) (h : w.ownsRow B 5 1 (.slice (some ⟨g, 0, none⟩) n c) n (u8s xs)) :
    Calls Try.prog 48 #[.slice (some ⟨g, 0, none⟩) n c] w fun e w' => e = .returned (.tuple #[]) ∧ RevR B g n c w xs.reverse w' := by
  have H0 : Hid (RevR B g n c w (revK xs 0) w) := ⟨by rw [revK_zero]; exact h, Below.refl _ _⟩
  have Hn := Lib.hid hn
  clear h hn
  go_enter Try.func48, Try.ntmps48
  have w1 : IntKind.i64.wrap ((n : Int) - 1) = (n : Int) - 1 := IntWalk.i64_in _ (by omega)
  go_upto_region 1 with fail
  obtain ⟨jj, hjj⟩ : ∃ jj : Int, (n : Int) - 1 = jj := ⟨_, rfl⟩
  rw [hjj]
  clear w1
  go_loopw [2, 3] (fun v2 v3 wq => ∃ (k : Nat) (j : Int), v2 = .int .i64 k ∧ v3 = .int .i64 j ∧ j = (n : Int) - 1 - k ∧ 2 * k ≤ n ∧ Hid (RevR B g n c w (revK xs k) wq)) (fun v2 _ _ => n - (intOf v2).toNat)
  case atStart => exact ⟨0, jj, rfl, rfl, by omega, by omega, H0⟩
  case round =>
    clear H0 hjj
    obtain ⟨k, j, rfl, rfl, hj, hk, HA⟩ := hrel
    by_cases hlt : (k : Int) < j
    · obtain ⟨j, rfl⟩ : ∃ j2 : Nat, j = (j2 : Int) := ⟨j.toNat, by omega⟩
      have i0 : (k : Int) < (n : Int) := by omega
      have i1 : (j : Int) < (n : Int) := by omega
      have w2 : IntKind.i64.wrap ((j : Int) - 1) = (j : Int) - 1 := IntWalk.i64_in _ (by omega)
      have hkn : k < n := by omega
      have hjn : j < n := by omega
      have hkj : k < j := by omega
      have hsum : j + k + 1 = n := by omega
      have HD := Lib.hid HA.out.drew
      have HXk : Hid ((revK xs k)[k]? = some (xs.getD k 0) ∧ (revK xs k)[j]? = some (xs.getD j 0)) := by
        have hl := Hn.out
        exact ⟨by rw [revK_at xs k k (by omega), if_neg (by omega)], by rw [revK_at xs k j (by omega), if_neg (by omega)]⟩
      have HSt : Hid (((revK xs k).set k (xs.getD j 0)).set j (xs.getD k 0) = revK xs (k + 1)) := revK_step xs k j (by have := Hn.out; omega) hkj
      obtain ⟨xk, hxk⟩ : ∃ xk, xs.getD k 0 = xk := ⟨_, rfl⟩
      obtain ⟨xj, hxj⟩ : ∃ xj, xs.getD j 0 = xj := ⟨_, rfl⟩
      rw [hxk, hxj] at HXk HSt
      have HJ : Hid ((j : Int) = (n : Int) - 1 - k ∧ k < j) := ⟨hj, hkj⟩
      clear hj hsum hxk hxj
      go_upto_region 3 with fail
      refine wp_region_held_drew (S := fun _ => True) (by kernel_rfl) trivial (fun hHeld => ?_)
      (refine wpAnyH_take (i := 0) (oi := ?_) (v := ?_) ?_ (by kernel_rfl) (by kernel_rfl) (by kernel_rfl) ?_ (Or.inl ⟨?_, ?_⟩) (by assumption) ?_; rotate_left 2; (focus ((simp only [List.getElem?_toArray, List.getElem?_cons_zero]); first | done | rfl)); (focus (exact fun _ _ _ h => h)); (focus rfl); (focus (intro wz hSw; (try dsimp only at hSw); go_simp; first | done | with_reducible rfl)); try simp only [Act.put, List.setIfInBounds_toArray, List.set_cons_zero, List.set_cons_succ])
      (refine wpAnyH_take (i := 1) (oi := ?_) (v := ?_) ?_ (by kernel_rfl) (by kernel_rfl) (by kernel_rfl) ?_ (Or.inl ⟨?_, ?_⟩) (by assumption) ?_; rotate_left 2; (focus ((simp only [List.getElem?_toArray, List.getElem?_cons_succ, List.getElem?_cons_zero]); first | done | rfl)); (focus (exact fun _ _ _ h => h)); (focus rfl); (focus (intro wz hSw; (try dsimp only at hSw); go_simp; first | done | with_reducible rfl)); try simp only [Act.put, List.setIfInBounds_toArray, List.set_cons_zero, List.set_cons_succ])
      (refine wpAnyH_take (i := 2) (oi := ?_) (v := ?_) ?_ (by kernel_rfl) (by kernel_rfl) (by kernel_rfl) ?_ (Or.inl ⟨?_, ?_⟩) (by assumption) ?_; rotate_left 2; (focus ((simp only [List.getElem?_toArray, List.getElem?_cons_succ, List.getElem?_cons_zero]); first | done | rfl)); (focus (exact fun _ _ _ h => h)); (focus rfl); (focus (intro wz hSw; (try dsimp only at hSw); go_simp; first | done | with_reducible rfl)); try simp only [Act.put, List.setIfInBounds_toArray, List.set_cons_zero, List.set_cons_succ])
      (refine wpAnyH_take (i := 3) (oi := ?_) (v := ?_) ?_ (by kernel_rfl) (by kernel_rfl) (by kernel_rfl) ?_ (Or.inl ⟨?_, ?_⟩) (by assumption) ?_; rotate_left 2; (focus ((simp only [List.getElem?_toArray, List.getElem?_cons_succ, List.getElem?_cons_zero]); first | done | rfl)); (focus (exact fun _ _ _ h => h)); (focus rfl); (focus (intro wz hSw; (try dsimp only at hSw); go_simp; first | done | with_reducible rfl)); try simp only [Act.put, List.setIfInBounds_toArray, List.set_cons_zero, List.set_cons_succ])
      (refine wpAnyH_take (i := 4) (oi := ?_) (v := ?_) ?_ (by kernel_rfl) (by kernel_rfl) (by kernel_rfl) ?_ (Or.inl ⟨?_, ?_⟩) (by assumption) ?_; rotate_left 2; (focus ((simp only [List.getElem?_toArray, List.getElem?_cons_succ, List.getElem?_cons_zero]); first | done | rfl)); (focus (exact fun _ _ _ h => h)); (focus rfl); (focus (intro wz hSw; (try dsimp only at hSw); go_simp; first | done | with_reducible rfl)); try simp only [Act.put, List.setIfInBounds_toArray, List.set_cons_zero, List.set_cons_succ])
      (refine wpAnyH_take (i := 5) (oi := ?_) (v := ?_) ?_ (by kernel_rfl) (by kernel_rfl) (by kernel_rfl) ?_ (Or.inl ⟨?_, ?_⟩) (by assumption) ?_; rotate_left 2; (focus ((simp only [List.getElem?_toArray, List.getElem?_cons_succ, List.getElem?_cons_zero]); first | done | rfl)); (focus (exact fun _ _ _ h => h)); (focus rfl); (focus (intro wz hSw; (try dsimp only at hSw); go_simp; first | done | with_reducible rfl)); try simp only [Act.put, List.setIfInBounds_toArray, List.set_cons_zero, List.set_cons_succ])
      (refine wpAnyH_take (i := 6) (oi := ?_) (v := ?_) ?_ (by kernel_rfl) (by kernel_rfl) (by kernel_rfl) ?_ (Or.inl ⟨?_, ?_⟩) (by assumption) ?_; rotate_left 2; (focus ((simp only [List.getElem?_toArray, List.getElem?_cons_succ, List.getElem?_cons_zero]); first | done | rfl)); (focus (exact fun _ _ _ h => h)); (focus rfl); (focus (intro wz hSw; (try dsimp only at hSw); go_simp; first | done | with_reducible rfl)); try simp only [Act.put, List.setIfInBounds_toArray, List.set_cons_zero, List.set_cons_succ])
      (refine wpAnyH_take (i := 8) (oi := ?_) (v := ?_) ?_ (by kernel_rfl) (by kernel_rfl) (by kernel_rfl) ?_ (Or.inl ⟨?_, ?_⟩) (by assumption) ?_; rotate_left 2; (focus ((simp only [List.getElem?_toArray, List.getElem?_cons_succ, List.getElem?_cons_zero]); first | done | rfl)); (focus (exact fun _ _ _ h => h)); (focus rfl); (focus (intro wz hSw; (try dsimp only at hSw); go_simp; first | done | with_reducible rfl)); try simp only [Act.put, List.setIfInBounds_toArray, List.set_cons_zero, List.set_cons_succ])
      (refine wpAnyH_take (i := 9) (oi := ?_) (v := ?_) ?_ (by kernel_rfl) (by kernel_rfl) (by kernel_rfl) ?_ (Or.inl ⟨?_, ?_⟩) (by assumption) ?_; rotate_left 2; (focus ((simp only [List.getElem?_toArray, List.getElem?_cons_succ, List.getElem?_cons_zero]); first | done | rfl)); (focus (exact fun _ _ _ h => h)); (focus rfl); (focus (intro wz hSw; (try dsimp only at hSw); go_simp; first | done | with_reducible rfl)); try simp only [Act.put, List.setIfInBounds_toArray, List.set_cons_zero, List.set_cons_succ])
      (refine wpAnyH_take (i := 10) (oi := ?_) (v := ?_) ?_ (by kernel_rfl) (by kernel_rfl) (by kernel_rfl) ?_ (Or.inl ⟨?_, ?_⟩) (by assumption) ?_; rotate_left 2; (focus ((simp only [List.getElem?_toArray, List.getElem?_cons_succ, List.getElem?_cons_zero]); first | done | rfl)); (focus (exact fun _ _ _ h => h)); (focus rfl); (focus (intro wz hSw; (try dsimp only at hSw); go_simp; first | done | with_reducible rfl)); try simp only [Act.put, List.setIfInBounds_toArray, List.set_cons_zero, List.set_cons_succ])
      refine wpAnyH_ready (rs := [7, 11]) (by kernel_rfl) (by simp) ?_
      refine AllReadyH.cons (o := ?_) ?_ (fun K hK => ?_) ?_
      rotate_left
      (focus ((simp only [List.getElem?_toArray, List.getElem?_cons_succ, List.getElem?_cons_zero]); first | done | rfl))
      · skip
        obtain ⟨z0, z1⟩ := HD.out.cell j xj hjn HXk.out.2
        go_simp
        refine hK.out _ _ (trivial) (fun hHeld => ?_)
        clear hK K
        try simp only [Act.put, List.setIfInBounds_toArray, List.set_cons_zero, List.set_cons_succ]
        clear z0 z1
        refine wpAnyH_ready (rs := [11]) (by kernel_rfl) (by simp) ?_
        refine AllReadyH.cons (o := ?_) ?_ (fun K hK => ?_) ?_
        rotate_left
        (focus ((simp only [List.getElem?_toArray, List.getElem?_cons_succ, List.getElem?_cons_zero]); first | done | rfl))
        · skip
          obtain ⟨z0, z1⟩ := HD.out.cell k xk hkn HXk.out.1
          go_simp
          refine hK.out _ _ (trivial) (fun hHeld => ?_)
          clear hK K
          try simp only [Act.put, List.setIfInBounds_toArray, List.set_cons_zero, List.set_cons_succ]
          clear z0 z1
          (refine wpAnyH_take (i := 12) (oi := ?_) (v := ?_) ?_ (by kernel_rfl) (by kernel_rfl) (by kernel_rfl) ?_ (Or.inl ⟨?_, ?_⟩) (by assumption) ?_; rotate_left 2; (focus ((simp only [List.getElem?_toArray, List.getElem?_cons_succ, List.getElem?_cons_zero]); first | done | rfl)); (focus (exact fun _ _ _ h => h)); (focus rfl); (focus (intro wz hSw; (try dsimp only at hSw); go_simp; first | done | with_reducible rfl)); try simp only [Act.put, List.setIfInBounds_toArray, List.set_cons_zero, List.set_cons_succ])
          refine wpAnyH_ready (rs := [13]) (by kernel_rfl) (by simp) ?_
          refine AllReadyH.cons (o := ?_) ?_ (fun K hK => ?_) ?_
          rotate_left
          (focus ((simp only [List.getElem?_toArray, List.getElem?_cons_succ, List.getElem?_cons_zero]); first | done | rfl))
          · skip
            obtain ⟨z0, z1⟩ := HD.out.cell k xk hkn HXk.out.1
            go_simp
            have HE2 := Lib.hid (HA.out.put hB k xj hkn)
            have HD2 := Lib.hid HE2.out.drew
            refine hK.out _ _ (trivial) (fun hHeld => ?_)
            clear hK K
            try simp only [Act.put, List.setIfInBounds_toArray, List.set_cons_zero, List.set_cons_succ]
            clear z0 z1
            (refine wpAnyH_take (i := 14) (oi := ?_) (v := ?_) ?_ (by kernel_rfl) (by kernel_rfl) (by kernel_rfl) ?_ (Or.inl ⟨?_, ?_⟩) (by assumption) ?_; rotate_left 2; (focus ((simp only [List.getElem?_toArray, List.getElem?_cons_succ, List.getElem?_cons_zero]); first | done | rfl)); (focus (exact fun _ _ _ h => h)); (focus rfl); (focus (intro wz hSw; (try dsimp only at hSw); go_simp; first | done | with_reducible rfl)); try simp only [Act.put, List.setIfInBounds_toArray, List.set_cons_zero, List.set_cons_succ])
            refine wpAnyH_ready (rs := [15]) (by kernel_rfl) (by simp) ?_
            refine AllReadyH.cons (o := ?_) ?_ (fun K hK => ?_) ?_
            rotate_left
            (focus ((simp only [List.getElem?_toArray, List.getElem?_cons_succ, List.getElem?_cons_zero]); first | done | rfl))
            · skip
              obtain ⟨z0, z1⟩ := HD2.out.cell j xj hjn (by rw [List.getElem?_set_ne (by omega)]; exact HXk.out.2)
              go_simp
              have HD3 := Lib.hid (HE2.out.put hB j xk hjn).drew
              refine hK.out _ _ (trivial) (fun hHeld => ?_)
              clear hK K
              try simp only [Act.put, List.setIfInBounds_toArray, List.set_cons_zero, List.set_cons_succ]
              clear z0 z1
              refine wpAnyH_done (by kernel_rfl) ?_ _
              clear hHeld
              rw [HSt.out] at HD3
              go_wp2_with fail
              go_roundw
              case rel => exact ⟨k + 1, (j : Int) - 1, by go_num, by first | rfl | go_num, by have := HJ.out; omega, by have := HJ.out; omega, HD3⟩
              case measure => simp [intOf]; omega
            exact AllReadyH.nil
          exact AllReadyH.nil
        exact AllReadyH.nil
      refine AllReadyH.cons (o := ?_) ?_ (fun K hK => ?_) ?_
      rotate_left
      (focus ((simp only [List.getElem?_toArray, List.getElem?_cons_succ, List.getElem?_cons_zero]); first | done | rfl))
      · skip
        obtain ⟨z0, z1⟩ := HD.out.cell k xk hkn HXk.out.1
        go_simp
        refine hK.out _ _ (trivial) (fun hHeld => ?_)
        clear hK K
        try simp only [Act.put, List.setIfInBounds_toArray, List.set_cons_zero, List.set_cons_succ]
        clear z0 z1
        refine wpAnyH_ready (rs := [7]) (by kernel_rfl) (by simp) ?_
        refine AllReadyH.cons (o := ?_) ?_ (fun K hK => ?_) ?_
        rotate_left
        (focus ((simp only [List.getElem?_toArray, List.getElem?_cons_succ, List.getElem?_cons_zero]); first | done | rfl))
        · skip
          obtain ⟨z0, z1⟩ := HD.out.cell j xj hjn HXk.out.2
          go_simp
          refine hK.out _ _ (trivial) (fun hHeld => ?_)
          clear hK K
          try simp only [Act.put, List.setIfInBounds_toArray, List.set_cons_zero, List.set_cons_succ]
          clear z0 z1
          (refine wpAnyH_take (i := 12) (oi := ?_) (v := ?_) ?_ (by kernel_rfl) (by kernel_rfl) (by kernel_rfl) ?_ (Or.inl ⟨?_, ?_⟩) (by assumption) ?_; rotate_left 2; (focus ((simp only [List.getElem?_toArray, List.getElem?_cons_succ, List.getElem?_cons_zero]); first | done | rfl)); (focus (exact fun _ _ _ h => h)); (focus rfl); (focus (intro wz hSw; (try dsimp only at hSw); go_simp; first | done | with_reducible rfl)); try simp only [Act.put, List.setIfInBounds_toArray, List.set_cons_zero, List.set_cons_succ])
          refine wpAnyH_ready (rs := [13]) (by kernel_rfl) (by simp) ?_
          refine AllReadyH.cons (o := ?_) ?_ (fun K hK => ?_) ?_
          rotate_left
          (focus ((simp only [List.getElem?_toArray, List.getElem?_cons_succ, List.getElem?_cons_zero]); first | done | rfl))
          · skip
            obtain ⟨z0, z1⟩ := HD.out.cell k xk hkn HXk.out.1
            go_simp
            have HE2 := Lib.hid (HA.out.put hB k xj hkn)
            have HD2 := Lib.hid HE2.out.drew
            refine hK.out _ _ (trivial) (fun hHeld => ?_)
            clear hK K
            try simp only [Act.put, List.setIfInBounds_toArray, List.set_cons_zero, List.set_cons_succ]
            clear z0 z1
            (refine wpAnyH_take (i := 14) (oi := ?_) (v := ?_) ?_ (by kernel_rfl) (by kernel_rfl) (by kernel_rfl) ?_ (Or.inl ⟨?_, ?_⟩) (by assumption) ?_; rotate_left 2; (focus ((simp only [List.getElem?_toArray, List.getElem?_cons_succ, List.getElem?_cons_zero]); first | done | rfl)); (focus (exact fun _ _ _ h => h)); (focus rfl); (focus (intro wz hSw; (try dsimp only at hSw); go_simp; first | done | with_reducible rfl)); try simp only [Act.put, List.setIfInBounds_toArray, List.set_cons_zero, List.set_cons_succ])
            refine wpAnyH_ready (rs := [15]) (by kernel_rfl) (by simp) ?_
            refine AllReadyH.cons (o := ?_) ?_ (fun K hK => ?_) ?_
            rotate_left
            (focus ((simp only [List.getElem?_toArray, List.getElem?_cons_succ, List.getElem?_cons_zero]); first | done | rfl))
            · skip
              obtain ⟨z0, z1⟩ := HD2.out.cell j xj hjn (by rw [List.getElem?_set_ne (by omega)]; exact HXk.out.2)
              go_simp
              have HD3 := Lib.hid (HE2.out.put hB j xk hjn).drew
              refine hK.out _ _ (trivial) (fun hHeld => ?_)
              clear hK K
              try simp only [Act.put, List.setIfInBounds_toArray, List.set_cons_zero, List.set_cons_succ]
              clear z0 z1
              refine wpAnyH_done (by kernel_rfl) ?_ _
              clear hHeld
              rw [HSt.out] at HD3
              go_wp2_with fail
              go_roundw
              case rel => exact ⟨k + 1, (j : Int) - 1, by go_num, by first | rfl | go_num, by have := HJ.out; omega, by have := HJ.out; omega, HD3⟩
              case measure => simp [intOf]; omega
            exact AllReadyH.nil
          exact AllReadyH.nil
        exact AllReadyH.nil
      exact AllReadyH.nil
    · have hF : Hid (RevR B g n c w xs.reverse wr) := by
        have h := HA.out
        rw [revK_all xs k (by have := Hn.out; omega)] at h
        exact h
      clear hj hk HA
      go_wp2_with fail
      go_end0
      exact ⟨rfl, hF.out⟩
end Go.Proofs.Ytohgbkajnhgnaaa

namespace Go.Proofs.Ytohgbkajnhgnaaa
open Go.RowKit Go.Maps Go.WideElems Go.ChangeMaps Go.MapKept
set_option linter.unusedVariables false
set_option linter.unusedSimpArgs false

set_option maxHeartbeats 1000000 in
set_option maxRecDepth 100000 in
theorem rev_nil (a : Option Addr) (c : Nat) (w : World) :
    Calls Try.prog 48 #[.slice a 0 c] w fun e w' => e = .returned (.tuple #[]) ∧ w' = w := by
  go_enter Try.func48, Try.ntmps48
  go_upto_region 1 with fail
  go_loopw [2, 3] (fun v2 v3 wq => v2 = .int .i64 0 ∧ v3 = .int .i64 (-1) ∧ wq = w) (fun _ _ _ => 0)
  case atStart => exact ⟨rfl, by first | rfl | decide, rfl⟩
  case round =>
    obtain ⟨rfl, rfl, rfl⟩ := hrel
    go_wp2_with fail
    go_end0
    exact ⟨rfl, rfl⟩
theorem rev_all (B n c : Nat) (a : Option Addr) (xs : List Nat) (hn : xs.length = n) (hn2 : n ≤ 1000000) (w : World) (h : w.ownsRow B 5 1 (.slice a n c) n (u8s xs)) :
    Calls Try.prog 48 #[.slice a n c] w fun e w' => e = .returned (.tuple #[]) ∧ w'.ownsRow B 5 1 (.slice a n c) n (u8s xs.reverse) ∧ Below B w w' := by
  rcases Nat.eq_zero_or_pos n with h0 | h0
  · subst h0
    have hx : xs = [] := List.length_eq_zero_iff.1 hn
    subst hx
    refine (rev_nil a c w).mono ?_
    rintro e w' ⟨rfl, rfl⟩
    exact ⟨rfl, h, Below.refl _ _⟩
  · obtain ⟨g, rfl, hB, _, _⟩ := ownsRow_read h h0
    refine (rev_any B g n c xs hn h0 hn2 hB w h).mono ?_
    rintro e w' ⟨rfl, h1, h2⟩
    exact ⟨rfl, h1, h2⟩
/-! ### Ways -/
def wyv (x : Int × Nat) : Value := .agg #[.int .i64 x.1, .int .u8 ((x.2 : Nat) : Int)]
def WyQ (dom : List Nat) (f : Nat → Int × Nat) (key val : Value) : Prop := ∃ s : Nat, s ∈ dom ∧ key = .int .i64 ((s : Nat) : Int) ∧ val = wyv (f s)
theorem zero_way (w : World) : (zeroValue 53).run Try.prog w = .ok (wyv (0, 0)) w := by kernel_rfl
theorem way_look {w : World} {bM N : Nat} {dom : List Nat} {f : Nat → Int × Nat} (h : MapN w 3 bM N (WyQ dom f)) {s : Nat} (hs : s ∈ dom) (hb : s ≤ 1000000) : (Instr.lookup 54 (.map (some bM)) (.int .i64 ((s : Nat) : Int)) false).run Try.prog w = .ok (wyv (f s)) w := by
  rcases h.ex.look1 (t := 54) law_int9 Try.underlying54 (zero_way w) (int_key9 s (by omega)) with ⟨h1, h2⟩ | ⟨v, ⟨s', h2, e, rfl⟩, h1⟩
  · exact absurd ⟨s, hs, rfl, rfl⟩ (h2 (wyv (f s)))
  · obtain rfl := key_inj9 e
    exact h1
theorem way_look2 {w : World} {bM N : Nat} {dom : List Nat} {f : Nat → Int × Nat} (h : MapN w 3 bM N (WyQ dom f)) (x : Int) (hb : -1 ≤ x ∧ x ≤ 1000000) :
    ((∃ s : Nat, x = ((s : Nat) : Int) ∧ s ∈ dom ∧ (Instr.lookup 54 (.map (some bM)) (.int .i64 x) true).run Try.prog w = .ok (.tuple #[wyv (f s), .bool true]) w) ∨
    ((∀ s : Nat, x = ((s : Nat) : Int) → s ∉ dom) ∧ (Instr.lookup 54 (.map (some bM)) (.int .i64 x) true).run Try.prog w = .ok (.tuple #[wyv (0, 0), .bool false]) w)) := by
  rcases h.ex.look2 law_int9 Try.underlying54 (zero_way w) (int_key_z x (by omega)) with ⟨h1, h2⟩ | ⟨v, ⟨s', h2, e, rfl⟩, h1⟩
  · exact Or.inr ⟨fun s hs hm => h2 (wyv (f s)) ⟨s, hm, by rw [hs], rfl⟩, h1⟩
  · refine Or.inl ⟨s', ?_, h2, h1⟩
    injection e
/-- How a state was met. -/
inductive WPath (f : Nat → Int × Nat) (dom : List Nat) : Nat → List Nat → Prop
  | root (s : Nat) : s ∈ dom → (f s).1 = -1 → WPath f dom s []
  | step (s t : Nat) (l : List Nat) : t ∈ dom → (f t).1 = ((s : Nat) : Int) → (f t).2 < 256 → WPath f dom s l → WPath f dom t (l ++ [(f t).2])
theorem WPath.mem {f : Nat → Int × Nat} {dom : List Nat} {s : Nat} {l : List Nat} (h : WPath f dom s l) : s ∈ dom := by
  cases h with
  | root _ h1 _ => exact h1
  | step _ _ _ h1 _ _ _ => exact h1
def slLen : Value → Nat | .slice _ n _ => n | _ => 0
/-- What is so within spelled. -/
def SpI (W : World) (f : Nat → Int × Nat) (dom : List Nat) (bM N : Nat) (l : List Nat) (aL : Option Addr) (m cL g6 : Nat) (w : World) : Prop :=
  ∃ (s : Nat) (lc r : List Nat), WPath f dom s lc ∧ l = lc ++ r.reverse ∧ r.length = m ∧ w.ownsRow W.heap.size 5 1 (.slice aL m cL) m (u8s r) ∧ St w 53 g6 #[.int .i64 (f s).1, .int .u8 (((f s).2 : Nat) : Int)] ∧ W.heap.size ≤ g6 ∧ Below W.heap.size W w

set_option maxHeartbeats 2000000 in
set_option maxRecDepth 100000 in
theorem spelled_any (f : Nat → Int × Nat) (dom : List Nat) (hdom : ∀ s ∈ dom, s ≤ 1000000) (bM N : Nat) (w : World) (hM : MapN w 3 bM N (WyQ dom f)) (s : Nat) (l : List Nat) (hP : WPath f dom s l) (hl : l.length ≤ 100000) :
    Calls Try.prog 33 #[.map (some bM), .int .i64 ((s : Nat) : Int)] w fun e w' => e = .returned (.string (strOf l)) ∧ Below w.heap.size w w' := by
  have hlk := way_look hM hP.mem (hdom s hP.mem)
  obtain ⟨iU, hU, hU0, hU1, hU2⟩ := info_parts Try.info_u8
  have kb := al w (.cells #[.int .i64 (f s).1, .int .u8 (((f s).2 : Nat) : Int)] 53)
  have HM := Lib.hid (And.intro hM hdom)
  have HP := Lib.hid hP
  clear hM hP hdom
  unfold wyv at hlk
  go_enter Try.func33, Try.ntmps33
  go_upto_region 3 with fail
  have HI0 : Hid (SpI w f dom bM N l none 0 0 w.heap.size (w.alloc (.cells #[.int .i64 (f s).1, .int .u8 (((f s).2 : Nat) : Int)] 53))) :=
    ⟨s, l, [], HP.out, by simp, rfl, World.ownsRow_nil _ _ _ _, St.new _ _ _, Nat.le_refl _, kb⟩
  clear hlk kb
  generalize w.alloc (.cells #[.int .i64 (f s).1, .int .u8 (((f s).2 : Nat) : Int)] 53) = W1 at HI0 ⊢
  obtain ⟨b6, hb6⟩ : ∃ b6, w.heap.size = b6 := ⟨_, rfl⟩
  have HI1 : Hid (SpI w f dom bM N l none 0 0 b6 W1) := by rw [← hb6]; exact HI0
  rw [hb6]
  clear HI0 hb6
  go_loopw [5, 6] (fun v5 v6 wq => ∃ (aL : Option Addr) (m cL g6 : Nat), v5 = .slice aL m cL ∧ v6 = .pointer (some ⟨g6, 0, none⟩) ∧ Hid (SpI w f dom bM N l aL m cL g6 wq)) (fun v5 _ _ => l.length - slLen v5)
  case atStart => exact ⟨none, 0, 0, b6, rfl, rfl, HI1⟩
  case round =>
    clear HI1
    obtain ⟨aL, m, cL, g6, rfl, rfl, HA⟩ := hrel
    obtain ⟨s1, lc, r, hP1, hl1, hr1, ho, hS, hg6, hB⟩ := HA.out
    have hll : l.length = lc.length + m := by rw [hl1, List.length_append, List.length_reverse, hr1]
    have c0 := hS.at_ 0
    have c1 := hS.at_ 1
    have c0' : wr.cell? ⟨g6, 0, none⟩ = some (.int .i64 (f s1).1) := c0
    have c1' : wr.cell? ⟨g6, 1, none⟩ = some (.int .u8 (((f s1).2 : Nat) : Int)) := c1
    clear c0 c1
    have HS := Lib.hid (And.intro hS (And.intro hg6 (And.intro hB ho)))
    have HL := Lib.hid (And.intro hl1 hr1)
    clear HA
    cases hP1 with
    | root _ h1 h2 =>
      rw [h2] at c0'
      have hlr : l = r.reverse := by rw [hl1]; rfl
      have HRv := Lib.hid (rev_all w.heap.size m cL aL r hr1 (by omega) wr ho)
      have HLr := Lib.hid hlr
      clear hS hg6 ho hl1 hB hlr
      go_wp2_with fail
      refine HRv.out.mono ?_
      rintro e w9 ⟨rfl, ho9, hB9⟩
      have hcv := conv_any ho9 (by rw [List.length_reverse]; exact hr1.symm)
      have HF : Hid (Below w.heap.size w w9) := HS.out.2.2.1.trans hB9
      clear ho9 hB9 HRv
      go_wp2_with fail
      go_ret
      exact ⟨by rw [HLr.out]; rfl, HF.out⟩
    | step s2 _ l2 h1 h2 h3 h4 =>
      rw [h2] at c0'
      have h5 := h4.mem
      have hl3 : l2.length + (m + 1) = l.length := by rw [hll, List.length_append]; simp; omega
      have HSt : Hid (l = l2 ++ (r ++ [(f s1).2]).reverse) := by
        show l = _
        rw [hl1, List.reverse_append, List.append_assoc]
        rfl
      obtain ⟨b, hb⟩ : ∃ b, (f s1).2 = b := ⟨_, rfl⟩
      rw [hb] at c1' HSt
      have hne : ((s2 : Int) != (-1 : Int)) = true := by first | (simp; done) | (simp; omega)
      have k9 := al wr (.cells #[.int .u8 ((b : Nat) : Int)] 5)
      have hO := HS.out.2.2.2
      have hw9 : w.heap.size ≤ wr.heap.size := HS.out.2.2.1.size
      have Hbs := Lib.hid (And.intro h2 hb)
      clear hS hg6 ho hl1 hB hb h3 hll h2 h1
      go_wp2_with (at_builtin; refine wpList_append_own_at _ rfl _ _ 49 rfl w.heap.size 5 iU (.int .u8 0) 1 1 Try.underlying49 hU hU0 hU1 hU2 rfl (by decide) _ _ _ rfl (hO.alloc _) ⟨wr.heap.size, 0, none⟩ 1 1 [.int .u8 ((b : Nat) : Int)] rfl rfl (cell_one_new _ _ _) ?d2 ?d3 ?d4 ?d5 ?_)
      case d2 => first | (intro u hu; simp at hu; subst hu; rfl) | rfl
      case d3 => unfold maxLen; omega
      case d4 => omega
      case d5 => first | (simp; omega) | omega
      intro v' w5 hown5 hgrow5 _ hat5
      obtain ⟨a5, c5, rfl⟩ := ownsRow_slice hown5
      have hS5 := (HS.out.1.keep k9).grown_own (hO.alloc _) (by decide) hgrow5
      have hB5 : Below w.heap.size w w5 := below_grown_own (HS.out.2.2.1.trans (k9.mono hw9)) (hO.alloc _) (by simp; omega) hgrow5
      have hm5 := HM.out.1.same (hB5.block _ HM.out.1.lt)
      have k6 := al w5 (.cells #[.int .i64 (f s1).1, .int .u8 (((f s1).2 : Nat) : Int)] 53)
      have H6 : Hid (St (w5.alloc (.cells #[.int .i64 (f s1).1, .int .u8 (((f s1).2 : Nat) : Int)] 53)) 53 w5.heap.size #[.int .i64 (f s1).1, .int .u8 (((f s1).2 : Nat) : Int)] ∧ Below w5.heap.size w5 (w5.alloc (.cells #[.int .i64 (f s1).1, .int .u8 (((f s1).2 : Nat) : Int)] 53)) ∧ (Instr.lookup 54 (.map (some bM)) (.int .i64 ((s2 : Nat) : Int)) false).run Try.prog (w5.alloc (.cells #[.int .i64 (f s1).1, .int .u8 (((f s1).2 : Nat) : Int)] 53)) = .ok (wyv (f s2)) (w5.alloc (.cells #[.int .i64 (f s1).1, .int .u8 (((f s1).2 : Nat) : Int)] 53))) :=
        ⟨St.new _ _ _, k6, way_look (hm5.same (k6.block _ hm5.lt)) h5 (HM.out.2 s2 h5)⟩
      have HS5 := Lib.hid hS5
      have HO5 : Hid (w5.ownsRow w.heap.size 5 1 (.slice a5 (m + 1) c5) (m + 1) (u8s (r ++ [b])) ∧ Below w.heap.size w w5) := ⟨by rw [u8s_snoc]; exact hown5, hB5⟩
      clear k9 hO hS5 hm5 k6 hown5 hgrow5 hat5 hB5 c0' c1'
      go_upto_region 4 with (refine wpList_load_any9 (by rfl) 53 _ rfl ⟨g6, 0, none⟩ rfl #[.int .i64 (f s1).1, .int .u8 (((f s1).2 : Nat) : Int)] _ HS5.out.part Try.underlying53 rfl (by kernel_rfl) ?_)
      generalize w5.alloc (.cells #[.int .i64 (f s1).1, .int .u8 (((f s1).2 : Nat) : Int)] 53) = w6 at H6 ⊢
      obtain ⟨g7, hg7⟩ : ∃ g7, w5.heap.size = g7 := ⟨_, rfl⟩
      have H7 : Hid (St w6 53 g7 #[.int .i64 ((s2 : Nat) : Int), .int .u8 ((b : Nat) : Int)] ∧ Below w.heap.size w w6 ∧ w6.ownsRow w.heap.size 5 1 (.slice a5 (m + 1) c5) (m + 1) (u8s (r ++ [b])) ∧ w.heap.size ≤ g7) := by
        have h := H6.out.1
        rw [Hbs.out.1, Hbs.out.2, hg7] at h
        have hz := HO5.out.2.size
        exact ⟨h, HO5.out.2.trans (H6.out.2.1.mono hz), ownsRow_keep HO5.out.1 H6.out.2.1, by omega⟩
      have hlk6 := H6.out.2.2
      unfold wyv at hlk6
      rw [hg7]
      clear H6 hg7 HO5 HS5
      have c0 : w6.cell? ⟨g7, 0, none⟩ = some (.int .i64 ((s2 : Nat) : Int)) := H7.out.1.at_ 0
      have c1 : w6.cell? ⟨g7, 1, none⟩ = some (.int .u8 ((b : Nat) : Int)) := H7.out.1.at_ 1
      have c2 := H7.out.1.thaw_ 0
      have c3 := H7.out.1.thaw_ 1
      have HF : Hid (SpI w f dom bM N l a5 (m + 1) c5 g7 ((w6.setCell ⟨g7, 0, none⟩ (.int .i64 (f s2).1)).setCell ⟨g7, 1, none⟩ (.int .u8 (((f s2).2 : Nat) : Int)))) := by
        have s6 := H7.out.1.set 0 (.int .i64 (f s2).1)
        have s7 := s6.set 1 (.int .u8 (((f s2).2 : Nat) : Int))
        refine ⟨s2, l2, r ++ [b], h4, HSt.out, by rw [List.length_append, HL.out.2]; rfl, own_set (own_set H7.out.2.2.1 H7.out.1 (by decide) _ _) s6 (by decide) _ _, by simpa using s7, H7.out.2.2.2, (H7.out.2.1.setCell (p := ⟨g7, 0, none⟩) H7.out.2.2.2 _).setCell (p := ⟨g7, 1, none⟩) H7.out.2.2.2 _⟩
      go_wp2_with fail
      go_roundw
      case rel => exact ⟨a5, m + 1, c5, g7, rfl, rfl, HF⟩
      case measure => simp [slLen]; omega
end Go.Proofs.Ytohgbkajnhgnaaa

namespace Go.Proofs.Ytohgbkajnhgnaaa
open Go.RowKit Go.Maps Go.WideElems Go.ChangeMaps Go.MapKept
set_option linter.unusedVariables false
set_option linter.unusedSimpArgs false

/-! ### The search for the shortest -/
def runL (D : Dd) (l : List Nat) : Int := l.foldl (fun s b => stepF D s b) 0
theorem runL_snoc (D : Dd) (l : List Nat) (b : Nat) : runL D (l ++ [b]) = stepF D (runL D l) b := by simp [runL]
theorem runF_congr (D : Dd) (st : Int) (z z' : Nat → Nat) : ∀ k, (∀ j, j < k → z j = z' j) → runF D st z k = runF D st z' k := by
  intro k
  induction k with
  | zero => intro _; rfl
  | succ k ih =>
    intro h
    show stepF D (runF D st z k) (z k) = stepF D (runF D st z' k) (z' k)
    rw [ih (fun j hj => h j (by omega)), h k (by omega)]
theorem runL_pre (D : Dd) (l : List Nat) : ∀ k, k ≤ l.length → runL D (l.take k) = runF D 0 (fun j => l.getD j 0) k := by
  intro k
  induction k with
  | zero => intro _; rfl
  | succ k ih =>
    intro hk
    have e : l.take (k + 1) = l.take k ++ [l.getD k 0] := by
      rw [List.take_add_one, List.getElem?_eq_getElem (by omega), List.getD_eq_getElem?_getD, List.getElem?_eq_getElem (by omega)]
      rfl
    rw [e, runL_snoc, ih (by omega)]
    rfl
theorem runL_runF (D : Dd) (l : List Nat) : runL D l = runF D 0 (fun j => l.getD j 0) l.length := by
  have := runL_pre D l l.length (Nat.le_refl _)
  rwa [List.take_length] at this
/-- A state is known, no further ahead than so. -/
def Known (met : List Nat) (dp : Nat → Nat) (x : Int) (d : Nat) : Prop := x = -1 ∨ ∃ t : Nat, x = ((t : Nat) : Int) ∧ t ∈ met ∧ dp t ≤ d
structure BfI (D : Dd) (met : List Nat) (f : Nat → Int × Nat) (dp : Nat → Nat) (i : Nat) : Prop where
  z : met[0]? = some 0
  d0 : dp 0 = 0
  nod : met.Nodup
  rng : ∀ s ∈ met, s < D.n
  path : ∀ s ∈ met, ∃ l, WPath f met s l ∧ l.length = dp s ∧ (∀ b ∈ l, b < 256) ∧ runL D l = ((s : Nat) : Int)
  mono : ∀ (a b x y : Nat), a ≤ b → met[a]? = some x → met[b]? = some y → dp x ≤ dp y
  done : ∀ (j x : Nat), j < i → met[j]? = some x → markF D x < 0 ∧ ∀ b, b < 256 → Known met dp (stepF D x b) (dp x + 1)
  dpb : ∀ s ∈ met, dp s < met.length
/-- While the letters of a state are tried. -/
structure BfJ (D : Dd) (lt : List Nat) (met : List Nat) (f : Nat → Int × Nat) (dp : Nat → Nat) (i x k : Nat) : Prop where
  o : BfI D met f dp i
  at_ : met[i]? = some x
  cap : ∀ s ∈ met, dp s ≤ dp x + 1
  let_ : ∀ c, c < k → Known met dp (stepF D x (lt.getD c 0)) (dp x + 1)
theorem WPath.more {f f' : Nat → Int × Nat} {dom dom' : List Nat} (hd : ∀ s ∈ dom, s ∈ dom') (hf : ∀ s ∈ dom, f' s = f s) {s : Nat} {l : List Nat} (h : WPath f dom s l) : WPath f' dom' s l := by
  induction h with
  | root s h1 h2 => exact .root s (hd s h1) (by rw [hf s h1]; exact h2)
  | step s t l h1 h2 h3 h4 ih =>
    rw [← hf t h1]
    exact .step s t l (hd t h1) (by rw [hf t h1]; exact h2) (by rw [hf t h1]; exact h3) ih
theorem BfI.start {D : Dd} (hn : 1 ≤ D.n) : BfI D [0] (fun _ => (-1, 0)) (fun _ => 0) 0 := by
  refine ⟨rfl, rfl, by simp, fun s hs => ?_, fun s hs => ?_, fun a b x y _ _ _ => Nat.le_refl _, fun j x hj => absurd hj (by omega), fun s hs => by simp⟩
  · have : s = 0 := by simpa using hs
    omega
  · have : s = 0 := by simpa using hs
    subst this
    exact ⟨[], .root 0 (by simp) rfl, rfl, by simp, rfl⟩
theorem BfI.tries {D : Dd} {lt met : List Nat} {f : Nat → Int × Nat} {dp : Nat → Nat} {i x : Nat} (h : BfI D met f dp i) (hx : met[i]? = some x) (hc : ∀ s ∈ met, dp s ≤ dp x + 1) : BfJ D lt met f dp i x 0 :=
  ⟨h, hx, hc, fun c hc => absurd hc (by omega)⟩
/-- A letter leads nowhere, or to what was met. -/
theorem BfJ.old {D : Dd} {lt met : List Nat} {f : Nat → Int × Nat} {dp : Nat → Nat} {i x k : Nat} (h : BfJ D lt met f dp i x k) (hk : stepF D x (lt.getD k 0) = -1 ∨ ∃ t : Nat, stepF D x (lt.getD k 0) = ((t : Nat) : Int) ∧ t ∈ met) : BfJ D lt met f dp i x (k + 1) := by
  refine ⟨h.o, h.at_, h.cap, fun c hc => ?_⟩
  by_cases e : c < k
  · exact h.let_ c e
  · obtain rfl : c = k := by omega
    rcases hk with e | ⟨t, e, ht⟩
    · exact Or.inl e
    · exact Or.inr ⟨t, e, ht, h.cap t ht⟩
theorem BfJ.new {D : Dd} {lt met : List Nat} {f : Nat → Int × Nat} {dp : Nat → Nat} {i x k t : Nat} (h : BfJ D lt met f dp i x k) (hb : lt.getD k 0 < 256) (ht : stepF D x (lt.getD k 0) = ((t : Nat) : Int)) (hn : t < D.n) (hm : t ∉ met) :
    BfJ D lt (met ++ [t]) (fun s => if s = t then (((x : Nat) : Int), lt.getD k 0) else f s) (fun s => if s = t then dp x + 1 else dp s) i x (k + 1) := by
  have hxm : x ∈ met := List.mem_of_getElem? h.at_
  have hdp : ∀ s ∈ met, (if s = t then dp x + 1 else dp s) = dp s := fun s hs => if_neg (fun (e : s = t) => hm (by rw [← e]; exact hs))
  have hkn : ∀ {y d}, Known met dp y d → Known (met ++ [t]) (fun s => if s = t then dp x + 1 else dp s) y d := fun {y d} hy => by
    rcases hy with e | ⟨u, e, hu, hd⟩
    · exact Or.inl e
    · exact Or.inr ⟨u, e, List.mem_append_left _ hu, by show (if u = t then dp x + 1 else dp u) ≤ d; rw [hdp u hu]; exact hd⟩
  have hil := (List.getElem?_eq_some_iff.1 h.at_).1
  have hmore : ∀ {s l}, WPath f met s l → WPath (fun s => if s = t then (((x : Nat) : Int), lt.getD k 0) else f s) (met ++ [t]) s l := fun {s l} hp =>
    hp.more (fun s hs => List.mem_append_left _ hs) (fun s hs => if_neg (fun (e : s = t) => hm (by rw [← e]; exact hs)))
  refine ⟨⟨by rw [List.getElem?_append_left (by omega)]; exact h.o.z, ?_, ?_, fun s hs => ?_, fun s hs => ?_, fun a b y z hab hy hz => ?_, fun j y hj hy => ?_, fun s hs => ?_⟩, by rw [List.getElem?_append_left hil]; exact h.at_, fun s hs => ?_, fun c hc => ?_⟩
  · show (if 0 = t then dp x + 1 else dp 0) = 0
    rw [hdp 0 (List.mem_of_getElem? h.o.z), h.o.d0]
  · rw [List.nodup_append]
    refine ⟨h.o.nod, by simp, fun a ha b hb e => hm ?_⟩
    have : b = t := by simpa using hb
    rw [← this, ← e]; exact ha
  · rcases List.mem_append.1 hs with hs | hs
    · exact h.o.rng s hs
    · have : s = t := by simpa using hs
      omega
  · rcases List.mem_append.1 hs with hs | hs
    · obtain ⟨l, p1, p2, p3, p4⟩ := h.o.path s hs
      exact ⟨l, hmore p1, by show l.length = (if s = t then dp x + 1 else dp s); rw [hdp s hs, p2], p3, p4⟩
    · obtain rfl : s = t := by simpa using hs
      obtain ⟨l, p1, p2, p3, p4⟩ := h.o.path x hxm
      have hst := WPath.step (f := fun u => if u = s then (((x : Nat) : Int), lt.getD k 0) else f u) (dom := met ++ [s]) x s l (by simp) (by simp) (by simpa using hb) (hmore p1)
      simp only [if_pos] at hst
      refine ⟨l ++ [lt.getD k 0], hst, ?_, fun b hb2 => ?_, by rw [runL_snoc, p4, ht]⟩
      · show (l ++ [lt.getD k 0]).length = (if s = s then dp x + 1 else dp s)
        rw [if_pos rfl, List.length_append, p2]; rfl
      · rcases List.mem_append.1 hb2 with hb2 | hb2
        · exact p3 b hb2
        · have : b = lt.getD k 0 := by simpa using hb2
          omega
  · show (if y = t then dp x + 1 else dp y) ≤ (if z = t then dp x + 1 else dp z)
    by_cases hzl : b < met.length
    · rw [List.getElem?_append_left hzl] at hz
      rw [List.getElem?_append_left (by omega)] at hy
      rw [hdp y (List.mem_of_getElem? hy), hdp z (List.mem_of_getElem? hz)]
      exact h.o.mono a b y z hab hy hz
    · have hzt : z = t := by
        have hb1 : b < (met ++ [t]).length := (List.getElem?_eq_some_iff.1 hz).1
        rw [List.length_append] at hb1
        simp at hb1
        obtain rfl : b = met.length := by omega
        rw [List.getElem?_append_right (Nat.le_refl _)] at hz
        simpa using hz.symm
      rw [if_pos hzt]
      by_cases hyl : a < met.length
      · rw [List.getElem?_append_left hyl] at hy
        have := List.mem_of_getElem? hy
        rw [hdp y this]
        exact h.cap y this
      · have : y ∈ met ++ [t] := List.mem_of_getElem? hy
        rcases List.mem_append.1 this with h1 | h1
        · rw [hdp y h1]; exact h.cap y h1
        · rw [if_pos (by simpa using h1)]; exact Nat.le_refl _
  · have hjl : j < met.length := by omega
    rw [List.getElem?_append_left hjl] at hy
    obtain ⟨m1, m2⟩ := h.o.done j y hj hy
    refine ⟨m1, fun b hb => ?_⟩
    show Known _ _ _ ((if y = t then dp x + 1 else dp y) + 1)
    rw [hdp y (List.mem_of_getElem? hy)]
    exact hkn (m2 b hb)
  · show (if s = t then dp x + 1 else dp s) < _
    rw [List.length_append]
    rcases List.mem_append.1 hs with hs | hs
    · rw [hdp s hs]
      have := h.o.dpb s hs
      omega
    · rw [if_pos (by simpa using hs)]
      have := h.o.dpb x hxm
      simp
      omega
  · show (if s = t then dp x + 1 else dp s) ≤ (if x = t then dp x + 1 else dp x) + 1
    rw [hdp x hxm]
    rcases List.mem_append.1 hs with hs | hs
    · rw [hdp s hs]; exact h.cap s hs
    · rw [if_pos (by simpa using hs)]; exact Nat.le_refl _
  · show Known _ _ _ ((if x = t then dp x + 1 else dp x) + 1)
    rw [hdp x hxm]
    by_cases e : c < k
    · exact hkn (h.let_ c e)
    · obtain rfl : c = k := by omega
      exact Or.inr ⟨t, ht, by simp, by show (if t = t then dp x + 1 else dp t) ≤ _; rw [if_pos rfl]; exact Nat.le_refl _⟩
/-- All letters of a state were tried. -/
theorem BfJ.next {D : Dd} {g : Nat → Nat} {m : Nat} (hN : Num (SmC D.K D.K) 256 g m) {met : List Nat} {f : Nat → Int × Nat} {dp : Nat → Nat} {i x : Nat} (h : BfJ D (rpl g 256) met f dp i x m) (hk : markF D x < 0) : BfI D met f dp (i + 1) ∧ ∀ y, met[i + 1]? = some y → ∀ s ∈ met, dp s ≤ dp y + 1 := by
  refine ⟨⟨h.o.z, h.o.d0, h.o.nod, h.o.rng, h.o.path, h.o.mono, fun j y hj hy => ?_, h.o.dpb⟩, fun y hy s hs => ?_⟩
  · by_cases e : j < i
    · exact h.o.done j y e hy
    · obtain rfl : j = i := by omega
      rw [h.at_] at hy
      obtain rfl : x = y := Option.some.inj hy
      refine ⟨hk, fun b hb => ?_⟩
      have h1 := h.let_ (g b) (hN.lt b hb)
      rwa [stepF_cls (num_rep hN hb).2.1] at h1
  · have h1 := h.cap s hs
    have h2 := h.o.mono i (i + 1) x y (by omega) h.at_ hy
    omega
/-- What was found. -/
def ShoF (D : Dd) (l : List Nat) : Prop := (∀ b ∈ l, b < 256) ∧ 0 ≤ markF D (runL D l) ∧ ∀ l', (∀ b ∈ l', b < 256) → 0 ≤ markF D (runL D l') → l.length ≤ l'.length
theorem BfI.reach {D : Dd} {met : List Nat} {f : Nat → Int × Nat} {dp : Nat → Nat} {i d : Nat} (h : BfI D met f dp i) (hd : ∀ j x, met[j]? = some x → dp x < d → j < i) (l : List Nat) (hl : ∀ b ∈ l, b < 256) : ∀ k, k ≤ l.length → k ≤ d → Known met dp (runL D (l.take k)) k := by
  intro k
  induction k with
  | zero => intro _ _; exact Or.inr ⟨0, rfl, List.mem_of_getElem? h.z, by rw [h.d0]; exact Nat.le_refl _⟩
  | succ k ih =>
    intro hk hkd
    have e : l.take (k + 1) = l.take k ++ [l.getD k 0] := by
      rw [List.take_add_one, List.getElem?_eq_getElem (by omega), List.getD_eq_getElem?_getD, List.getElem?_eq_getElem (by omega)]
      rfl
    have hb : l.getD k 0 < 256 := by
      rw [List.getD_eq_getElem?_getD, List.getElem?_eq_getElem (by omega)]
      exact hl _ (List.getElem_mem _)
    rw [e, runL_snoc]
    rcases ih (by omega) (by omega) with e1 | ⟨t, e1, ht, htd⟩
    · rw [e1, stepF_dead]; exact Or.inl rfl
    · obtain ⟨j, hj1, hj2⟩ := List.getElem_of_mem ht
      have hj : met[j]? = some t := by rw [List.getElem?_eq_getElem hj1, hj2]
      have h1 := (h.done j t (hd j t hj (by omega)) hj).2 _ hb
      rw [e1]
      rcases h1 with e2 | ⟨u, e2, hu, hud⟩
      · exact Or.inl e2
      · exact Or.inr ⟨u, e2, hu, by omega⟩
theorem BfI.found {D : Dd} {met : List Nat} {f : Nat → Int × Nat} {dp : Nat → Nat} {i x : Nat} (h : BfI D met f dp i) (hx : met[i]? = some x) (hm : 0 ≤ markF D x) : ∃ l, WPath f met x l ∧ l.length < met.length ∧ ShoF D l := by
  have hxm := List.mem_of_getElem? hx
  obtain ⟨l, p1, p2, p3, p4⟩ := h.path x hxm
  refine ⟨l, p1, by rw [p2]; exact h.dpb x hxm, p3, by rw [p4]; exact hm, fun l' h1 h2 => ?_⟩
  refine Classical.byContradiction fun hc => ?_
  have hlt : ∀ j y, met[j]? = some y → dp y < dp x → j < i := fun j y hj hd => by
    refine Classical.byContradiction fun e => ?_
    have := h.mono i j x y (by omega) hx hj
    omega
  have h3 := h.reach (d := dp x) hlt l' h1 l'.length (Nat.le_refl _) (by omega)
  rw [List.take_length] at h3
  rcases h3 with e | ⟨t, e, ht, htd⟩
  · rw [e, markF_dead] at h2
    omega
  · obtain ⟨j, hj1, hj2⟩ := List.getElem_of_mem ht
    have hj : met[j]? = some t := by rw [List.getElem?_eq_getElem hj1, hj2]
    have h4 := (h.done j t (hlt j t hj (by omega)) hj).1
    rw [e] at h2
    omega
theorem BfI.none {D : Dd} {met : List Nat} {f : Nat → Int × Nat} {dp : Nat → Nat} (h : BfI D met f dp met.length) (l : List Nat) (hl : ∀ b ∈ l, b < 256) : ¬ 0 ≤ markF D (runL D l) := by
  intro h2
  have h3 := h.reach (d := l.length) (fun j x hj _ => (List.getElem?_eq_some_iff.1 hj).1) l hl l.length (Nat.le_refl _) (Nat.le_refl _)
  rw [List.take_length] at h3
  rcases h3 with e | ⟨t, e, ht, htd⟩
  · rw [e, markF_dead] at h2
    omega
  · obtain ⟨j, hj1, hj2⟩ := List.getElem_of_mem ht
    have h4 := (h.done j t hj1 (by rw [List.getElem?_eq_getElem hj1, hj2])).1
    rw [e] at h2
    omega
end Go.Proofs.Ytohgbkajnhgnaaa
