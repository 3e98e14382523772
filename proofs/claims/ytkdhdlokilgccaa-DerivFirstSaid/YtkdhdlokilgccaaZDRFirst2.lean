import Derived.Test.YtkdhdlokilgccaaZDRFirst
import Derived.Deep.RegionHeld3
import Derived.StillTailTactics
namespace Go.Proofs.Ytkdhdlokilgccaa
open Go.RowKit
set_option linter.unusedVariables false

set_option maxHeartbeats 6000000 in
set_option maxRecDepth 100000 in
theorem rfirst_un (x : Pc) (s : Rx) (hw : (Rx.un x s).wf) (ih : RFirstOk s) : RFirstOk (.un x s) := by
  intro g off n cap w hL hn hmax hcap
  obtain ⟨m, hm⟩ : ∃ m, n - 1 = m := ⟨_, rfl⟩
  have hpos := (Rx.un x s).flat_pos
  have hn1 : n = m + 1 := by omega
  obtain ⟨g', off', e, hg, d0, d1, d2, d3, d4⟩ := hL.get m (by omega)
  simp at e
  obtain ⟨rfl, rfl⟩ := e
  have hx0 : (Rx.un x s).flat[m]'(by omega) = x := by
    have h1 := (Rx.un x s).flat_top
    rw [hn, hm, List.getElem?_eq_getElem (by omega)] at h1
    exact Option.some.inj h1
  rw [hx0] at d0 d1 d2 d3 d4
  have hk0 : Below w.heap.size w (w.alloc (.cells #[.int .u64 0, .int .u64 0, .int .u64 0, .int .u64 0] 28)) := (Below.refl _ _).alloc (Nat.le_refl _) _
  have a0 := (hk0.cell (p := ⟨g, off + m * 5, none⟩) hg).trans d0
  have a1 := (hk0.cell (p := ⟨g, off + m * 5 + 1, none⟩) hg).trans d1
  have a2 := (hk0.cell (p := ⟨g, off + m * 5 + 2, none⟩) hg).trans d2
  have a3 := (hk0.cell (p := ⟨g, off + m * 5 + 3, none⟩) hg).trans d3
  have a4 := (hk0.cell (p := ⟨g, off + m * 5 + 4, none⟩) hg).trans d4
  have hR := (St.new w 28 #[.int .u64 0, .int .u64 0, .int .u64 0, .int .u64 0]).alloc (.cells #[.int .i64 x.k, .int .u64 ((wd x.p 0 : Nat) : Int), .int .u64 ((wd x.p 1 : Nat) : Int), .int .u64 ((wd x.p 2 : Nat) : Int), .int .u64 ((wd x.p 3 : Nat) : Int)] 66)
  have hP : St ((w.alloc (.cells #[.int .u64 0, .int .u64 0, .int .u64 0, .int .u64 0] 28)).alloc (.cells #[.int .i64 x.k, .int .u64 ((wd x.p 0 : Nat) : Int), .int .u64 ((wd x.p 1 : Nat) : Int), .int .u64 ((wd x.p 2 : Nat) : Int), .int .u64 ((wd x.p 3 : Nat) : Int)] 66)) 66 (w.heap.size + 1) #[.int .i64 x.k, .int .u64 ((wd x.p 0 : Nat) : Int), .int .u64 ((wd x.p 1 : Nat) : Int), .int .u64 ((wd x.p 2 : Nat) : Int), .int .u64 ((wd x.p 3 : Nat) : Int)] := by
    have := St.new (w.alloc (.cells #[.int .u64 0, .int .u64 0, .int .u64 0, .int .u64 0] 28)) 66 #[.int .i64 x.k, .int .u64 ((wd x.p 0 : Nat) : Int), .int .u64 ((wd x.p 1 : Nat) : Int), .int .u64 ((wd x.p 2 : Nat) : Int), .int .u64 ((wd x.p 3 : Nat) : Int)]
    simpa using this
  have hB := hk0.alloc (by simp) (.cells #[.int .i64 x.k, .int .u64 ((wd x.p 0 : Nat) : Int), .int .u64 ((wd x.p 1 : Nat) : Int), .int .u64 ((wd x.p 2 : Nat) : Int), .int .u64 ((wd x.p 3 : Nat) : Int)] 66)
  have HC := Lib.hid (rparts_cap (.un x s) hw g off n cap _ (hL.below hB) hn hmax hcap)
  have hsz := hB.size
  have HR := Lib.hid hR
  have HP := Lib.hid hP
  have HB := Lib.hid hB
  have en : (n : Int) - 1 = (m : Int) := by omega
  have hmn : m < n := by omega
  have hcc : n ≤ 9223372036854775807 := by have := hcap.1; have := hcap.2; unfold maxLen at this; omega
  have hk : x.k = 4 ∨ x.k = 5 ∨ x.k = 6 := by have := takesZ_cases x.k; have := hw.1; omega
  have hsl : s.flat.length ≤ 1000000 := by have : (Rx.un x s).flat.length = s.flat.length + 1 := by simp [Rx.flat]
                                           omega
  have IH := Lib.hid ih
  have HHW := Lib.hid hw
  clear hL hn hcap hR hP hB hx0 hw hn1 hm hpos
  go_enter Try.func9, Try.ntmps9
  go_wp2_with fail
  refine HC.out.mono ?_
  rintro e w5 ⟨aL, cL, rfl, hPt, b5⟩
  have hR5 := HR.out.keep b5
  have hP5 := HP.out.keep b5
  have hB5 := HB.out.trans (b5.mono hsz)
  obtain ⟨r0, r1, r2, r3, f0, f1, f2, f3⟩ := row4 hR5
  obtain ⟨p0, p1, p2, p3, p4⟩ := row5 hP5
  obtain ⟨b, gc, oc, cc, rfl, hcell, hRc, h1c, hbl, hc1, hc2⟩ := hPt 0 (by show 0 < 1; decide)
  have hcell' : w5.cell? ⟨b, 0, none⟩ = some (.slice (some ⟨gc, oc, none⟩) s.flat.length cc) := hcell
  obtain ⟨nl, hnl⟩ : ∃ nl, s.flat.length = nl := ⟨_, rfl⟩
  have HI := Lib.hid (IH.out gc oc nl cc w5 hRc hnl (by omega) ⟨by rw [← hnl]; exact hc1, hc2⟩)
  rw [hnl] at hcell'
  rw [show (Rx.un x s).kids.length = 1 from rfl]
  have k0 : (x.k == 0) = false := by simp; omega
  have k1 : (x.k == 1) = false := by simp; omega
  have k2 : (x.k == 2) = false := by simp; omega
  have k3 : (x.k == 3) = false := by simp; omega
  obtain ⟨f, hf⟩ : ∃ f : Bool, decide (x.k = 5) = f := ⟨_, rfl⟩
  have k5 : (x.k != 5) = !f := by rw [← hf]; by_cases h : x.k = 5 <;> simp [h]
  obtain ⟨X, hX⟩ : ∃ X, refF s = X := ⟨_, rfl⟩
  rw [hX] at HI
  have hE : refF (.un x s) = ⟨X.e || !f, X.s, X.n + 1⟩ := by
    show joinOf _ _ _ = _
    unfold joinOf
    rw [hX, if_neg (by show ¬ x.k = 0; omega), if_neg (by show ¬ x.k = 1; omega), if_neg (by show ¬ x.k = 3; omega), if_neg (by show ¬ x.k = 2; omega)]
    show (⟨X.e || !decide (x.k = 5), X.s, X.n + 1⟩ : Fa) = _
    rw [hf]
  have HE := Lib.hid hE
  clear hPt hcell hRc hE hf hX hnl h1c hc1 hc2 hk
  go_wp2_with fail
  refine HI.out.mono ?_
  rintro e w6 ⟨rfl, b6⟩
  have hR6 := (hR5.keep b6)
  have hP6 := (hP5.keep b6)
  have hB6 := hB5.trans (b6.mono hB5.size)
  have hs6 := hB6.size
  have hRa := hR6.alloc (.cells #[.int .u64 ((wd X.s 0 : Nat) : Int), .int .u64 ((wd X.s 1 : Nat) : Int), .int .u64 ((wd X.s 2 : Nat) : Int), .int .u64 ((wd X.s 3 : Nat) : Int)] 28)
  have hPa := hP6.alloc (.cells #[.int .u64 ((wd X.s 0 : Nat) : Int), .int .u64 ((wd X.s 1 : Nat) : Int), .int .u64 ((wd X.s 2 : Nat) : Int), .int .u64 ((wd X.s 3 : Nat) : Int)] 28)
  have hFa := St.new w6 28 #[.int .u64 ((wd X.s 0 : Nat) : Int), .int .u64 ((wd X.s 1 : Nat) : Int), .int .u64 ((wd X.s 2 : Nat) : Int), .int .u64 ((wd X.s 3 : Nat) : Int)]
  have hBa := hB6.alloc hs6 (.cells #[.int .u64 ((wd X.s 0 : Nat) : Int), .int .u64 ((wd X.s 1 : Nat) : Int), .int .u64 ((wd X.s 2 : Nat) : Int), .int .u64 ((wd X.s 3 : Nat) : Int)] 28)
  have hlt6 := hR6.lt
  go_wp2_with fail
  generalize w6.alloc (.cells #[.int .u64 ((wd X.s 0 : Nat) : Int), .int .u64 ((wd X.s 1 : Nat) : Int), .int .u64 ((wd X.s 2 : Nat) : Int), .int .u64 ((wd X.s 3 : Nat) : Int)] 28) = W7 at hRa hPa hFa hBa ⊢
  generalize w6.heap.size = bF at hFa hlt6 ⊢
  obtain ⟨p0', p1', p2', p3', p4'⟩ := row5 hPa
  obtain ⟨i0', i1', i2', i3', _, _, _, _⟩ := row4 hFa
  obtain ⟨X_e, hXe⟩ : ∃ b, X.e = b := ⟨_, rfl⟩
  rw [hXe] at HE ⊢
  have HE2 := HE
  clear HE
  rcases X_e with _ | _
  · have f0' := hRa.thaw 0
    have f1' := hRa.thaw 1
    have f2' := hRa.thaw 2
    have f3' := hRa.thaw 3
    obtain ⟨q0', q1', q2', q3', _, _, _, _⟩ := row4 hRa
    refine wp_region_held_drew (S := fun W' => Below w.heap.size w W' ∧ W'.cell? ⟨w.heap.size + 1, 0, none⟩ = some (.int .i64 x.k) ∧ W'.cell? ⟨bF, 0, none⟩ = some (.int .u64 ((wd X.s 0 : Nat) : Int)) ∧ W'.cell? ⟨bF, 1, none⟩ = some (.int .u64 ((wd X.s 1 : Nat) : Int)) ∧ W'.cell? ⟨bF, 2, none⟩ = some (.int .u64 ((wd X.s 2 : Nat) : Int)) ∧ W'.cell? ⟨bF, 3, none⟩ = some (.int .u64 ((wd X.s 3 : Nat) : Int))) (by kernel_rfl) ⟨hBa.drew, p0', i0', i1', i2', i3'⟩ (fun hHeld => ?_)
    (refine wpAnyH_take (i := 0) (oi := ?_) (v := ?_) ?_ (by kernel_rfl) (by kernel_rfl) (by kernel_rfl) ?_ (Or.inl ⟨?_, ?_⟩) (by assumption) ?_; rotate_left 2; (focus ((simp only [List.getElem?_toArray, List.getElem?_cons_zero]); first | done | rfl)); (focus (exact fun _ _ _ h => h)); (focus rfl); (focus (intro wz hSw; (try dsimp only at hSw); go_simp; first | done | with_reducible rfl)); try simp only [Act.put, List.setIfInBounds_toArray, List.set_cons_zero, List.set_cons_succ])
    (refine wpAnyH_take (i := 1) (oi := ?_) (v := ?_) ?_ (by kernel_rfl) (by kernel_rfl) (by kernel_rfl) ?_ (Or.inl ⟨?_, ?_⟩) (by assumption) ?_; rotate_left 2; (focus ((simp only [List.getElem?_toArray, List.getElem?_cons_succ, List.getElem?_cons_zero]); first | done | rfl)); (focus (exact fun _ _ _ h => h)); (focus rfl); (focus (intro wz hSw; (try dsimp only at hSw); go_simp; first | done | with_reducible rfl)); try simp only [Act.put, List.setIfInBounds_toArray, List.set_cons_zero, List.set_cons_succ])
    (refine wpAnyH_take (i := 2) (oi := ?_) (v := ?_) ?_ (by kernel_rfl) (by kernel_rfl) (by kernel_rfl) ?_ (Or.inl ⟨?_, ?_⟩) (by assumption) ?_; rotate_left 2; (focus ((simp only [List.getElem?_toArray, List.getElem?_cons_succ, List.getElem?_cons_zero]); first | done | rfl)); (focus (exact fun _ _ _ h => h)); (focus rfl); (focus (intro wz hSw; (try dsimp only at hSw); go_simp; first | done | with_reducible rfl)); try simp only [Act.put, List.setIfInBounds_toArray, List.set_cons_zero, List.set_cons_succ])
    (refine wpAnyH_take (i := 3) (oi := ?_) (v := ?_) ?_ (by kernel_rfl) (by kernel_rfl) (by kernel_rfl) ?_ (Or.inl ⟨?_, ?_⟩) (by assumption) ?_; rotate_left 2; (focus ((simp only [List.getElem?_toArray, List.getElem?_cons_succ, List.getElem?_cons_zero]); first | done | rfl)); (focus (exact fun _ _ _ h => h)); (focus rfl); (focus (intro wz hSw; (try dsimp only at hSw); go_simp; first | done | with_reducible rfl)); try simp only [Act.put, List.setIfInBounds_toArray, List.set_cons_zero, List.set_cons_succ])
    (refine wpAnyH_take (i := 4) (oi := ?_) (v := ?_) ?_ (by kernel_rfl) (by kernel_rfl) (by kernel_rfl) ?_ (Or.inl ⟨?_, ?_⟩) (by assumption) ?_; rotate_left 2; (focus ((simp only [List.getElem?_toArray, List.getElem?_cons_succ, List.getElem?_cons_zero]); first | done | rfl)); (focus (exact fun _ _ _ h => h)); (focus rfl); (focus (intro wz hSw; (try dsimp only at hSw); go_simp; first | done | with_reducible rfl)); try simp only [Act.put, List.setIfInBounds_toArray, List.set_cons_zero, List.set_cons_succ])
    (refine wpAnyH_take (i := 5) (oi := ?_) (v := ?_) ?_ (by kernel_rfl) (by kernel_rfl) (by kernel_rfl) ?_ (Or.inl ⟨?_, ?_⟩) (by assumption) ?_; rotate_left 2; (focus ((simp only [List.getElem?_toArray, List.getElem?_cons_succ, List.getElem?_cons_zero]); first | done | rfl)); (focus (exact fun _ _ _ h => h)); (focus rfl); (focus (intro wz hSw; (try dsimp only at hSw); go_simp; first | done | with_reducible rfl)); try simp only [Act.put, List.setIfInBounds_toArray, List.set_cons_zero, List.set_cons_succ])
    (refine wpAnyH_take (i := 6) (oi := ?_) (v := ?_) ?_ (by kernel_rfl) (by kernel_rfl) (by kernel_rfl) ?_ (Or.inl ⟨?_, ?_⟩) (by assumption) ?_; rotate_left 2; (focus ((simp only [List.getElem?_toArray, List.getElem?_cons_succ, List.getElem?_cons_zero]); first | done | rfl)); (focus (exact fun _ _ _ h => h)); (focus rfl); (focus (intro wz hSw; (try dsimp only at hSw); go_simp; first | done | with_reducible rfl)); try simp only [Act.put, List.setIfInBounds_toArray, List.set_cons_zero, List.set_cons_succ])
    refine wpAnyH_ready (rs := [7]) (by kernel_rfl) (by simp) ?_
    refine AllReadyH.cons (o := ?_) ?_ (fun K hK => ?_) ?_
    rotate_left
    (focus ((simp only [List.getElem?_toArray, List.getElem?_cons_succ, List.getElem?_cons_zero]); first | done | rfl))
    · skip
      go_simp
      have hRb := hRa.set4 (.int .u64 ((wd X.s 0 : Nat) : Int)) (.int .u64 ((wd X.s 1 : Nat) : Int)) (.int .u64 ((wd X.s 2 : Nat) : Int)) (.int .u64 ((wd X.s 3 : Nat) : Int))
      have hPb := hPa.far4 (g' := w.heap.size) (by omega) (.int .u64 ((wd X.s 0 : Nat) : Int)) (.int .u64 ((wd X.s 1 : Nat) : Int)) (.int .u64 ((wd X.s 2 : Nat) : Int)) (.int .u64 ((wd X.s 3 : Nat) : Int))
      have hFb := hFa.far4 (g' := w.heap.size) (by omega) (.int .u64 ((wd X.s 0 : Nat) : Int)) (.int .u64 ((wd X.s 1 : Nat) : Int)) (.int .u64 ((wd X.s 2 : Nat) : Int)) (.int .u64 ((wd X.s 3 : Nat) : Int))
      have hBb := (below4 hBa (g := w.heap.size) (Nat.le_refl _) (.int .u64 ((wd X.s 0 : Nat) : Int)) (.int .u64 ((wd X.s 1 : Nat) : Int)) (.int .u64 ((wd X.s 2 : Nat) : Int)) (.int .u64 ((wd X.s 3 : Nat) : Int))).drew
      obtain ⟨p0'', _, _, _, _⟩ := row5 hPb
      obtain ⟨i0'', i1'', i2'', i3'', _, _, _, _⟩ := row4 hFb
      obtain ⟨s0, s1, s2, s3, _, _, _, _⟩ := row4 hRb
      refine hK.out _ _ ⟨hBb, p0'', i0'', i1'', i2'', i3''⟩ (fun hHeld => ?_)
      clear hK K
      try simp only [Act.put, List.setIfInBounds_toArray, List.set_cons_zero, List.set_cons_succ]
      refine wpAnyH_ready (rs := [8]) (by kernel_rfl) (by simp) ?_
      refine AllReadyH.cons (o := ?_) ?_ (fun K hK => ?_) ?_
      rotate_left
      (focus ((simp only [List.getElem?_toArray, List.getElem?_cons_succ, List.getElem?_cons_zero]); first | done | rfl))
      · skip
        go_simp
        refine hK.out _ _ ⟨hBb, p0'', i0'', i1'', i2'', i3''⟩ (fun hHeld => ?_)
        clear hK K
        try simp only [Act.put, List.setIfInBounds_toArray, List.set_cons_zero, List.set_cons_succ]
        refine wpAnyH_done (by kernel_rfl) ?_ _
        go_wp2_with fail
        exact bodyPost_ret (v := .tuple #[(.agg #[.int .u64 ((wd X.s 0 : Nat) : Int), .int .u64 ((wd X.s 1 : Nat) : Int), .int .u64 ((wd X.s 2 : Nat) : Int), .int .u64 ((wd X.s 3 : Nat) : Int)]), .bool !f]) (by simp [results, Try.results9, go_sem, s0, s1, s2, s3]) rfl ⟨by rw [HE2.out]; simp, hBb⟩
      exact AllReadyH.nil
    exact AllReadyH.nil
  · have f0' := hRa.thaw 0
    have f1' := hRa.thaw 1
    have f2' := hRa.thaw 2
    have f3' := hRa.thaw 3
    obtain ⟨q0', q1', q2', q3', _, _, _, _⟩ := row4 hRa
    refine wp_region_held_drew (S := fun W' => Below w.heap.size w W' ∧ W'.cell? ⟨w.heap.size + 1, 0, none⟩ = some (.int .i64 x.k) ∧ W'.cell? ⟨bF, 0, none⟩ = some (.int .u64 ((wd X.s 0 : Nat) : Int)) ∧ W'.cell? ⟨bF, 1, none⟩ = some (.int .u64 ((wd X.s 1 : Nat) : Int)) ∧ W'.cell? ⟨bF, 2, none⟩ = some (.int .u64 ((wd X.s 2 : Nat) : Int)) ∧ W'.cell? ⟨bF, 3, none⟩ = some (.int .u64 ((wd X.s 3 : Nat) : Int))) (by kernel_rfl) ⟨hBa.drew, p0', i0', i1', i2', i3'⟩ (fun hHeld => ?_)
    (refine wpAnyH_take (i := 0) (oi := ?_) (v := ?_) ?_ (by kernel_rfl) (by kernel_rfl) (by kernel_rfl) ?_ (Or.inl ⟨?_, ?_⟩) (by assumption) ?_; rotate_left 2; (focus ((simp only [List.getElem?_toArray, List.getElem?_cons_zero]); first | done | rfl)); (focus (exact fun _ _ _ h => h)); (focus rfl); (focus (intro wz hSw; (try dsimp only at hSw); go_simp; first | done | with_reducible rfl)); try simp only [Act.put, List.setIfInBounds_toArray, List.set_cons_zero, List.set_cons_succ])
    (refine wpAnyH_take (i := 1) (oi := ?_) (v := ?_) ?_ (by kernel_rfl) (by kernel_rfl) (by kernel_rfl) ?_ (Or.inl ⟨?_, ?_⟩) (by assumption) ?_; rotate_left 2; (focus ((simp only [List.getElem?_toArray, List.getElem?_cons_succ, List.getElem?_cons_zero]); first | done | rfl)); (focus (exact fun _ _ _ h => h)); (focus rfl); (focus (intro wz hSw; (try dsimp only at hSw); go_simp; first | done | with_reducible rfl)); try simp only [Act.put, List.setIfInBounds_toArray, List.set_cons_zero, List.set_cons_succ])
    (refine wpAnyH_take (i := 2) (oi := ?_) (v := ?_) ?_ (by kernel_rfl) (by kernel_rfl) (by kernel_rfl) ?_ (Or.inl ⟨?_, ?_⟩) (by assumption) ?_; rotate_left 2; (focus ((simp only [List.getElem?_toArray, List.getElem?_cons_succ, List.getElem?_cons_zero]); first | done | rfl)); (focus (exact fun _ _ _ h => h)); (focus rfl); (focus (intro wz hSw; (try dsimp only at hSw); go_simp; first | done | with_reducible rfl)); try simp only [Act.put, List.setIfInBounds_toArray, List.set_cons_zero, List.set_cons_succ])
    (refine wpAnyH_take (i := 3) (oi := ?_) (v := undef) ?_ (by kernel_rfl) (by kernel_rfl) (by kernel_rfl) ?_ (Or.inr ⟨?_, rfl⟩) (by assumption) ?_; rotate_left; (focus ((simp only [List.getElem?_toArray, List.getElem?_cons_succ, List.getElem?_cons_zero]); first | done | rfl)); (focus (exact fun _ _ _ h => h)); (focus rfl); try simp only [Act.put, List.setIfInBounds_toArray, List.set_cons_zero, List.set_cons_succ])
    (refine wpAnyH_take (i := 4) (oi := ?_) (v := undef) ?_ (by kernel_rfl) (by kernel_rfl) (by kernel_rfl) ?_ (Or.inr ⟨?_, rfl⟩) (by assumption) ?_; rotate_left; (focus ((simp only [List.getElem?_toArray, List.getElem?_cons_succ, List.getElem?_cons_zero]); first | done | rfl)); (focus (exact fun _ _ _ h => h)); (focus rfl); try simp only [Act.put, List.setIfInBounds_toArray, List.set_cons_zero, List.set_cons_succ])
    (refine wpAnyH_take (i := 5) (oi := ?_) (v := undef) ?_ (by kernel_rfl) (by kernel_rfl) (by kernel_rfl) ?_ (Or.inr ⟨?_, rfl⟩) (by assumption) ?_; rotate_left; (focus ((simp only [List.getElem?_toArray, List.getElem?_cons_succ, List.getElem?_cons_zero]); first | done | rfl)); (focus (exact fun _ _ _ h => h)); (focus rfl); try simp only [Act.put, List.setIfInBounds_toArray, List.set_cons_zero, List.set_cons_succ])
    (refine wpAnyH_take (i := 6) (oi := ?_) (v := ?_) ?_ (by kernel_rfl) (by kernel_rfl) (by kernel_rfl) ?_ (Or.inl ⟨?_, ?_⟩) (by assumption) ?_; rotate_left 2; (focus ((simp only [List.getElem?_toArray, List.getElem?_cons_succ, List.getElem?_cons_zero]); first | done | rfl)); (focus (exact fun _ _ _ h => h)); (focus rfl); (focus (intro wz hSw; (try dsimp only at hSw); go_simp; first | done | with_reducible rfl)); try simp only [Act.put, List.setIfInBounds_toArray, List.set_cons_zero, List.set_cons_succ])
    refine wpAnyH_ready (rs := [7]) (by kernel_rfl) (by simp) ?_
    refine AllReadyH.cons (o := ?_) ?_ (fun K hK => ?_) ?_
    rotate_left
    (focus ((simp only [List.getElem?_toArray, List.getElem?_cons_succ, List.getElem?_cons_zero]); first | done | rfl))
    · skip
      go_simp
      have hRb := hRa.set4 (.int .u64 ((wd X.s 0 : Nat) : Int)) (.int .u64 ((wd X.s 1 : Nat) : Int)) (.int .u64 ((wd X.s 2 : Nat) : Int)) (.int .u64 ((wd X.s 3 : Nat) : Int))
      have hPb := hPa.far4 (g' := w.heap.size) (by omega) (.int .u64 ((wd X.s 0 : Nat) : Int)) (.int .u64 ((wd X.s 1 : Nat) : Int)) (.int .u64 ((wd X.s 2 : Nat) : Int)) (.int .u64 ((wd X.s 3 : Nat) : Int))
      have hFb := hFa.far4 (g' := w.heap.size) (by omega) (.int .u64 ((wd X.s 0 : Nat) : Int)) (.int .u64 ((wd X.s 1 : Nat) : Int)) (.int .u64 ((wd X.s 2 : Nat) : Int)) (.int .u64 ((wd X.s 3 : Nat) : Int))
      have hBb := (below4 hBa (g := w.heap.size) (Nat.le_refl _) (.int .u64 ((wd X.s 0 : Nat) : Int)) (.int .u64 ((wd X.s 1 : Nat) : Int)) (.int .u64 ((wd X.s 2 : Nat) : Int)) (.int .u64 ((wd X.s 3 : Nat) : Int))).drew
      obtain ⟨p0'', _, _, _, _⟩ := row5 hPb
      obtain ⟨i0'', i1'', i2'', i3'', _, _, _, _⟩ := row4 hFb
      obtain ⟨s0, s1, s2, s3, _, _, _, _⟩ := row4 hRb
      refine hK.out _ _ ⟨hBb, p0'', i0'', i1'', i2'', i3''⟩ (fun hHeld => ?_)
      clear hK K
      try simp only [Act.put, List.setIfInBounds_toArray, List.set_cons_zero, List.set_cons_succ]
      refine wpAnyH_ready (rs := [8]) (by kernel_rfl) (by simp) ?_
      refine AllReadyH.cons (o := ?_) ?_ (fun K hK => ?_) ?_
      rotate_left
      (focus ((simp only [List.getElem?_toArray, List.getElem?_cons_succ, List.getElem?_cons_zero]); first | done | rfl))
      · skip
        go_simp
        refine hK.out _ _ ⟨hBb, p0'', i0'', i1'', i2'', i3''⟩ (fun hHeld => ?_)
        clear hK K
        try simp only [Act.put, List.setIfInBounds_toArray, List.set_cons_zero, List.set_cons_succ]
        refine wpAnyH_done (by kernel_rfl) ?_ _
        go_wp2_with fail
        exact bodyPost_ret (v := .tuple #[(.agg #[.int .u64 ((wd X.s 0 : Nat) : Int), .int .u64 ((wd X.s 1 : Nat) : Int), .int .u64 ((wd X.s 2 : Nat) : Int), .int .u64 ((wd X.s 3 : Nat) : Int)]), .bool true]) (by simp [results, Try.results9, go_sem, s0, s1, s2, s3]) rfl ⟨by rw [HE2.out]; simp, hBb⟩
      exact AllReadyH.nil
    exact AllReadyH.nil
end Go.Proofs.Ytkdhdlokilgccaa

namespace Go.Proofs.Ytkdhdlokilgccaa
open Go.RowKit
set_option linter.unusedVariables false

set_option maxHeartbeats 2000000 in
set_option maxRecDepth 100000 in
theorem rfirst_cat (x : Pc) (s t : Rx) (hk : x.k = 2) (hw : (Rx.bin x s t).wf) (ihs : RFirstOk s) (iht : RFirstOk t) : RFirstOk (.bin x s t) := by
  intro g off n cap w hL hn hmax hcap
  obtain ⟨m, hm⟩ : ∃ m, n - 1 = m := ⟨_, rfl⟩
  have hpos := (Rx.bin x s t).flat_pos
  have hn1 : n = m + 1 := by omega
  obtain ⟨g', off', e, hg, d0, d1, d2, d3, d4⟩ := hL.get m (by omega)
  simp at e
  obtain ⟨rfl, rfl⟩ := e
  have hx0 : (Rx.bin x s t).flat[m]'(by omega) = x := by
    have h1 := (Rx.bin x s t).flat_top
    rw [hn, hm, List.getElem?_eq_getElem (by omega)] at h1
    exact Option.some.inj h1
  rw [hx0] at d0 d1 d2 d3 d4
  have hk0 : Below w.heap.size w (w.alloc (.cells #[.int .u64 0, .int .u64 0, .int .u64 0, .int .u64 0] 28)) := (Below.refl _ _).alloc (Nat.le_refl _) _
  have a0 := (hk0.cell (p := ⟨g, off + m * 5, none⟩) hg).trans d0
  have a1 := (hk0.cell (p := ⟨g, off + m * 5 + 1, none⟩) hg).trans d1
  have a2 := (hk0.cell (p := ⟨g, off + m * 5 + 2, none⟩) hg).trans d2
  have a3 := (hk0.cell (p := ⟨g, off + m * 5 + 3, none⟩) hg).trans d3
  have a4 := (hk0.cell (p := ⟨g, off + m * 5 + 4, none⟩) hg).trans d4
  have hR := (St.new w 28 #[.int .u64 0, .int .u64 0, .int .u64 0, .int .u64 0]).alloc (.cells #[.int .i64 x.k, .int .u64 ((wd x.p 0 : Nat) : Int), .int .u64 ((wd x.p 1 : Nat) : Int), .int .u64 ((wd x.p 2 : Nat) : Int), .int .u64 ((wd x.p 3 : Nat) : Int)] 66)
  have hP : St ((w.alloc (.cells #[.int .u64 0, .int .u64 0, .int .u64 0, .int .u64 0] 28)).alloc (.cells #[.int .i64 x.k, .int .u64 ((wd x.p 0 : Nat) : Int), .int .u64 ((wd x.p 1 : Nat) : Int), .int .u64 ((wd x.p 2 : Nat) : Int), .int .u64 ((wd x.p 3 : Nat) : Int)] 66)) 66 (w.heap.size + 1) #[.int .i64 x.k, .int .u64 ((wd x.p 0 : Nat) : Int), .int .u64 ((wd x.p 1 : Nat) : Int), .int .u64 ((wd x.p 2 : Nat) : Int), .int .u64 ((wd x.p 3 : Nat) : Int)] := by
    have := St.new (w.alloc (.cells #[.int .u64 0, .int .u64 0, .int .u64 0, .int .u64 0] 28)) 66 #[.int .i64 x.k, .int .u64 ((wd x.p 0 : Nat) : Int), .int .u64 ((wd x.p 1 : Nat) : Int), .int .u64 ((wd x.p 2 : Nat) : Int), .int .u64 ((wd x.p 3 : Nat) : Int)]
    simpa using this
  have hB := hk0.alloc (by simp) (.cells #[.int .i64 x.k, .int .u64 ((wd x.p 0 : Nat) : Int), .int .u64 ((wd x.p 1 : Nat) : Int), .int .u64 ((wd x.p 2 : Nat) : Int), .int .u64 ((wd x.p 3 : Nat) : Int)] 66)
  have HC := Lib.hid (rparts_cap (.bin x s t) hw g off n cap _ (hL.below hB) hn hmax hcap)
  have hsz := hB.size
  have HR := Lib.hid hR
  have HP := Lib.hid hP
  have HB := Lib.hid hB
  have en : (n : Int) - 1 = (m : Int) := by omega
  have hmn : m < n := by omega
  have hcc : n ≤ 9223372036854775807 := by have := hcap.1; have := hcap.2; unfold maxLen at this; omega
  have hsl : s.flat.length ≤ 1000000 ∧ t.flat.length ≤ 1000000 := by
    have : (Rx.bin x s t).flat.length = s.flat.length + t.flat.length + 1 := by simp [Rx.flat]; omega
    omega
  have IHS := Lib.hid ihs
  have IHT := Lib.hid iht
  have HHW := Lib.hid hw
  have HKQ := Lib.hid hk
  clear hL hn hcap hR hP hB hx0 hw hn1 hm hpos hk
  go_enter Try.func9, Try.ntmps9
  go_wp2_with fail
  refine HC.out.mono ?_
  rintro e w5 ⟨aL, cL, rfl, hPt, b5⟩
  have hR5 := HR.out.keep b5
  have hP5 := HP.out.keep b5
  have hB5 := HB.out.trans (b5.mono hsz)
  obtain ⟨r0, r1, r2, r3, f0, f1, f2, f3⟩ := row4 hR5
  obtain ⟨p0, p1, p2, p3, p4⟩ := row5 hP5
  obtain ⟨b, g1, o1, c1, rfl, hc1, hR1, _, hbl, hm1, hm1'⟩ := hPt 0 (by show 0 < 2; decide)
  obtain ⟨b', g2, o2, c2, hbb, hc2, hR2, _, _, hm2, hm2'⟩ := hPt 1 (by show 1 < 2; decide)
  simp at hbb
  subst hbb
  obtain ⟨n1, hn1⟩ : ∃ n1, s.flat.length = n1 := ⟨_, rfl⟩
  obtain ⟨n2, hn2⟩ : ∃ n2, t.flat.length = n2 := ⟨_, rfl⟩
  have t1 : w5.cell? ⟨b, 0, none⟩ = some (.slice (some ⟨g1, o1, none⟩) n1 c1) := by rw [← hn1]; exact hc1
  have t2 : w5.cell? ⟨b, 1, none⟩ = some (.slice (some ⟨g2, o2, none⟩) n2 c2) := by rw [← hn2]; exact hc2
  obtain ⟨X, hX⟩ : ∃ X, refF s = X := ⟨_, rfl⟩
  obtain ⟨Y, hY⟩ : ∃ Y, refF t = Y := ⟨_, rfl⟩
  have h1 := IHS.out g1 o1 n1 c1 w5 hR1 hn1 (by omega) ⟨by rw [← hn1]; exact hm1, hm1'⟩
  have h2 := fun (W : World) (bw : Below w5.heap.size w5 W) => IHT.out g2 o2 n2 c2 W (hR2.below bw) hn2 (by omega) ⟨by rw [← hn2]; exact hm2, hm2'⟩
  rw [hX] at h1
  rw [hY] at h2
  have H1 := Lib.hid h1
  have H2 := Lib.hid h2
  have hs5 := hB5.size
  have hlR := hR5.lt
  have hk := HKQ.out
  have hE : refF (.bin x s t) = ⟨X.e && Y.e, if X.e = true then fun x => X.s x || Y.s x else X.s, X.n + Y.n + 1⟩ := by
    show joinOf _ _ _ = _
    unfold joinOf
    rw [hX, hY, if_neg (by show ¬ x.k = 0; omega), if_neg (by show ¬ x.k = 1; omega), if_neg (by show ¬ x.k = 3; omega), if_pos (by show x.k = 2; omega)]
  have HE := Lib.hid hE
  have k0 : (x.k == 0) = false := by simp; omega
  have k1 : (x.k == 1) = false := by simp; omega
  have k2 : (x.k == 2) = true := by simp [hk]
  clear hE
  rw [show (Rx.bin x s t).kids.length = 2 from rfl]
  clear hPt hc1 hc2 hR1 hR2 hn1 hn2 h1 h2 hm1 hm2 hm1' hm2' hX hY hk
  go_wp2_with fail
  refine H1.out.mono ?_
  rintro e w6 ⟨rfl, b6⟩
  have hbA : Below w5.heap.size w5 (w6.alloc (.cells #[.int .u64 ((wd X.s 0 : Nat) : Int), .int .u64 ((wd X.s 1 : Nat) : Int), .int .u64 ((wd X.s 2 : Nat) : Int), .int .u64 ((wd X.s 3 : Nat) : Int)] 28)) := b6.alloc b6.size _
  have hFA := St.new w6 28 #[.int .u64 ((wd X.s 0 : Nat) : Int), .int .u64 ((wd X.s 1 : Nat) : Int), .int .u64 ((wd X.s 2 : Nat) : Int), .int .u64 ((wd X.s 3 : Nat) : Int)]
  have hcA : (w6.alloc (.cells #[.int .u64 ((wd X.s 0 : Nat) : Int), .int .u64 ((wd X.s 1 : Nat) : Int), .int .u64 ((wd X.s 2 : Nat) : Int), .int .u64 ((wd X.s 3 : Nat) : Int)] 28)).cell? ⟨b, 1, none⟩ = some (.slice (some ⟨g2, o2, none⟩) n2 c2) := (hbA.cell (p := ⟨b, 1, none⟩) hbl).trans t2
  have hlF : w5.heap.size ≤ w6.heap.size := b6.size
  clear t1 t2 r0 r1 r2 r3 f0 f1 f2 f3 p0 p1 p2 p3 p4
  go_wp2_with fail
  generalize w6.alloc (.cells #[.int .u64 ((wd X.s 0 : Nat) : Int), .int .u64 ((wd X.s 1 : Nat) : Int), .int .u64 ((wd X.s 2 : Nat) : Int), .int .u64 ((wd X.s 3 : Nat) : Int)] 28) = w7 at hbA hFA hcA ⊢
  generalize w6.heap.size = bF at hFA hlF ⊢
  clear b6
  refine (H2.out w7 hbA).mono ?_
  rintro e w8 ⟨rfl, b8⟩
  have hFB := (hFA.keep b8).alloc (.cells #[.int .u64 ((wd Y.s 0 : Nat) : Int), .int .u64 ((wd Y.s 1 : Nat) : Int), .int .u64 ((wd Y.s 2 : Nat) : Int), .int .u64 ((wd Y.s 3 : Nat) : Int)] 28)
  have hGB := St.new w8 28 #[.int .u64 ((wd Y.s 0 : Nat) : Int), .int .u64 ((wd Y.s 1 : Nat) : Int), .int .u64 ((wd Y.s 2 : Nat) : Int), .int .u64 ((wd Y.s 3 : Nat) : Int)]
  have hbB := ((hbA.trans (b8.mono hbA.size)).alloc (Nat.le_trans hbA.size b8.size) (.cells #[.int .u64 ((wd Y.s 0 : Nat) : Int), .int .u64 ((wd Y.s 1 : Nat) : Int), .int .u64 ((wd Y.s 2 : Nat) : Int), .int .u64 ((wd Y.s 3 : Nat) : Int)] 28))
  have hne : bF < w8.heap.size := (hFA.keep b8).lt
  obtain ⟨u0, u1, u2, u3, _, _, _, _⟩ := row4 hFB
  obtain ⟨v0, v1, v2, v3, _, _, _, _⟩ := row4 hGB
  have f0 := hFB.thaw 0
  have f1 := hFB.thaw 1
  have f2 := hFB.thaw 2
  have f3 := hFB.thaw 3
  have hRB := hR5.keep hbB
  have hBB := hB5.trans (hbB.mono hs5)
  obtain ⟨r0, r1, r2, r3, q0, q1, q2, q3⟩ := row4 hRB
  obtain ⟨Xe, hXe⟩ : ∃ b, X.e = b := ⟨_, rfl⟩
  rw [hXe] at HE ⊢
  have hwF : w.heap.size < bF := by omega
  rcases Xe with _ | _
  · have HE2 : Hid (refF (.bin x s t) = ⟨false, X.s, X.n + Y.n + 1⟩) := by show _ = _; rw [HE.out]; simp
    clear HE
    have HE := HE2
    obtain ⟨s0, s1, s2, s3, _, _, _, _⟩ := row4 (hRB.set4 (.int .u64 ((wd X.s 0 : Nat) : Int)) (.int .u64 ((wd X.s 1 : Nat) : Int)) (.int .u64 ((wd X.s 2 : Nat) : Int)) (.int .u64 ((wd X.s 3 : Nat) : Int)))
    go_wp2_with fail
    exact bodyPost_ret (v := .tuple #[(.agg #[.int .u64 ((wd X.s 0 : Nat) : Int), .int .u64 ((wd X.s 1 : Nat) : Int), .int .u64 ((wd X.s 2 : Nat) : Int), .int .u64 ((wd X.s 3 : Nat) : Int)]), .bool false]) (by simp [results, Try.results9, go_sem, s0, s1, s2, s3]) rfl ⟨by rw [HE.out], below4 hBB (Nat.le_refl _) _ _ _ _⟩
  · have HE2 : Hid (refF (.bin x s t) = ⟨Y.e, (fun x => X.s x || Y.s x), X.n + Y.n + 1⟩) := by show _ = _; rw [HE.out]; simp
    clear HE
    have HE := HE2
    go_wp2_with fail
    refine (put0 X.s Y.s _).mono ?_
    rintro e w9 ⟨rfl, b9⟩
    have hR9 := hRB.keep b9
    have hF9 := hFB.keep b9
    have hB9 := hBB.trans (b9.mono hBB.size)
    have nx : ¬ (bF = w.heap.size) := by omega
    have nx' : ¬ (w.heap.size = bF) := by omega
    clear r0 r1 r2 r3 q0 q1 q2 q3 u0 u1 u2 u3 v0 v1 v2 v3 f0 f1 f2 f3
    obtain ⟨r0, r1, r2, r3, q0, q1, q2, q3⟩ := row4 hR9
    obtain ⟨u0, u1, u2, u3, f0, f1, f2, f3⟩ := row4 hF9
    have hF10 := hF9.set4 (.int .u64 ((wd (fun x => X.s x || Y.s x) 0 : Nat) : Int)) (.int .u64 ((wd (fun x => X.s x || Y.s x) 1 : Nat) : Int)) (.int .u64 ((wd (fun x => X.s x || Y.s x) 2 : Nat) : Int)) (.int .u64 ((wd (fun x => X.s x || Y.s x) 3 : Nat) : Int))
    have hR10 := hR9.far4 (g' := bF) (by omega) (.int .u64 ((wd (fun x => X.s x || Y.s x) 0 : Nat) : Int)) (.int .u64 ((wd (fun x => X.s x || Y.s x) 1 : Nat) : Int)) (.int .u64 ((wd (fun x => X.s x || Y.s x) 2 : Nat) : Int)) (.int .u64 ((wd (fun x => X.s x || Y.s x) 3 : Nat) : Int))
    have hB10 := below4 hB9 (g := bF) (by omega) (.int .u64 ((wd (fun x => X.s x || Y.s x) 0 : Nat) : Int)) (.int .u64 ((wd (fun x => X.s x || Y.s x) 1 : Nat) : Int)) (.int .u64 ((wd (fun x => X.s x || Y.s x) 2 : Nat) : Int)) (.int .u64 ((wd (fun x => X.s x || Y.s x) 3 : Nat) : Int))
    obtain ⟨v0, v1, v2, v3, _, _, _, _⟩ := row4 hF10
    obtain ⟨z0, z1, z2, z3, y0, y1, y2, y3⟩ := row4 hR10
    obtain ⟨s0, s1, s2, s3, _, _, _, _⟩ := row4 (hR10.set4 (.int .u64 ((wd (fun x => X.s x || Y.s x) 0 : Nat) : Int)) (.int .u64 ((wd (fun x => X.s x || Y.s x) 1 : Nat) : Int)) (.int .u64 ((wd (fun x => X.s x || Y.s x) 2 : Nat) : Int)) (.int .u64 ((wd (fun x => X.s x || Y.s x) 3 : Nat) : Int)))
    go_wp2_with fail
    exact bodyPost_ret (v := .tuple #[(.agg #[.int .u64 ((wd ((fun x => X.s x || Y.s x)) 0 : Nat) : Int), .int .u64 ((wd ((fun x => X.s x || Y.s x)) 1 : Nat) : Int), .int .u64 ((wd ((fun x => X.s x || Y.s x)) 2 : Nat) : Int), .int .u64 ((wd ((fun x => X.s x || Y.s x)) 3 : Nat) : Int)]), .bool Y.e]) (by simp [results, Try.results9, go_sem, s0, s1, s2, s3]) rfl ⟨by rw [HE.out], below4 hB10 (Nat.le_refl _) _ _ _ _⟩
end Go.Proofs.Ytkdhdlokilgccaa
