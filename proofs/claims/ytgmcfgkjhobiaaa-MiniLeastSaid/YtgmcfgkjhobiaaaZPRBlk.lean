import Derived.Test.YtgmcfgkjhobiaaaZPApt
import Derived.Deep.RegionHeld
import Derived.Deep.RegionHeld3
import Derived.OrdersHeld
namespace Go.Proofs.Ytgmcfgkjhobiaaa
open Go.RowKit Go.Maps Go.WideElems Go.ChangeMaps Go.MapKept
set_option linter.unusedVariables false
set_option linter.unusedSimpArgs false

theorem Try.info_bls9 : (Try.prog.info? 48).map (fun i => (i.zero, i.size, i.bytes)) = some (some (.slice none 0 0), 1, 24) := by kernel_rfl
theorem mrk8_mD {D : Dd} (hm : D.m = D.n) (i : Nat) (hi : i ≤ D.n) : mrk8 D (i : Int) = mD D i := by
  unfold mrk8 mD
  rw [hm]
  by_cases h : i < D.n
  · rw [if_pos (by omega), if_pos h]; simp
  · rw [if_neg (by omega), if_neg h]
def A0 (D : Dd) (x y : Nat) : Bool := mD D x != mD D y
theorem ap_row {D : Dd} {i k : Nat} {f : Nat → Bool} (hf : ∀ y, y < k → f y = A0 D i y) : ∀ y, y < k + 1 → (fun j => if j = k then (mD D i != mD D k) else f j) y = A0 D i y := by
  intro y hy
  by_cases e : y = k
  · simp only [if_pos e]; rw [e]; rfl
  · simp only [if_neg e]; exact hf y (by omega)
theorem A0_ap {C : Nat} (D : Dd) (N : Nat) : Ap C (tD D) (mD D) N 0 0 0 0 (A0 D) := Ap.start (fun x y _ _ => by simp [A0])
theorem AptM.cells {W0 w : World} {M N g c : Nat} {gs : Nat → Nat} {A : Nat → Nat → Bool} (h : AptM W0 M N (.slice (some ⟨g, 0, none⟩) M c) gs A w) {i : Nat} (hi : i < M) : w.cell? ⟨g, i, none⟩ = some (.slice (some ⟨gs i, 0, none⟩) N N) := by
  obtain ⟨g', c', e, _, h3⟩ := h.out hi
  injection e with e
  injection e with e
  injection e with e _
  subst e
  exact h3 i hi
def ApPost (D : Dd) (C : Nat) (w : World) (e : Ending) (w' : World) : Prop :=
  ∃ (vO : Value) (gs : Nat → Nat) (A : Nat → Nat → Bool), e = .returned vO ∧ AptM w (D.n + 1) (D.n + 1) vO gs A w' ∧ ∀ x y, x < D.n + 1 → y < D.n + 1 → (A x y = true ↔ ¬ Eqv C (tD D) (mD D) x y)
theorem AptM.nil (W0 : World) (N : Nat) (gs : Nat → Nat) (A : Nat → Nat → Bool) : AptM W0 0 N (.slice none 0 0) gs A W0 :=
  ⟨Below.refl _ _, ⟨World.ownsRow_nil _ _ _ _, fun i hi => absurd hi (by omega), fun i j hi => absurd hi (by omega)⟩⟩
theorem AptM.base {W0 W w : World} {M N : Nat} {vO : Value} {gs : Nat → Nat} {A : Nat → Nat → Bool} (h : AptM W0 M N vO gs A w) (k : Below W.heap.size W W0) : AptM W M N vO gs A w :=
  ⟨k.trans (h.bel.mono k.size), ⟨ownsRow_base h.gr.own k.size, fun i hi => ownsRow_base (h.gr.row i hi) k.size, h.gr.sep⟩⟩
/-- A row is put behind. -/
theorem AptM.push {W0 wr w1 w2 w' : World} {M N g : Nat} {vO v' : Value} {gs : Nat → Nat} {A : Nat → Nat → Bool} {f : Nat → Bool} (h : AptM W0 M N vO gs A wr) (ho : OB wr g N f w1) (hN : 0 < N) (hf : ∀ y, y < N → f y = A M y) (k2 : Below w1.heap.size w1 w2)
    (hown : w2.ownsRow W0.heap.size 48 1 vO M ((List.range M).map fun i => .slice (some ⟨gs i, 0, none⟩) N N) → w'.ownsRow W0.heap.size 48 1 v' (M + 1) (((List.range M).map fun i => .slice (some ⟨gs i, 0, none⟩) N N) ++ [.slice (some ⟨g, 0, none⟩) N N])) (hg : w2.grownBy w' vO.ownBlock) :
    AptM W0 (M + 1) N v' (fun i => if i = M then g else gs i) A w' := by
  have h2 := (h.keep ho.bel).keep k2
  have hlt := h.gr.lt.2
  have e : bls f N = bls (A M) N := by
    unfold bls
    refine List.map_congr_left fun x hx => ?_
    rw [hf x (List.mem_range.1 hx)]
  have hu : w2.ownsRow W0.heap.size 4 1 (.slice (some ⟨g, 0, none⟩) N N) N (bls (A M) N) := by
    rw [← e]
    exact ownsRow_base (ownsRow_keep ho.own k2) h.bel.size
  have hp := h2.gr.pushRow (u := .slice (some ⟨g, 0, none⟩) N N) (by decide) hu (fun i hi b e1 e2 => by
    have h3 := hlt i hi b e1
    have h4 := ho.lo
    have h5 : g = b := by simpa [Value.ownBlock] using e2
    omega) (hown h2.gr.own) hg
  refine ⟨below_grown_own h2.bel h2.gr.own h2.bel.size hg, ?_⟩
  have e3 : (fun j => if j = M then Value.slice (some ⟨g, 0, none⟩) N N else .slice (some ⟨gs j, 0, none⟩) N N) = fun i => .slice (some ⟨(fun i => if i = M then g else gs i) i, 0, none⟩) N N := by
    funext j
    by_cases e : j = M <;> simp [e]
  rw [e3] at hp
  exact hp

set_option maxHeartbeats 4000000 in
set_option maxRecDepth 100000 in
theorem rapart_any (D : Dd) (C : Nat) (hR : DR D C) (w : World) (hD : DM w D) :
    Calls Try.prog 34 #[.agg D.cD] w (ApPost D C w) := by
  have HB := Lib.hid (And.intro (DBx.new hD) (And.intro (al w (.cells D.cD 26)) (And.intro hR hR.m)))
  have hn2 := hR.n2
  have hn1 := hR.n1
  have hC6 := (hR.c256 hD.kl).2
  obtain ⟨N, hN⟩ : ∃ N, D.n + 1 = N := ⟨_, rfl⟩
  have hmk := make_bl N (by omega)
  clear hD hR
  go_enter Try.func34, Try.ntmps34
  go_upto_region 1 with fail
  generalize w.alloc (.cells D.cD 26) = W0 at HB ⊢
  obtain ⟨b0, hb0⟩ : ∃ b0, w.heap.size = b0 := ⟨_, rfl⟩
  have Hb0 := Lib.hid hb0
  rw [hb0] at HB
  rw [hb0]
  clear hb0
  have f1 := HB.out.1.f1
  have i0 : ((D.n : Int) + 1) = (N : Int) := by omega
  have i1 : IntKind.i64.wrap ((D.n : Int) + 1) = (N : Int) := by rw [i0]; exact IntWalk.i64_in _ (by omega)
  have HA0 : Hid (∃ gs, AptM W0 0 N (.slice none 0 0) gs (A0 D) W0) := ⟨fun _ => 0, AptM.nil _ _ _ _⟩
  go_wp2_with fail
  go_loopw [4, 5, 6, 7] (fun v4 v5 _ _ wr => ∃ (i : Nat), v5 = .int .i64 i ∧ i ≤ N ∧ (∃ a c, v4 = .slice a i c) ∧ Hid (∃ gs, AptM W0 i N v4 gs (A0 D) wr)) (fun _ v _ _ _ => N - (intOf v).toNat)
  case atStart => exact ⟨0, rfl, by omega, ⟨_, _, rfl⟩, HA0⟩
  case round =>
    obtain ⟨i, rfl, hi, ⟨a4, c4, rfl⟩, HA⟩ := hrel
    clear HA0 f1
    revert wr
    intro wo HA
    by_cases hlt : i < N
    · have j1 : (i : Int) < (N : Int) := by omega
      have HO0 := Lib.hid (OB.made wo N (by unfold maxLen; omega))
      go_upto_region 7 with fail
      obtain ⟨g, hg⟩ : ∃ g, wo.heap.size = g := ⟨_, rfl⟩
      rw [hg] at HO0
      rw [hg]
      generalize wo.alloc (.cells (madeCells #[.bool false] N) 4) = W1 at HO0 ⊢
      go_wp2_with fail
      go_loopw [7] (fun v wq => ∃ (k : Nat), v = .int .i64 k ∧ k ≤ N ∧ Hid (∃ f, OB wo g N f wq ∧ ∀ y, y < k → f y = A0 D i y)) (fun v _ => N - (intOf v).toNat)
      case atStart => exact ⟨0, rfl, by omega, _, HO0.out, fun y hy => absurd hy (by omega)⟩
      case round =>
        clear HO0
        obtain ⟨k, rfl, hk, HF⟩ := hrel
        by_cases hlk : k < N
        · have j2 : (k : Int) < (N : Int) := by omega
          obtain ⟨f, hO, hf⟩ := HF.out
          have HO := Lib.hid hO
          have Hf := Lib.hid hf
          have Hlt : Hid (i ≤ D.n ∧ k ≤ D.n) := ⟨by omega, by omega⟩
          clear hO hf HF
          obtain ⟨gs, hA⟩ := HA.out
          have HAb := Lib.hid hA.bel
          have hwr : W0.heap.size ≤ wo.heap.size := hA.bel.size
          clear hA
          have HSo : Hid (∀ W', Below wo.heap.size wo W' → Below wo.heap.size wo W' ∧ DBx W' b0 D) := fun W' h => ⟨h, (HB.out.1.keep (HAb.out.trans (h.mono hwr)))⟩
          go_upto_region 10 with fail
          have HO1 := Lib.hid (HO.out.keep (Below.refl wr.heap.size wr).drew)
          have hb1 := HAb.out.trans (HO1.out.bel.mono hwr)
          refine wp_region_held_drew (S := fun W' => Below W0.heap.size W0 W' ∧ DBx W' b0 D) (by kernel_rfl) ⟨hb1, HB.out.1.keep hb1⟩ (fun hHeld => ?_)
          clear hb1
          (refine wpAnyH_take (i := 0) (oi := ?_) (v := ?_) ?_ (by kernel_rfl) (by kernel_rfl) (by kernel_rfl) ?_ (Or.inl ⟨?_, ?_⟩) (by assumption) ?_; rotate_left 2; (focus ((simp only [List.getElem?_toArray, List.getElem?_cons_zero]); first | done | rfl)); (focus (exact fun _ _ _ h => h)); (focus rfl); (focus (intro wz hSw; (try dsimp only at hSw); go_simp; first | done | with_reducible rfl)); try simp only [Act.put, List.setIfInBounds_toArray, List.set_cons_zero, List.set_cons_succ])
          (refine wpAnyH_take (i := 1) (oi := ?_) (v := ?_) ?_ (by kernel_rfl) (by kernel_rfl) (by kernel_rfl) ?_ (Or.inl ⟨?_, ?_⟩) (by assumption) ?_; rotate_left 2; (focus ((simp only [List.getElem?_toArray, List.getElem?_cons_succ, List.getElem?_cons_zero]); first | done | rfl)); (focus (exact fun _ _ _ h => h)); (focus rfl); (focus (intro wz hSw; (try dsimp only at hSw); go_simp; first | done | with_reducible rfl)); try simp only [Act.put, List.setIfInBounds_toArray, List.set_cons_zero, List.set_cons_succ])
          (refine wpAnyH_take (i := 2) (oi := ?_) (v := .agg D.cD) ?_ (by kernel_rfl) (by kernel_rfl) (by kernel_rfl) ?_ (Or.inl ⟨?_, ?_⟩) (by assumption) ?_; rotate_left; (focus ((simp only [List.getElem?_toArray, List.getElem?_cons_succ, List.getElem?_cons_zero]); first | done | rfl)); (focus (exact fun _ _ _ h => h)); (focus rfl); (focus (intro wz hSw; exact exec_load_any9 (o := _) (ρ := _) wz 26 (.tmp 1) rfl ⟨b0, 0, none⟩ rfl D.cD _ (DBx.st (And.right hSw)).part Try.underlying26 rfl (DBx.dm (And.right hSw)).info)); try simp only [Act.put, List.setIfInBounds_toArray, List.set_cons_zero, List.set_cons_succ])
          (refine wpAnyH_take (i := 3) (oi := ?_) (v := ?_) ?_ (by kernel_rfl) (by kernel_rfl) (by kernel_rfl) ?_ (Or.inl ⟨?_, ?_⟩) (by assumption) ?_; rotate_left 2; (focus ((simp only [List.getElem?_toArray, List.getElem?_cons_succ, List.getElem?_cons_zero]); first | done | rfl)); (focus (exact fun _ _ _ h => h)); (focus rfl); (focus (intro wz hSw; (try dsimp only at hSw); go_simp; first | done | with_reducible rfl)); try simp only [Act.put, List.setIfInBounds_toArray, List.set_cons_zero, List.set_cons_succ])
          (refine wpAnyH_take (i := 5) (oi := ?_) (v := .agg D.cD) ?_ (by kernel_rfl) (by kernel_rfl) (by kernel_rfl) ?_ (Or.inl ⟨?_, ?_⟩) (by assumption) ?_; rotate_left; (focus ((simp only [List.getElem?_toArray, List.getElem?_cons_succ, List.getElem?_cons_zero]); first | done | rfl)); (focus (exact fun _ _ _ h => h)); (focus rfl); (focus (intro wz hSw; exact exec_load_any9 (o := _) (ρ := _) wz 26 (.tmp 1) rfl ⟨b0, 0, none⟩ rfl D.cD _ (DBx.st (And.right hSw)).part Try.underlying26 rfl (DBx.dm (And.right hSw)).info)); try simp only [Act.put, List.setIfInBounds_toArray, List.set_cons_zero, List.set_cons_succ])
          (refine wpAnyH_take (i := 6) (oi := ?_) (v := ?_) ?_ (by kernel_rfl) (by kernel_rfl) (by kernel_rfl) ?_ (Or.inl ⟨?_, ?_⟩) (by assumption) ?_; rotate_left 2; (focus ((simp only [List.getElem?_toArray, List.getElem?_cons_succ, List.getElem?_cons_zero]); first | done | rfl)); (focus (exact fun _ _ _ h => h)); (focus rfl); (focus (intro wz hSw; (try dsimp only at hSw); go_simp; first | done | with_reducible rfl)); try simp only [Act.put, List.setIfInBounds_toArray, List.set_cons_zero, List.set_cons_succ])
          refine wpAnyH_ready (rs := [4]) (by kernel_rfl) (by simp) ?_
          refine AllReadyH.cons (o := ?_) ?_ (fun K hK => ?_) ?_
          rotate_left
          (focus ((simp only [List.getElem?_toArray, List.getElem?_cons_succ, List.getElem?_cons_zero]); first | done | rfl))
          · skip
            go_simp
            go_at_call 19
            refine (rmark8_any D ((i : Nat) : Int) _ hHeld.2.dm (by have := HB.out.2.2.1.m; omega)).mono ?_
            rintro e w8 ⟨rfl, vv⟩
            rw [mrk8_mD HB.out.2.2.1.m i Hlt.out.1]
            have hbn : Below W0.heap.size W0 w8 := hHeld.1.trans (vv.mono hHeld.1.size)
            have HO2 := Lib.hid (HO1.out.keep vv)
            clear vv
            have hdx := HB.out.1.keep hbn
            try go_wp2_with fail
            refine hK.out _ _ (⟨hbn, hdx⟩) (fun hHeld => ?_)
            clear hK K
            try simp only [Act.put, List.setIfInBounds_toArray, List.set_cons_zero, List.set_cons_succ]
            clear hbn hdx
            refine wpAnyH_ready (rs := [7]) (by kernel_rfl) (by simp) ?_
            refine AllReadyH.cons (o := ?_) ?_ (fun K hK => ?_) ?_
            rotate_left
            (focus ((simp only [List.getElem?_toArray, List.getElem?_cons_succ, List.getElem?_cons_zero]); first | done | rfl))
            · skip
              go_simp
              go_at_call 19
              refine (rmark8_any D ((k : Nat) : Int) _ hHeld.2.dm (by have := HB.out.2.2.1.m; omega)).mono ?_
              rintro e w9 ⟨rfl, vv⟩
              rw [mrk8_mD HB.out.2.2.1.m k Hlt.out.2]
              have hbn : Below W0.heap.size W0 w9 := hHeld.1.trans (vv.mono hHeld.1.size)
              have HO3 := Lib.hid (HO2.out.keep vv)
              clear vv
              have hdx := HB.out.1.keep hbn
              try go_wp2_with fail
              refine hK.out _ _ (⟨hbn, hdx⟩) (fun hHeld => ?_)
              clear hK K
              try simp only [Act.put, List.setIfInBounds_toArray, List.set_cons_zero, List.set_cons_succ]
              clear hbn hdx
              (refine wpAnyH_take (i := 8) (oi := ?_) (v := ?_) ?_ (by kernel_rfl) (by kernel_rfl) (by kernel_rfl) ?_ (Or.inl ⟨?_, ?_⟩) (by assumption) ?_; rotate_left 2; (focus ((simp only [List.getElem?_toArray, List.getElem?_cons_succ, List.getElem?_cons_zero]); first | done | rfl)); (focus (exact fun _ _ _ h => h)); (focus rfl); (focus (intro wz hSw; (try dsimp only at hSw); go_simp; first | done | with_reducible rfl)); try simp only [Act.put, List.setIfInBounds_toArray, List.set_cons_zero, List.set_cons_succ])
              (refine wpAnyH_take (i := 9) (oi := ?_) (v := ?_) ?_ (by kernel_rfl) (by kernel_rfl) (by kernel_rfl) ?_ (Or.inl ⟨?_, ?_⟩) (by assumption) ?_; rotate_left 2; (focus ((simp only [List.getElem?_toArray, List.getElem?_cons_succ, List.getElem?_cons_zero]); first | done | rfl)); (focus (exact fun _ _ _ h => h)); (focus rfl); (focus (intro wz hSw; (try dsimp only at hSw); go_simp; first | done | with_reducible rfl)); try simp only [Act.put, List.setIfInBounds_toArray, List.set_cons_zero, List.set_cons_succ])
              refine wpAnyH_ready (rs := [10]) (by kernel_rfl) (by simp) ?_
              refine AllReadyH.cons (o := ?_) ?_ (fun K hK => ?_) ?_
              rotate_left
              (focus ((simp only [List.getElem?_toArray, List.getElem?_cons_succ, List.getElem?_cons_zero]); first | done | rfl))
              · skip
                obtain ⟨y0, y1⟩ := HO3.out.cell k hlk
                go_simp
                have HO4 := Lib.hid (HO3.out.put k hlk (mD D i != mD D k))
                have hbn : Below W0.heap.size W0 (w9.setCell ⟨g, k, none⟩ (.bool (mD D i != mD D k))) := HAb.out.trans (HO4.out.bel.mono hwr)
                have hdx := HB.out.1.keep hbn
                try go_wp2_with fail
                refine hK.out _ _ (⟨hbn, hdx⟩) (fun hHeld => ?_)
                clear hK K
                try simp only [Act.put, List.setIfInBounds_toArray, List.set_cons_zero, List.set_cons_succ]
                clear hbn hdx y0 y1
                refine wpAnyH_done (by kernel_rfl) ?_ _
                have HF : Hid (∃ f, OB wo g N f _ ∧ ∀ y, y < k + 1 → f y = A0 D i y) := ⟨_, HO4.out, ap_row Hf.out⟩
                clear hHeld HO1 HO2 HO3 HO4
                go_wp2_with fail
                go_roundw
                case rel => exact ⟨k + 1, by go_num, by omega, HF.out⟩
                case measure => simp [intOf]; omega
              exact AllReadyH.nil
            exact AllReadyH.nil
          exact AllReadyH.nil
        · obtain rfl : k = N := by omega
          obtain ⟨f, hO, hf⟩ := HF.out
          obtain ⟨gs, hA⟩ := HA.out
          have HO := Lib.hid hO
          have Hf := Lib.hid hf
          have HA2 := Lib.hid hA
          have hwr : W0.heap.size ≤ wo.heap.size := hA.bel.size
          have hwq := hO.bel.size
          have k9 := al wr (.cells #[.slice (some ⟨g, 0, none⟩) k k] 48)
          have ho9 := ((hA.keep hO.bel).keep k9).gr.own
          obtain ⟨i9, hi9, hz0, hz1, hz2⟩ := info_parts Try.info_bls9
          clear hO hf hA HF
          go_wp2_with (at_builtin; refine wpList_append_own_at _ rfl _ _ 46 rfl W0.heap.size 48 i9 (.slice none 0 0) 1 24 Try.underlying46 hi9 hz0 hz1 hz2 rfl (by decide) _ _ _ rfl ho9 ⟨wr.heap.size, 0, none⟩ 1 1 [.slice (some ⟨g, 0, none⟩) k k] rfl rfl (cell_one_new _ _ _) ?d2 ?d3 ?d4 ?d5 ?_)
          case d2 => first | (intro u hu; simp at hu; subst hu; rfl) | rfl
          case d3 => unfold maxLen; omega
          case d4 => omega
          case d5 => first | (simp; omega) | omega
          intro v' w5 hown5 hgrow5 _ hat5
          obtain ⟨a5, c5, rfl⟩ := ownsRow_slice hown5
          have HN := Lib.hid (HA2.out.push HO.out (by omega) Hf.out k9 (fun _ => hown5) hgrow5)
          clear hown5 hgrow5 hat5 ho9 k9
          go_wp2_with fail
          go_roundw
          case rel => exact ⟨i + 1, by go_num, by omega, ⟨_, _, rfl⟩, _, HN.out⟩
          case measure => simp [intOf]; omega
    · obtain rfl : i = N := by omega
      obtain ⟨gs, hA⟩ := HA.out
      obtain ⟨gO, cO, eO, _, _⟩ := hA.out (i := 0) (by omega)
      rw [eO]
      rw [eO] at hA
      have HA1 : Hid (∃ A, AptM W0 i i (.slice (some ⟨gO, 0, none⟩) i cO) gs A wo ∧ Ap C (tD D) (mD D) i 0 0 0 0 A) := ⟨_, hA, A0_ap D i⟩
      clear hA eO HA hmk
      have htl : Hid (∀ x c, x < i → c < C → tD D x c < i) := fun x c _ hc => by rw [← hN]; exact tD_lt HB.out.2.2.1 x c hc
      go_wp2_with fail
      go_loopw [8, 9, 10, 11] (fun v8 _ _ _ wq => ∃ (r : Nat), v8 = .int .i64 r ∧ r ≤ i ∧ Hid (∃ A, AptM W0 i i (.slice (some ⟨gO, 0, none⟩) i cO) gs A wq ∧ Ap C (tD D) (mD D) i r 0 0 0 A)) (fun v _ _ _ _ => i - (intOf v).toNat)
      case atStart => exact ⟨0, rfl, by omega, HA1.out⟩
      case round =>
        clear HA1
        obtain ⟨r, rfl, hr, HP⟩ := hrel
        by_cases hlr : r < i
        · have j2 : (r : Int) < (i : Int) := by omega
          go_wp2_with fail
          go_loopw [9, 10, 11] (fun v9 _ _ wq => ∃ (x : Nat), v9 = .int .i64 x ∧ x ≤ i ∧ Hid (∃ A, AptM W0 i i (.slice (some ⟨gO, 0, none⟩) i cO) gs A wq ∧ Ap C (tD D) (mD D) i r x 0 0 A)) (fun v _ _ _ => i - (intOf v).toNat)
          case atStart => exact ⟨0, rfl, by omega, HP.out⟩
          case round =>
            clear HP
            obtain ⟨x, rfl, hx, HP⟩ := hrel
            by_cases hlx : x < i
            · have j3 : (x : Int) < (i : Int) := by omega
              go_wp2_with fail
              go_loopw [10, 11] (fun v10 _ wq => ∃ (y : Nat), v10 = .int .i64 y ∧ y ≤ i ∧ Hid (∃ A, AptM W0 i i (.slice (some ⟨gO, 0, none⟩) i cO) gs A wq ∧ Ap C (tD D) (mD D) i r x y 0 A)) (fun v _ _ => i - (intOf v).toNat)
              case atStart => exact ⟨0, rfl, by omega, HP.out⟩
              case round =>
                clear HP
                obtain ⟨y, rfl, hy, HP⟩ := hrel
                by_cases hly : y < i
                · have j4 : (y : Int) < (i : Int) := by omega
                  go_wp2_with fail
                  go_loopw [11] (fun v11 wq => ∃ (c : Nat), v11 = .int .i64 c ∧ c ≤ C ∧ Hid (∃ A, AptM W0 i i (.slice (some ⟨gO, 0, none⟩) i cO) gs A wq ∧ Ap C (tD D) (mD D) i r x y c A)) (fun v _ => C - (intOf v).toNat)
                  case atStart => exact ⟨0, rfl, by omega, HP.out⟩
                  case round =>
                    clear HP
                    obtain ⟨c, rfl, hc, HP⟩ := hrel
                    obtain ⟨A, hP, hAp⟩ := HP.out
                    have hdx := HB.out.1.keep hP.bel
                    have f1 := hdx.f1
                    obtain ⟨gN, oN, eN, hgN, cN, _⟩ := hdx.dm.row 0 (by omega)
                    rw [eN] at f1
                    rw [HB.out.2.2.1.len 0 (by omega)] at cN
                    simp only [Nat.add_zero] at cN
                    have cO1 := hP.cells hlx
                    have cb := (hP.cell hlx hly).1
                    have HP1 := Lib.hid hP
                    have HAp := Lib.hid hAp
                    have HeN := Lib.hid eN
                    clear hP hAp hdx eN hgN HP
                    by_cases hlc : c < C
                    · have j5 : (c : Int) < (C : Int) := by omega
                      cases hAv : A x y
                      · rw [hAv] at cb
                        obtain ⟨ti, hti⟩ : ∃ ti, tD D x c = ti := ⟨_, rfl⟩
                        obtain ⟨tk, htk⟩ : ∃ tk, tD D y c = tk := ⟨_, rfl⟩
                        have hti1 : ti < i := by rw [← hti]; exact htl.out x c hlx hlc
                        have htk1 : tk < i := by rw [← htk]; exact htl.out y c hly hlc
                        have HT := Lib.hid (And.intro hti htk)
                        have HNx := Lib.hid (HAp.out.put htl.out hlx hly hlc hAv)
                        rw [hti, htk] at HNx
                        have HSo : Hid (∀ A' W', AptM W0 i i (.slice (some ⟨gO, 0, none⟩) i cO) gs A' W' → Below W0.heap.size W0 W' ∧ DBx W' b0 D ∧ W'.cell? ⟨gO, x, none⟩ = some (.slice (some ⟨gs x, 0, none⟩) i i) ∧ W'.cell? ⟨gO, ti, none⟩ = some (.slice (some ⟨gs ti, 0, none⟩) i i)) := fun A' W' h => ⟨h.bel, HB.out.1.keep h.bel, h.cells hlx, h.cells hti1⟩
                        have Hav := Lib.hid hAv
                        have hxn : x ≤ D.n := by omega
                        have hyn : y ≤ D.n := by omega
                        have j6 : (ti : Int) < (i : Int) := by omega
                        have j7 : (tk : Int) < (i : Int) := by omega
                        clear hti htk hAv
                        go_upto_region 24 with fail
                        have HQ1 := Lib.hid (HP1.out.keep (Below.refl wr.heap.size wr).drew)
                        refine wp_region_held_drew (S := fun W' => Below W0.heap.size W0 W' ∧ DBx W' b0 D ∧ W'.cell? ⟨gO, x, none⟩ = some (.slice (some ⟨gs x, 0, none⟩) i i) ∧ W'.cell? ⟨gO, ti, none⟩ = some (.slice (some ⟨gs ti, 0, none⟩) i i)) (by kernel_rfl) (HSo.out _ _ HQ1.out) (fun hHeld => ?_)
                        (refine wpAnyH_take (i := 0) (oi := ?_) (v := ?_) ?_ (by kernel_rfl) (by kernel_rfl) (by kernel_rfl) ?_ (Or.inl ⟨?_, ?_⟩) (by assumption) ?_; rotate_left 2; (focus ((simp only [List.getElem?_toArray, List.getElem?_cons_zero]); first | done | rfl)); (focus (exact fun _ _ _ h => h)); (focus rfl); (focus (intro wz hSw; (try dsimp only at hSw); go_simp; first | done | with_reducible rfl)); try simp only [Act.put, List.setIfInBounds_toArray, List.set_cons_zero, List.set_cons_succ])
                        (refine wpAnyH_take (i := 1) (oi := ?_) (v := ?_) ?_ (by kernel_rfl) (by kernel_rfl) (by kernel_rfl) ?_ (Or.inl ⟨?_, ?_⟩) (by assumption) ?_; rotate_left 2; (focus ((simp only [List.getElem?_toArray, List.getElem?_cons_succ, List.getElem?_cons_zero]); first | done | rfl)); (focus (exact fun _ _ _ h => h)); (focus rfl); (focus (intro wz hSw; (try dsimp only at hSw); go_simp; first | done | with_reducible rfl)); try simp only [Act.put, List.setIfInBounds_toArray, List.set_cons_zero, List.set_cons_succ])
                        (refine wpAnyH_take (i := 2) (oi := ?_) (v := ?_) ?_ (by kernel_rfl) (by kernel_rfl) (by kernel_rfl) ?_ (Or.inl ⟨?_, ?_⟩) (by assumption) ?_; rotate_left 2; (focus ((simp only [List.getElem?_toArray, List.getElem?_cons_succ, List.getElem?_cons_zero]); first | done | rfl)); (focus (exact fun _ _ _ h => h)); (focus rfl); (focus (intro wz hSw; (try dsimp only at hSw); go_simp; first | done | with_reducible rfl)); try simp only [Act.put, List.setIfInBounds_toArray, List.set_cons_zero, List.set_cons_succ])
                        (refine wpAnyH_take (i := 3) (oi := ?_) (v := ?_) ?_ (by kernel_rfl) (by kernel_rfl) (by kernel_rfl) ?_ (Or.inl ⟨?_, ?_⟩) (by assumption) ?_; rotate_left 2; (focus ((simp only [List.getElem?_toArray, List.getElem?_cons_succ, List.getElem?_cons_zero]); first | done | rfl)); (focus (exact fun _ _ _ h => h)); (focus rfl); (focus (intro wz hSw; (try dsimp only at hSw); go_simp; first | done | with_reducible rfl)); try simp only [Act.put, List.setIfInBounds_toArray, List.set_cons_zero, List.set_cons_succ])
                        (refine wpAnyH_take (i := 4) (oi := ?_) (v := ?_) ?_ (by kernel_rfl) (by kernel_rfl) (by kernel_rfl) ?_ (Or.inl ⟨?_, ?_⟩) (by assumption) ?_; rotate_left 2; (focus ((simp only [List.getElem?_toArray, List.getElem?_cons_succ, List.getElem?_cons_zero]); first | done | rfl)); (focus (exact fun _ _ _ h => h)); (focus rfl); (focus (intro wz hSw; (try dsimp only at hSw); go_simp; first | done | with_reducible rfl)); try simp only [Act.put, List.setIfInBounds_toArray, List.set_cons_zero, List.set_cons_succ])
                        (refine wpAnyH_take (i := 5) (oi := ?_) (v := ?_) ?_ (by kernel_rfl) (by kernel_rfl) (by kernel_rfl) ?_ (Or.inl ⟨?_, ?_⟩) (by assumption) ?_; rotate_left 2; (focus ((simp only [List.getElem?_toArray, List.getElem?_cons_succ, List.getElem?_cons_zero]); first | done | rfl)); (focus (exact fun _ _ _ h => h)); (focus rfl); (focus (intro wz hSw; (try dsimp only at hSw); go_simp; first | done | with_reducible rfl)); try simp only [Act.put, List.setIfInBounds_toArray, List.set_cons_zero, List.set_cons_succ])
                        (refine wpAnyH_take (i := 6) (oi := ?_) (v := .agg D.cD) ?_ (by kernel_rfl) (by kernel_rfl) (by kernel_rfl) ?_ (Or.inl ⟨?_, ?_⟩) (by assumption) ?_; rotate_left; (focus ((simp only [List.getElem?_toArray, List.getElem?_cons_succ, List.getElem?_cons_zero]); first | done | rfl)); (focus (exact fun _ _ _ h => h)); (focus rfl); (focus (intro wz hSw; exact exec_load_any9 (o := _) (ρ := _) wz 26 (.tmp 1) rfl ⟨b0, 0, none⟩ rfl D.cD _ (DBx.st (And.left (And.right hSw))).part Try.underlying26 rfl (DBx.dm (And.left (And.right hSw))).info)); try simp only [Act.put, List.setIfInBounds_toArray, List.set_cons_zero, List.set_cons_succ])
                        (refine wpAnyH_take (i := 7) (oi := ?_) (v := ?_) ?_ (by kernel_rfl) (by kernel_rfl) (by kernel_rfl) ?_ (Or.inl ⟨?_, ?_⟩) (by assumption) ?_; rotate_left 2; (focus ((simp only [List.getElem?_toArray, List.getElem?_cons_succ, List.getElem?_cons_zero]); first | done | rfl)); (focus (exact fun _ _ _ h => h)); (focus rfl); (focus (intro wz hSw; (try dsimp only at hSw); go_simp; first | done | with_reducible rfl)); try simp only [Act.put, List.setIfInBounds_toArray, List.set_cons_zero, List.set_cons_succ])
                        (refine wpAnyH_take (i := 8) (oi := ?_) (v := ?_) ?_ (by kernel_rfl) (by kernel_rfl) (by kernel_rfl) ?_ (Or.inl ⟨?_, ?_⟩) (by assumption) ?_; rotate_left 2; (focus ((simp only [List.getElem?_toArray, List.getElem?_cons_succ, List.getElem?_cons_zero]); first | done | rfl)); (focus (exact fun _ _ _ h => h)); (focus rfl); (focus (intro wz hSw; (try dsimp only at hSw); go_simp; first | done | with_reducible rfl)); try simp only [Act.put, List.setIfInBounds_toArray, List.set_cons_zero, List.set_cons_succ])
                        (refine wpAnyH_take (i := 12) (oi := ?_) (v := .agg D.cD) ?_ (by kernel_rfl) (by kernel_rfl) (by kernel_rfl) ?_ (Or.inl ⟨?_, ?_⟩) (by assumption) ?_; rotate_left; (focus ((simp only [List.getElem?_toArray, List.getElem?_cons_succ, List.getElem?_cons_zero]); first | done | rfl)); (focus (exact fun _ _ _ h => h)); (focus rfl); (focus (intro wz hSw; exact exec_load_any9 (o := _) (ρ := _) wz 26 (.tmp 1) rfl ⟨b0, 0, none⟩ rfl D.cD _ (DBx.st (And.left (And.right hSw))).part Try.underlying26 rfl (DBx.dm (And.left (And.right hSw))).info)); try simp only [Act.put, List.setIfInBounds_toArray, List.set_cons_zero, List.set_cons_succ])
                        (refine wpAnyH_take (i := 13) (oi := ?_) (v := ?_) ?_ (by kernel_rfl) (by kernel_rfl) (by kernel_rfl) ?_ (Or.inl ⟨?_, ?_⟩) (by assumption) ?_; rotate_left 2; (focus ((simp only [List.getElem?_toArray, List.getElem?_cons_succ, List.getElem?_cons_zero]); first | done | rfl)); (focus (exact fun _ _ _ h => h)); (focus rfl); (focus (intro wz hSw; (try dsimp only at hSw); go_simp; first | done | with_reducible rfl)); try simp only [Act.put, List.setIfInBounds_toArray, List.set_cons_zero, List.set_cons_succ])
                        (refine wpAnyH_take (i := 14) (oi := ?_) (v := ?_) ?_ (by kernel_rfl) (by kernel_rfl) (by kernel_rfl) ?_ (Or.inl ⟨?_, ?_⟩) (by assumption) ?_; rotate_left 2; (focus ((simp only [List.getElem?_toArray, List.getElem?_cons_succ, List.getElem?_cons_zero]); first | done | rfl)); (focus (exact fun _ _ _ h => h)); (focus rfl); (focus (intro wz hSw; (try dsimp only at hSw); go_simp; first | done | with_reducible rfl)); try simp only [Act.put, List.setIfInBounds_toArray, List.set_cons_zero, List.set_cons_succ])
                        refine wpAnyH_ready (rs := [9]) (by kernel_rfl) (by simp) ?_
                        refine AllReadyH.cons (o := ?_) ?_ (fun K hK => ?_) ?_
                        rotate_left
                        (focus ((simp only [List.getElem?_toArray, List.getElem?_cons_succ, List.getElem?_cons_zero]); first | done | rfl))
                        · skip
                          go_simp
                          go_at_call 37
                          refine (rto_any D C HB.out.2.2.1 x c hxn hlc _ hHeld.2.1.dm).mono ?_
                          rintro e w8 ⟨rfl, vv⟩
                          rw [HT.out.1]
                          have HQ2 := Lib.hid (HQ1.out.keep vv)
                          clear vv
                          have hS9 := HSo.out _ _ HQ2.out
                          try go_wp2_with fail
                          refine hK.out _ _ (hS9) (fun hHeld => ?_)
                          clear hK K
                          try simp only [Act.put, List.setIfInBounds_toArray, List.set_cons_zero, List.set_cons_succ]
                          clear hS9
                          (refine wpAnyH_take (i := 10) (oi := ?_) (v := ?_) ?_ (by kernel_rfl) (by kernel_rfl) (by kernel_rfl) ?_ (Or.inl ⟨?_, ?_⟩) (by assumption) ?_; rotate_left 2; (focus ((simp only [List.getElem?_toArray, List.getElem?_cons_succ, List.getElem?_cons_zero]); first | done | rfl)); (focus (exact fun _ _ _ h => h)); (focus rfl); (focus (intro wz hSw; (try dsimp only at hSw); go_simp; first | done | with_reducible rfl)); try simp only [Act.put, List.setIfInBounds_toArray, List.set_cons_zero, List.set_cons_succ])
                          (refine wpAnyH_take (i := 11) (oi := ?_) (v := ?_) ?_ (by kernel_rfl) (by kernel_rfl) (by kernel_rfl) ?_ (Or.inl ⟨?_, ?_⟩) (by assumption) ?_; rotate_left 2; (focus ((simp only [List.getElem?_toArray, List.getElem?_cons_succ, List.getElem?_cons_zero]); first | done | rfl)); (focus (exact fun _ _ _ h => h)); (focus rfl); (focus (intro wz hSw; (try dsimp only at hSw); go_simp; first | done | with_reducible rfl)); try simp only [Act.put, List.setIfInBounds_toArray, List.set_cons_zero, List.set_cons_succ])
                          refine wpAnyH_ready (rs := [15]) (by kernel_rfl) (by simp) ?_
                          refine AllReadyH.cons (o := ?_) ?_ (fun K hK => ?_) ?_
                          rotate_left
                          (focus ((simp only [List.getElem?_toArray, List.getElem?_cons_succ, List.getElem?_cons_zero]); first | done | rfl))
                          · skip
                            go_simp
                            go_at_call 37
                            refine (rto_any D C HB.out.2.2.1 y c hyn hlc _ hHeld.2.1.dm).mono ?_
                            rintro e w9 ⟨rfl, vv⟩
                            rw [HT.out.2]
                            have HQ3 := Lib.hid (HQ2.out.keep vv)
                            clear vv
                            have hS9 := HSo.out _ _ HQ3.out
                            try go_wp2_with fail
                            refine hK.out _ _ (hS9) (fun hHeld => ?_)
                            clear hK K
                            try simp only [Act.put, List.setIfInBounds_toArray, List.set_cons_zero, List.set_cons_succ]
                            clear hS9
                            (refine wpAnyH_take (i := 16) (oi := ?_) (v := ?_) ?_ (by kernel_rfl) (by kernel_rfl) (by kernel_rfl) ?_ (Or.inl ⟨?_, ?_⟩) (by assumption) ?_; rotate_left 2; (focus ((simp only [List.getElem?_toArray, List.getElem?_cons_succ, List.getElem?_cons_zero]); first | done | rfl)); (focus (exact fun _ _ _ h => h)); (focus rfl); (focus (intro wz hSw; (try dsimp only at hSw); go_simp; first | done | with_reducible rfl)); try simp only [Act.put, List.setIfInBounds_toArray, List.set_cons_zero, List.set_cons_succ])
                            refine wpAnyH_ready (rs := [17]) (by kernel_rfl) (by simp) ?_
                            refine AllReadyH.cons (o := ?_) ?_ (fun K hK => ?_) ?_
                            rotate_left
                            (focus ((simp only [List.getElem?_toArray, List.getElem?_cons_succ, List.getElem?_cons_zero]); first | done | rfl))
                            · skip
                              have z0 := (HQ3.out.cell hti1 htk1).1
                              go_simp
                              have hS9 := HSo.out _ _ HQ3.out
                              refine hK.out _ _ (hS9) (fun hHeld => ?_)
                              clear hK K
                              try simp only [Act.put, List.setIfInBounds_toArray, List.set_cons_zero, List.set_cons_succ]
                              clear hS9 z0
                              (refine wpAnyH_take (i := 18) (oi := ?_) (v := ?_) ?_ (by kernel_rfl) (by kernel_rfl) (by kernel_rfl) ?_ (Or.inl ⟨?_, ?_⟩) (by assumption) ?_; rotate_left 2; (focus ((simp only [List.getElem?_toArray, List.getElem?_cons_succ, List.getElem?_cons_zero]); first | done | rfl)); (focus (exact fun _ _ _ h => h)); (focus rfl); (focus (intro wz hSw; (try dsimp only at hSw); go_simp; first | done | with_reducible rfl)); try simp only [Act.put, List.setIfInBounds_toArray, List.set_cons_zero, List.set_cons_succ])
                              refine wpAnyH_ready (rs := [19]) (by kernel_rfl) (by simp) ?_
                              refine AllReadyH.cons (o := ?_) ?_ (fun K hK => ?_) ?_
                              rotate_left
                              (focus ((simp only [List.getElem?_toArray, List.getElem?_cons_succ, List.getElem?_cons_zero]); first | done | rfl))
                              · skip
                                obtain ⟨y0, y1⟩ := HQ3.out.cell hlx hly
                                go_simp
                                have HQ4 := Lib.hid (HQ3.out.put hlx hly (A ti tk))
                                have hS9 := HSo.out _ _ HQ4.out
                                try go_wp2_with fail
                                refine hK.out _ _ (hS9) (fun hHeld => ?_)
                                clear hK K
                                try simp only [Act.put, List.setIfInBounds_toArray, List.set_cons_zero, List.set_cons_succ]
                                clear hS9 y0 y1
                                refine wpAnyH_done (by kernel_rfl) ?_ _
                                have HF : Hid (∃ A, AptM W0 i i (.slice (some ⟨gO, 0, none⟩) i cO) gs A _ ∧ Ap C (tD D) (mD D) i r x y (c + 1) A) := ⟨_, HQ4.out, HNx.out⟩
                                clear hHeld HQ1 HQ2 HQ3 HQ4
                                go_wp2_with fail
                                go_roundw
                                case rel => exact ⟨c + 1, by go_num, by omega, HF.out⟩
                                case measure => simp [intOf]; omega
                              exact AllReadyH.nil
                            exact AllReadyH.nil
                          exact AllReadyH.nil
                        exact AllReadyH.nil
                      · rw [hAv] at cb
                        have HNk : Hid (∃ A, AptM W0 i i (.slice (some ⟨gO, 0, none⟩) i cO) gs A wr ∧ Ap C (tD D) (mD D) i r x (y + 1) 0 A) := ⟨A, HP1.out, HAp.out.nextk hlx hly (Or.inl hAv)⟩
                        clear hAv
                        go_wp2_with fail
                        go_roundw
                        case rel => exact ⟨y + 1, by go_num, by omega, HNk.out⟩
                        case measure => simp [intOf]; omega
                    · have HNk : Hid (∃ A, AptM W0 i i (.slice (some ⟨gO, 0, none⟩) i cO) gs A wr ∧ Ap C (tD D) (mD D) i r x (y + 1) 0 A) := ⟨A, HP1.out, HAp.out.nextk hlx hly (Or.inr (by omega))⟩
                      obtain rfl : c = C := by omega
                      go_wp2_with fail
                      go_roundw
                      case rel => exact ⟨y + 1, by go_num, by omega, HNk.out⟩
                      case measure => simp [intOf]; omega
                · obtain rfl : y = i := by omega
                  have HNi : Hid (∃ A, AptM W0 y y (.slice (some ⟨gO, 0, none⟩) y cO) gs A wr ∧ Ap C (tD D) (mD D) y r (x + 1) 0 0 A) := by
                    obtain ⟨A, h1, h2⟩ := HP.out
                    exact ⟨A, h1, h2.nexti⟩
                  go_wp2_with fail
                  go_roundw
                  case rel => exact ⟨x + 1, by go_num, by omega, HNi.out⟩
                  case measure => simp [intOf]; omega
            · obtain rfl : x = i := by omega
              have HNr : Hid (∃ A, AptM W0 x x (.slice (some ⟨gO, 0, none⟩) x cO) gs A wr ∧ Ap C (tD D) (mD D) x (r + 1) 0 0 0 A) := by
                obtain ⟨A, h1, h2⟩ := HP.out
                exact ⟨A, h1, h2.nextr⟩
              go_wp2_with fail
              go_roundw
              case rel => exact ⟨r + 1, by go_num, by omega, HNr.out⟩
              case measure => simp [intOf]; omega
        · obtain rfl : r = i := by omega
          have HF : Hid (ApPost D C w (.returned (.slice (some ⟨gO, 0, none⟩) r cO)) wr) := by
            obtain ⟨A, h1, h2⟩ := HP.out
            refine ⟨_, gs, A, rfl, ?_, ?_⟩
            · rw [hN]; exact h1.base (by rw [Hb0.out]; exact HB.out.2.1)
            · rw [hN]; exact h2.done htl.out
          clear HP
          go_wp2_with fail
          go_ret
          exact HF.out
end Go.Proofs.Ytgmcfgkjhobiaaa

namespace Go.Proofs.Ytgmcfgkjhobiaaa
open Go.RowKit Go.Maps Go.WideElems Go.ChangeMaps Go.MapKept
set_option linter.unusedVariables false
set_option linter.unusedSimpArgs false

/-- While numbers are given. -/
structure RbI (D : Dd) (C : Nat) (W0 : World) (i B : Nat) (v : Value) (f : Nat → Nat) (w : World) : Prop where
  below : Below W0.heap.size W0 w
  own : w.ownsRow W0.heap.size 3 1 v i (nums64 ((List.range i).map f))
  num : Num (Eqv C (tD D) (mD D)) i f B
theorem RbI.grow {D : Dd} {C i B b B' : Nat} {W0 w w' : World} {v v' : Value} {f : Nat → Nat} (h : RbI D C W0 i B v f w)
    (ho : w'.ownsRow W0.heap.size 3 1 v' (i + 1) (nums64 ((List.range i).map f) ++ [.int .i64 ((b : Nat) : Int)])) (hg : w.grownBy w' v.ownBlock) (hn : Num (Eqv C (tD D) (mD D)) (i + 1) (fun j => if j = i then b else f j) B') : ∃ f', RbI D C W0 (i + 1) B' v' f' w' :=
  ⟨fun j => if j = i then b else f j, below_grown_own h.below h.own h.below.size hg, by rw [rng_upd]; exact ho, hn⟩

end Go.Proofs.Ytgmcfgkjhobiaaa
