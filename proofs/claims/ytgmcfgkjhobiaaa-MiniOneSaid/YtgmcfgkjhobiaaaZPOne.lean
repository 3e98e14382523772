import Derived.Test.YtgmcfgkjhobiaaaZMUniq
import Derived.Test.YtgmcfgkjhobiaaaZPAwk9
import Derived.Test.YtgmcfgkjhobiaaaZPRef8
import Derived.Test.YtgmcfgkjhobiaaaZPSm8
import Derived.Test.YtgmcfgkjhobiaaaZTTrim
namespace Go.Proofs.Ytgmcfgkjhobiaaa
set_option linter.unusedVariables false
set_option linter.unusedSimpArgs false

/-! ### An automaton with a state twice. -/
def dupR (D : Dd) (i k : Nat) : Nat := if k = D.n then i else k
def dupX (D : Dd) (i k c : Nat) : Int := if D.nx (dupR D i k) c = ((i : Nat) : Int) ∧ (k + c) % 2 = 0 then ((D.n : Nat) : Int) else D.nx (dupR D i k) c
def dupQ (D : Dd) (i k : Nat) : Int := D.q (dupR D i k)
theorem dupR_lt {D : Dd} {i k : Nat} (hi : i < D.n) (hk : k < D.n + 1) : dupR D i k < D.n := by unfold dupR; split <;> omega
theorem dup_right {D X : Dd} {C i : Nat} (hR : DR D C) (hi : i < D.n) (hn : D.n + 1 ≤ 32768) (h : DfF D C (D.n + 1) (dupX D i) (dupQ D i) X) : DR X C := by
  obtain ⟨e1, e2, e3, e4, e5, e6⟩ := h
  refine ⟨by rw [e1]; exact hR.c, by omega, by omega, by rw [e3, e2], fun c hc => by rw [e1]; exact hR.gap c hc, fun k hk => e4 k (by omega), fun k hk => ?_, fun k c hk hc => ?_⟩
  · rw [e6 k (by omega)]
    exact hR.q _ (dupR_lt hi (by omega))
  · rw [e5 k (by omega) c hc, e2]
    have := hR.nx (dupR D i k) c (dupR_lt hi (by omega)) hc
    unfold dupX
    split <;> omega
theorem dup_beh {D X : Dd} {C i : Nat} (hR : DR D C) (hi : i < D.n) (h : DfF D C (D.n + 1) (dupX D i) (dupQ D i) X) : Beh X 0 D 0 := by
  obtain ⟨e1, e2, e3, e4, e5, e6⟩ := h
  have h1 := hR.n1
  refine Beh.coind (fun x y => (x = -1 ∧ y = -1) ∨ ∃ k : Nat, k < D.n + 1 ∧ x = k ∧ y = ((dupR D i k : Nat) : Int)) ?_ ?_ (Or.inr ⟨0, by omega, rfl, by unfold dupR; rw [if_neg (by omega)]; rfl⟩)
  · rintro x y (⟨rfl, rfl⟩ | ⟨k, hk, rfl, rfl⟩)
    · rw [markF_dead, markF_dead]
    · rw [markF_at _ (by omega), markF_at _ (dupR_lt hi hk), e6 k hk]
      rfl
  · rintro x y b (⟨rfl, rfl⟩ | ⟨k, hk, rfl, rfl⟩) hb
    · exact Or.inl ⟨stepF_dead _ _, stepF_dead _ _⟩
    · have hc := hR.c.1 b hb
      have hx := hR.nx (dupR D i k) _ (dupR_lt hi hk) hc
      rw [stepF_at _ (by omega), stepF_at _ (dupR_lt hi hk), e1, e5 k hk _ hc]
      unfold dupX
      split
      · rename_i h2
        exact Or.inr ⟨D.n, by omega, rfl, by rw [h2.1]; unfold dupR; rw [if_pos rfl]⟩
      · by_cases e : D.nx (dupR D i k) (D.K b) = -1
        · exact Or.inl ⟨e, e⟩
        · refine Or.inr ⟨(D.nx (dupR D i k) (D.K b)).toNat, by omega, by omega, ?_⟩
          have h3 : dupR D i (D.nx (dupR D i k) (D.K b)).toNat = (D.nx (dupR D i k) (D.K b)).toNat := by
            show (if (D.nx (dupR D i k) (D.K b)).toNat = D.n then i else (D.nx (dupR D i k) (D.K b)).toNat) = _
            rw [if_neg (by omega)]
          rw [h3]
          omega
theorem Mn.alk {X Y : Dd} {C E : Nat} (hX : Mn X C) (hY : Mn Y E) (h0 : Beh X 0 Y 0) : Alk X Y C := by
  obtain ⟨hC, hK, hn, hq, hx⟩ := hX.uniq hY h0
  subst hC
  exact ⟨hX.r, hY.r, hK, hn, hq, hx⟩
end Go.Proofs.Ytgmcfgkjhobiaaa

namespace Go.Proofs.Ytgmcfgkjhobiaaa
open Go.RowKit Go.Maps Go.WideElems Go.ChangeMaps Go.MapKept
set_option linter.unusedVariables false
set_option linter.unusedSimpArgs false

def dupRw (D : Dd) (C i k : Nat) : List (List Int) := (List.range k).map fun j => (List.range C).map (dupX D i j)
theorem dupRw_len (D : Dd) (C i k : Nat) : (dupRw D C i k).length = k := by simp [dupRw]
theorem dupRw_succ (D : Dd) (C i k : Nat) : dupRw D C i (k + 1) = dupRw D C i k ++ [(List.range C).map (dupX D i k)] := by unfold dupRw; rw [List.range_succ, List.map_append]; rfl
theorem dupM {D : Dd} {i : Nat} : (List.range (D.n + 1)).map (dupQ D i) = (List.range D.n).map D.q ++ [D.q i] := by
  rw [List.range_succ, List.map_append]
  congr 1
  · refine List.map_congr_left fun k hk => ?_
    have := List.mem_range.1 hk
    unfold dupQ dupR
    rw [if_neg (by omega)]
  · simp [dupQ, dupR]

set_option maxHeartbeats 4000000 in
set_option maxRecDepth 100000 in
theorem miniOne_any (D : Dd) (x0 : Nat) (hx0 : x0 < 256) (hn : D.n ≤ 9223372036854775807) (hm : D.m ≤ 9223372036854775807) (hl : ∀ i, i < D.n → D.len i ≤ 9223372036854775807) (w : World) (hD : DM w D) :
    Calls Try.prog 5 #[.agg D.cD, .int .u8 ((x0 : Nat) : Int)] w fun e w' => e = .returned (.bool true) ∧ Below w.heap.size w w' := by
  have HB := Lib.hid (And.intro (DBx.new hD) (al w (.cells D.cD 26)))
  have HSm := Lib.hid (fun (W : World) (h : DM W D) => small_any D hn hm hl W h)
  obtain ⟨iI, hI, hI0, hI1, hI2⟩ := info_parts Try.info_int9
  obtain ⟨iV, hV, hV0, hV1, hV2⟩ := info_parts Try.info_ints
  clear hD hn hm hl
  go_enter Try.func5, Try.ntmps5
  go_upto_region 1 with fail
  generalize w.alloc (.cells D.cD 26) = W0 at HB ⊢
  obtain ⟨b0, hb0⟩ : ∃ b0, w.heap.size = b0 := ⟨_, rfl⟩
  have Hb0 := Lib.hid hb0
  rw [hb0] at HB
  rw [hb0]
  clear hb0
  have HAw := Lib.hid (awake09_any W0)
  go_wp2_with fail
  refine HAw.out.mono ?_
  rintro e w1 ⟨rfl, b1⟩
  have H1 := Lib.hid (And.intro (HB.out.1.keep b1) (And.intro (HB.out.2.trans (b1.mono (by have := HB.out.2.size; have := Hb0.out; omega))) (show b0 ≤ w1.heap.size by have := HB.out.2.size; have := Hb0.out; have := b1.size; omega)))
  clear b1 HAw
  have HSm1 := Lib.hid (HSm.out w1 H1.out.1.dm)
  clear HSm
  go_wp2_with (refine wpList_load_any9 (by rfl) 26 _ rfl ⟨b0, 0, none⟩ rfl D.cD _ H1.out.1.st.part Try.underlying26 rfl H1.out.1.dm.info ?_)
  refine HSm1.out.mono ?_
  rintro e w2 ⟨bo, rfl, hbo, b2⟩
  have H2 := Lib.hid (And.intro (H1.out.1.keep b2) (And.intro (H1.out.2.1.trans (b2.mono (by have := H1.out.2.2; omega))) (show b0 ≤ w2.heap.size by have := H1.out.2.2; have := b2.size; omega)))
  have HF2 : Hid (Below w.heap.size w w2) := by rw [Hb0.out]; exact H2.out.2.1
  clear b2 HSm1
  rcases bo with _ | _
  · clear hbo
    go_wp2_with fail
    go_ret
    exact ⟨rfl, HF2.out⟩
  obtain ⟨s1, s2, s3⟩ := hbo rfl
  have HS := Lib.hid (And.intro s1 (And.intro s2 s3))
  have HRt := Lib.hid (rright8_iff D w2 H2.out.1.dm s1 s2 s3)
  clear hbo s1 s2 s3 HF2
  go_wp2_with (refine wpList_load_any9 (by rfl) 26 _ rfl ⟨b0, 0, none⟩ rfl D.cD _ H2.out.1.st.part Try.underlying26 rfl H2.out.1.dm.info ?_)
  refine HRt.out.mono ?_
  rintro e w3 ⟨bo, rfl, hbo, b3⟩
  have H3 := Lib.hid (And.intro (H2.out.1.keep b3) (And.intro (H2.out.2.1.trans (b3.mono (by have := H2.out.2.2; omega))) (show b0 ≤ w3.heap.size by have := H2.out.2.2; have := b3.size; omega)))
  have HFw3 : Hid (∀ W', Below w3.heap.size w3 W' → Below w.heap.size w W') := fun W' h => by
    rw [Hb0.out]
    exact H3.out.2.1.trans (h.mono H3.out.2.2)
  clear b3 HRt
  rcases bo with _ | _
  · have HF := Lib.hid (HFw3.out w3 (Below.refl _ _))
    clear hbo
    go_wp2_with fail
    go_ret
    exact ⟨rfl, HF.out⟩
  obtain ⟨C, hR⟩ := hbo.1 rfl
  have HR := Lib.hid hR
  have hn1 := hR.n1
  have hn2 := HS.out.1
  have hC6 := (hR.c256 H3.out.1.dm.kl).2
  have hC1 := (hR.c256 H3.out.1.dm.kl).1
  clear hbo hR
  obtain ⟨i, hi⟩ : ∃ i, x0 % D.n = i := ⟨_, rfl⟩
  have hin : i < D.n := by rw [← hi]; exact Nat.mod_lt _ (by omega)
  have hrem : Int.tmod (x0 : Int) (D.n : Int) = (i : Int) := by rw [Int.tmod_eq_emod_of_nonneg (by omega), ← hi]; rfl
  have hk0 : ((D.n : Int) == 0) = false := by simp; omega
  have hk0' : (D.n == 0) = false := by simp; omega
  have hk1' : ¬ ((D.n : Int) = 0) := by omega
  have hk2' : ¬ (D.n = 0) := by omega
  have hrem2 : (x0 : Int) % (D.n : Int) = (i : Int) := by rw [← hi]; rfl
  have hw1 : IntKind.i64.wrap ((i : Nat) : Int) = ((i : Nat) : Int) := IntWalk.i64_in _ (by omega)
  have hw2 : IntKind.i64.wrap ((x0 : Nat) : Int) = ((x0 : Nat) : Int) := IntWalk.i64_in _ (by omega)
  have hw3 : IntKind.i64.wrap (Int.tmod (x0 : Int) (D.n : Int)) = ((i : Nat) : Int) := by rw [hrem]; exact hw1
  clear hi
  have f1 := H3.out.1.f1
  go_upto_region 7 with fail
  clear hrem hk0 hk0' hk1' hk2' hrem2 hw1 hw2 hw3 f1
  obtain ⟨gM, oM, eM, hgM, cM0⟩ := H3.out.1.dm.rM (by rw [HR.out.m]; omega)
  have HM9 := Lib.hid (And.intro eM (And.intro hgM (And.intro (by rw [HR.out.m] at cM0; exact cM0 : ∀ j, j < D.n → w3.cell? ⟨gM, oM + j, none⟩ = some (.int .i64 (D.q j))) HR.out.m)))
  have HSo : Hid (∀ W', Below w3.heap.size w3 W' → Below w3.heap.size w3 W' ∧ DBx W' b0 D ∧ W'.cell? ⟨b0, 257, none⟩ = some (.slice (some ⟨gM, oM, none⟩) D.n D.cM) ∧ W'.cell? ⟨gM, oM + i, none⟩ = some (.int .i64 (D.q i))) := fun W' h => ⟨h, H3.out.1.keep h, by have := (H3.out.1.keep h).f2; rw [HM9.out.1, HM9.out.2.2.2] at this; exact this, (h.cell (p := ⟨gM, oM + i, none⟩) HM9.out.2.1).trans (HM9.out.2.2.1 i hin)⟩
  have HNw : Hid (∀ W', Below w3.heap.size w3 W' → ∀ j u, (ints ((List.range D.n).map D.q))[j]? = some u → W'.cell? ((⟨gM, oM, none⟩ : Addr).add j) = some u) := fun W' h => zs_news (fun j hj => (h.cell (p := ⟨gM, oM + j, none⟩) HM9.out.2.1).trans (HM9.out.2.2.1 j hj))
  clear eM hgM cM0
  obtain ⟨qi, hqi⟩ : ∃ qi, D.q i = qi := ⟨_, rfl⟩
  have Hqi := Lib.hid hqi
  rw [hqi] at HSo
  clear hqi
  go_cut [7] from 36 to 49 (fun v wx => ∃ (b4 : Nat) (a6 : Option Addr) (c6 : Nat), v = .pointer (some ⟨b4, 0, none⟩) ∧ TrA w3 b4 D.K C (.slice none 0 0) (dupRw D C i 0) (fun _ => .slice none 0 0) (.slice a6 (D.n + 1) c6) ((List.range (D.n + 1)).map (dupQ D i)) wx)
  case first =>
    have i2 : (i : Int) < (D.n : Int) := by omega
    refine wp_region_held_drew (S := fun W' => Below w3.heap.size w3 W' ∧ DBx W' b0 D ∧ W'.cell? ⟨b0, 257, none⟩ = some (.slice (some ⟨gM, oM, none⟩) D.n D.cM) ∧ W'.cell? ⟨gM, oM + i, none⟩ = some (.int .i64 qi)) (by kernel_rfl) (HSo.out _ (Below.refl _ _).drew) (fun hHeld => ?_)
    (refine wpAnyH_take (i := 0) (oi := ?_) (v := ?_) ?_ (by kernel_rfl) (by kernel_rfl) (by kernel_rfl) ?_ (Or.inl ⟨?_, ?_⟩) (by assumption) ?_; rotate_left 2; (focus ((simp only [List.getElem?_toArray, List.getElem?_cons_zero]); first | done | rfl)); (focus (exact fun _ _ _ h => h)); (focus rfl); (focus (intro wz hSw; (try dsimp only at hSw); go_simp; first | done | with_reducible rfl)); try simp only [Act.put, List.setIfInBounds_toArray, List.set_cons_zero, List.set_cons_succ])
    (refine wpAnyH_take (i := 1) (oi := ?_) (v := .agg (clsOf D.K)) ?_ (by kernel_rfl) (by kernel_rfl) (by kernel_rfl) ?_ (Or.inl ⟨?_, ?_⟩) (by assumption) ?_; rotate_left; (focus ((simp only [List.getElem?_toArray, List.getElem?_cons_succ, List.getElem?_cons_zero]); first | done | rfl)); (focus (exact fun _ _ _ h => h)); (focus rfl); (focus (intro wz hSw; exact exec_load_any9 (o := _) (ρ := _) wz 22 (.tmp 36) rfl ⟨b0, 0, none⟩ rfl (clsOf D.K) _ (DBx.clsPart (And.left (And.right hSw))) Try.underlying22 rfl (clsOf_info D.K))); try simp only [Act.put, List.setIfInBounds_toArray, List.set_cons_zero, List.set_cons_succ])
    (refine wpAnyH_take (i := 3) (oi := ?_) (v := ?_) ?_ (by kernel_rfl) (by kernel_rfl) (by kernel_rfl) ?_ (Or.inl ⟨?_, ?_⟩) (by assumption) ?_; rotate_left 2; (focus ((simp only [List.getElem?_toArray, List.getElem?_cons_succ, List.getElem?_cons_zero]); first | done | rfl)); (focus (exact fun _ _ _ h => h)); (focus rfl); (focus (intro wz hSw; (try dsimp only at hSw); go_simp; first | done | with_reducible rfl)); try simp only [Act.put, List.setIfInBounds_toArray, List.set_cons_zero, List.set_cons_succ])
    (refine wpAnyH_take (i := 4) (oi := ?_) (v := ?_) ?_ (by kernel_rfl) (by kernel_rfl) (by kernel_rfl) ?_ (Or.inl ⟨?_, ?_⟩) (by assumption) ?_; rotate_left 2; (focus ((simp only [List.getElem?_toArray, List.getElem?_cons_succ, List.getElem?_cons_zero]); first | done | rfl)); (focus (exact fun _ _ _ h => h)); (focus rfl); (focus (intro wz hSw; (try dsimp only at hSw); go_simp; first | done | with_reducible rfl)); try simp only [Act.put, List.setIfInBounds_toArray, List.set_cons_zero, List.set_cons_succ])
    (refine wpAnyH_take (i := 6) (oi := ?_) (v := ?_) ?_ (by kernel_rfl) (by kernel_rfl) (by kernel_rfl) ?_ (Or.inl ⟨?_, ?_⟩) (by assumption) ?_; rotate_left 2; (focus ((simp only [List.getElem?_toArray, List.getElem?_cons_succ, List.getElem?_cons_zero]); first | done | rfl)); (focus (exact fun _ _ _ h => h)); (focus rfl); (focus (intro wz hSw; (try dsimp only at hSw); go_simp; first | done | with_reducible rfl)); try simp only [Act.put, List.setIfInBounds_toArray, List.set_cons_zero, List.set_cons_succ])
    (refine wpAnyH_take (i := 7) (oi := ?_) (v := ?_) ?_ (by kernel_rfl) (by kernel_rfl) (by kernel_rfl) ?_ (Or.inl ⟨?_, ?_⟩) (by assumption) ?_; rotate_left 2; (focus ((simp only [List.getElem?_toArray, List.getElem?_cons_succ, List.getElem?_cons_zero]); first | done | rfl)); (focus (exact fun _ _ _ h => h)); (focus rfl); (focus (intro wz hSw; (try dsimp only at hSw); go_simp; first | done | with_reducible rfl)); try simp only [Act.put, List.setIfInBounds_toArray, List.set_cons_zero, List.set_cons_succ])
    (refine wpAnyH_take (i := 8) (oi := ?_) (v := ?_) ?_ (by kernel_rfl) (by kernel_rfl) (by kernel_rfl) ?_ (Or.inl ⟨?_, ?_⟩) (by assumption) ?_; rotate_left 2; (focus ((simp only [List.getElem?_toArray, List.getElem?_cons_succ, List.getElem?_cons_zero]); first | done | rfl)); (focus (exact fun _ _ _ h => h)); (focus rfl); (focus (intro wz hSw; (try dsimp only at hSw); go_simp; first | done | with_reducible rfl)); try simp only [Act.put, List.setIfInBounds_toArray, List.set_cons_zero, List.set_cons_succ])
    (refine wpAnyH_take (i := 9) (oi := ?_) (v := ?_) ?_ (by kernel_rfl) (by kernel_rfl) (by kernel_rfl) ?_ (Or.inl ⟨?_, ?_⟩) (by assumption) ?_; rotate_left 2; (focus ((simp only [List.getElem?_toArray, List.getElem?_cons_succ, List.getElem?_cons_zero]); first | done | rfl)); (focus (exact fun _ _ _ h => h)); (focus rfl); (focus (intro wz hSw; (try dsimp only at hSw); go_simp; first | done | with_reducible rfl)); try simp only [Act.put, List.setIfInBounds_toArray, List.set_cons_zero, List.set_cons_succ])
    (refine wpAnyH_take (i := 10) (oi := ?_) (v := ?_) ?_ (by kernel_rfl) (by kernel_rfl) (by kernel_rfl) ?_ (Or.inl ⟨?_, ?_⟩) (by assumption) ?_; rotate_left 2; (focus ((simp only [List.getElem?_toArray, List.getElem?_cons_succ, List.getElem?_cons_zero]); first | done | rfl)); (focus (exact fun _ _ _ h => h)); (focus rfl); (focus (intro wz hSw; (try dsimp only at hSw); go_simp; first | done | with_reducible rfl)); try simp only [Act.put, List.setIfInBounds_toArray, List.set_cons_zero, List.set_cons_succ])
    refine wpAnyH_ready (rs := [2, 11, 14]) (by kernel_rfl) (by simp) ?_
    refine AllReadyH.cons (o := ?_) ?_ (fun K hK => ?_) ?_
    rotate_left
    (focus ((simp only [List.getElem?_toArray, List.getElem?_cons_succ, List.getElem?_cons_zero]); first | done | rfl))
    · skip
      go_simp
      have kk := al w3.drew (.cells #[] 3)
      have hbn : Below w3.heap.size w3 (w3.alloc (.cells #[] 3)).drew := hHeld.1.trans (kk.mono hHeld.1.size)
      have HP2 : Hid ((w3.alloc (.cells #[] 3)).drew.ownsRow w3.heap.size 3 1 (.slice (some ⟨w3.heap.size, 0, none⟩) 0 0) 0 []) := own_lit w3.drew w3.heap.size 3 1 #[] 0 rfl hHeld.1.size (by decide)
      refine hK.out _ _ (HSo.out _ hbn) (fun hHeld => ?_)
      clear hK K
      try simp only [Act.put, List.setIfInBounds_toArray, List.set_cons_zero, List.set_cons_succ]
      clear kk
      generalize (w3.alloc (.cells #[] 3)).drew = V2 at HP2 hHeld hbn ⊢
      refine wpAnyH_ready (rs := [5, 11, 14]) (by kernel_rfl) (by simp) ?_
      refine AllReadyH.cons (o := ?_) ?_ (fun K hK => ?_) ?_
      rotate_left
      (focus ((simp only [List.getElem?_toArray, List.getElem?_cons_succ, List.getElem?_cons_zero]); first | done | rfl))
      · skip
        refine step_append_at9 (by rfl) _ _ _ (by rfl) w3.heap.size 3 iI (.int .i64 0) 1 8 Try.underlying24 hI hI0 hI1 hI2 (by rfl) (by decide) _ 0 [] (by rfl) HP2.out ⟨gM, oM, none⟩ D.n D.cM (ints ((List.range D.n).map D.q)) (by rfl) (by simp [ints]) (HNw.out _ hHeld.1) (by intro u hu; simp [ints] at hu; obtain ⟨x, _, rfl⟩ := hu; rfl) (by unfold maxLen; omega) (by omega) hHeld.1.size ?_
        intro v6 V5 hown6 hgrow6 hat6
        try rw [Nat.zero_add] at hown6
        rw [List.nil_append] at hown6
        obtain ⟨a6, c6, rfl⟩ := ownsRow_slice hown6
        have HM6 : Hid (V5.ownsRow w3.heap.size 3 1 (.slice a6 D.n c6) D.n (ints ((List.range D.n).map D.q))) := hown6
        have hbn : Below w3.heap.size w3 V5 := below_grown_own hHeld.1 HP2.out hHeld.1.size hgrow6
        clear hown6 hgrow6 hat6
        refine hK.out _ _ (HSo.out _ hbn) (fun hHeld => ?_)
        clear hK K
        try simp only [Act.put, List.setIfInBounds_toArray, List.set_cons_zero, List.set_cons_succ]
        refine wpAnyH_ready (rs := [11, 14]) (by kernel_rfl) (by simp) ?_
        refine AllReadyH.cons (o := ?_) ?_ (fun K hK => ?_) ?_
        rotate_left
        (focus ((simp only [List.getElem?_toArray, List.getElem?_cons_succ, List.getElem?_cons_zero]); first | done | rfl))
        · skip
          go_simp
          have kk := al V5 (.cells #[.int .i64 qi] 3)
          have hbn : Below w3.heap.size w3 (V5.alloc (.cells #[.int .i64 qi] 3)) := hHeld.1.trans (kk.mono hHeld.1.size)
          have HS1 : Hid (St (V5.alloc (.cells #[.int .i64 qi] 3)) 3 V5.heap.size #[.int .i64 qi]) := St.new V5 _ _
          have HM6 : Hid ((V5.alloc (.cells #[.int .i64 qi] 3)).ownsRow w3.heap.size 3 1 (.slice a6 D.n c6) D.n (ints ((List.range D.n).map D.q))) := ownsRow_keep HM6.out kk
          refine hK.out _ _ (HSo.out _ hbn) (fun hHeld => ?_)
          clear hK K
          try simp only [Act.put, List.setIfInBounds_toArray, List.set_cons_zero, List.set_cons_succ]
          clear kk
          generalize (V5.alloc (.cells #[.int .i64 qi] 3)) = V11 at HM6 HS1 hHeld hbn ⊢
          refine wpAnyH_ready (rs := [12, 14]) (by kernel_rfl) (by simp) ?_
          refine AllReadyH.cons (o := ?_) ?_ (fun K hK => ?_) ?_
          rotate_left
          (focus ((simp only [List.getElem?_toArray, List.getElem?_cons_succ, List.getElem?_cons_zero]); first | done | rfl))
          · skip
            refine step_append_at9 (by rfl) _ _ _ (by rfl) w3.heap.size 3 iI (.int .i64 0) 1 8 Try.underlying24 hI hI0 hI1 hI2 (by rfl) (by decide) _ D.n (ints ((List.range D.n).map D.q)) (by rfl) HM6.out ⟨V5.heap.size, 0, none⟩ 1 1 [.int .i64 qi] (by rfl) (by rfl) (St.part HS1.out) (by intro u hu; simp at hu; subst hu; rfl) (by unfold maxLen; omega) (by omega) hHeld.1.size ?_
            intro v6 V12 hown6 hgrow6 hat6
            obtain ⟨a7, c7, rfl⟩ := ownsRow_slice hown6
            have HM7 : Hid (V12.ownsRow w3.heap.size 3 1 (.slice a7 (D.n + 1) c7) (D.n + 1) ((ints ((List.range D.n).map D.q)) ++ [.int .i64 qi])) := hown6
            have hbn : Below w3.heap.size w3 V12 := below_grown_own hHeld.1 HM6.out hHeld.1.size hgrow6
            clear hown6 hgrow6 hat6
            refine hK.out _ _ (HSo.out _ hbn) (fun hHeld => ?_)
            clear hK K
            try simp only [Act.put, List.setIfInBounds_toArray, List.set_cons_zero, List.set_cons_succ]
            (refine wpAnyH_take (i := 13) (oi := ?_) (v := .agg (dfC D.K (.slice none 0 0) (.slice a7 (D.n + 1) c7))) ?_ (by kernel_rfl) (by kernel_rfl) (by kernel_rfl) ?_ (Or.inl ⟨?_, ?_⟩) (by assumption) ?_; rotate_left; (focus ((simp only [List.getElem?_toArray, List.getElem?_cons_succ, List.getElem?_cons_zero]); first | done | rfl)); (focus (exact fun _ _ _ h => h)); (focus rfl); (focus (intro wz hSw; exact exec_bld10 wz _ _ rfl #[(0, .agg (clsOf D.K)), (2, .slice a7 (D.n + 1) c7)] (by first | rfl | simp [Act.eval] | (simp; rfl)) _ (dfa_built2 D.K a7 (D.n + 1) c7 wz))); try simp only [Act.put, List.setIfInBounds_toArray, List.set_cons_zero, List.set_cons_succ])
            refine wpAnyH_ready (rs := [14]) (by kernel_rfl) (by simp) ?_
            refine AllReadyH.cons (o := ?_) ?_ (fun K hK => ?_) ?_
            rotate_left
            (focus ((simp only [List.getElem?_toArray, List.getElem?_cons_succ, List.getElem?_cons_zero]); first | done | rfl))
            · skip
              refine step_alloc9 (by rfl) 26 (by rfl) (zC 26) (zero_run9 _) ?_
              have kk := al V12 (.cells (zC 26) 26)
              have hbn : Below w3.heap.size w3 (V12.alloc (.cells (zC 26) 26)) := hHeld.1.trans (kk.mono hHeld.1.size)
              have HM7 : Hid ((V12.alloc (.cells (zC 26) 26)).ownsRow w3.heap.size 3 1 (.slice a7 (D.n + 1) c7) (D.n + 1) ((ints ((List.range D.n).map D.q)) ++ [.int .i64 qi])) := ownsRow_keep HM7.out kk
              have H7 : Hid (St (V12.alloc (.cells (zC 26) 26)) 26 V12.heap.size (zC 26) ∧ w3.heap.size ≤ V12.heap.size) := ⟨St.new _ _ _, hHeld.1.size⟩
              refine hK.out _ _ (HSo.out _ hbn) (fun hHeld => ?_)
              clear hK K
              try simp only [Act.put, List.setIfInBounds_toArray, List.set_cons_zero, List.set_cons_succ]
              try simp only [drew_sz9]
              clear kk
              generalize (V12.alloc (.cells (zC 26) 26)) = V14 at HM7 H7 hHeld hbn ⊢
              refine wpAnyH_ready (rs := [15]) (by kernel_rfl) (by simp) ?_
              refine AllReadyH.cons (o := ?_) ?_ (fun K hK => ?_) ?_
              rotate_left
              (focus ((simp only [List.getElem?_toArray, List.getElem?_cons_succ, List.getElem?_cons_zero]); first | done | rfl))
              · skip
                refine step_store9 (by rfl) 26 _ _ (by rfl) V12.heap.size 26 (zC 26) (dfC D.K (.slice none 0 0) (.slice a7 (D.n + 1) c7)) (by rfl) (by rfl) H7.out.1 (by rw [zDfa_size, dfC_size]) (by rw [info_dfa9, dfC_size]) (dfC_one _ _ _ _ _ _ _) ?_
                have HM8 : Hid (V14.ownsRow w3.heap.size 3 1 (.slice a7 (D.n + 1) c7) (D.n + 1) (ints ((List.range (D.n + 1)).map (dupQ D i)))) := by
                  have h := HM7.out
                  rw [dupM, Hqi.out]
                  show World.ownsRow _ _ _ _ _ _ _
                  simpa [ints] using h
                have HT0 := Lib.hid (TrA.start (K := D.K) (C := C) (ws := fun _ => .slice none 0 0) HM8.out (by simp) hHeld.1 H7.out.1 H7.out.2)
                refine hK.out _ _ (HSo.out _ HT0.out.bel) (fun hHeld => ?_)
                clear hK K
                try simp only [Act.put, List.setIfInBounds_toArray, List.set_cons_zero, List.set_cons_succ]
                refine wpAnyH_done (by kernel_rfl) ?_ _
                clear hHeld
                go_wp2_with fail
                go_meet
                exact ⟨_, _, _, rfl, HT0.out⟩
              exact AllReadyH.nil
            exact AllReadyH.nil
          refine AllReadyH.cons (o := ?_) ?_ (fun K hK => ?_) ?_
          rotate_left
          (focus ((simp only [List.getElem?_toArray, List.getElem?_cons_succ, List.getElem?_cons_zero]); first | done | rfl))
          · skip
            refine step_alloc9 (by rfl) 26 (by rfl) (zC 26) (zero_run9 _) ?_
            have kk := al V11 (.cells (zC 26) 26)
            have hbn : Below w3.heap.size w3 (V11.alloc (.cells (zC 26) 26)) := hHeld.1.trans (kk.mono hHeld.1.size)
            have HM6 : Hid ((V11.alloc (.cells (zC 26) 26)).ownsRow w3.heap.size 3 1 (.slice a6 D.n c6) D.n (ints ((List.range D.n).map D.q))) := ownsRow_keep HM6.out kk
            have HS1 : Hid (St (V11.alloc (.cells (zC 26) 26)) 3 V5.heap.size #[.int .i64 qi]) := HS1.out.keep kk
            have H7 : Hid (St (V11.alloc (.cells (zC 26) 26)) 26 V11.heap.size (zC 26) ∧ w3.heap.size ≤ V11.heap.size) := ⟨St.new _ _ _, hHeld.1.size⟩
            refine hK.out _ _ (HSo.out _ hbn) (fun hHeld => ?_)
            clear hK K
            try simp only [Act.put, List.setIfInBounds_toArray, List.set_cons_zero, List.set_cons_succ]
            try simp only [drew_sz9]
            clear kk
            generalize (V11.alloc (.cells (zC 26) 26)) = V14 at HM6 H7 HS1 hHeld hbn ⊢
            refine wpAnyH_ready (rs := [12]) (by kernel_rfl) (by simp) ?_
            refine AllReadyH.cons (o := ?_) ?_ (fun K hK => ?_) ?_
            rotate_left
            (focus ((simp only [List.getElem?_toArray, List.getElem?_cons_succ, List.getElem?_cons_zero]); first | done | rfl))
            · skip
              refine step_append_at9 (by rfl) _ _ _ (by rfl) w3.heap.size 3 iI (.int .i64 0) 1 8 Try.underlying24 hI hI0 hI1 hI2 (by rfl) (by decide) _ D.n (ints ((List.range D.n).map D.q)) (by rfl) HM6.out ⟨V5.heap.size, 0, none⟩ 1 1 [.int .i64 qi] (by rfl) (by rfl) (St.part HS1.out) (by intro u hu; simp at hu; subst hu; rfl) (by unfold maxLen; omega) (by omega) hHeld.1.size ?_
              intro v6 V12 hown6 hgrow6 hat6
              obtain ⟨a7, c7, rfl⟩ := ownsRow_slice hown6
              have HM7 : Hid (V12.ownsRow w3.heap.size 3 1 (.slice a7 (D.n + 1) c7) (D.n + 1) ((ints ((List.range D.n).map D.q)) ++ [.int .i64 qi])) := hown6
              have hbn : Below w3.heap.size w3 V12 := below_grown_own hHeld.1 HM6.out hHeld.1.size hgrow6
              have H7 : Hid (St V12 26 V11.heap.size (zC 26) ∧ w3.heap.size ≤ V11.heap.size) := ⟨H7.out.1.grown_own HM6.out (by decide) hgrow6, H7.out.2⟩
              clear hown6 hgrow6 hat6
              refine hK.out _ _ (HSo.out _ hbn) (fun hHeld => ?_)
              clear hK K
              try simp only [Act.put, List.setIfInBounds_toArray, List.set_cons_zero, List.set_cons_succ]
              (refine wpAnyH_take (i := 13) (oi := ?_) (v := .agg (dfC D.K (.slice none 0 0) (.slice a7 (D.n + 1) c7))) ?_ (by kernel_rfl) (by kernel_rfl) (by kernel_rfl) ?_ (Or.inl ⟨?_, ?_⟩) (by assumption) ?_; rotate_left; (focus ((simp only [List.getElem?_toArray, List.getElem?_cons_succ, List.getElem?_cons_zero]); first | done | rfl)); (focus (exact fun _ _ _ h => h)); (focus rfl); (focus (intro wz hSw; exact exec_bld10 wz _ _ rfl #[(0, .agg (clsOf D.K)), (2, .slice a7 (D.n + 1) c7)] (by first | rfl | simp [Act.eval] | (simp; rfl)) _ (dfa_built2 D.K a7 (D.n + 1) c7 wz))); try simp only [Act.put, List.setIfInBounds_toArray, List.set_cons_zero, List.set_cons_succ])
              refine wpAnyH_ready (rs := [15]) (by kernel_rfl) (by simp) ?_
              refine AllReadyH.cons (o := ?_) ?_ (fun K hK => ?_) ?_
              rotate_left
              (focus ((simp only [List.getElem?_toArray, List.getElem?_cons_succ, List.getElem?_cons_zero]); first | done | rfl))
              · skip
                refine step_store9 (by rfl) 26 _ _ (by rfl) V11.heap.size 26 (zC 26) (dfC D.K (.slice none 0 0) (.slice a7 (D.n + 1) c7)) (by rfl) (by rfl) H7.out.1 (by rw [zDfa_size, dfC_size]) (by rw [info_dfa9, dfC_size]) (dfC_one _ _ _ _ _ _ _) ?_
                have HM8 : Hid (V12.ownsRow w3.heap.size 3 1 (.slice a7 (D.n + 1) c7) (D.n + 1) (ints ((List.range (D.n + 1)).map (dupQ D i)))) := by
                  have h := HM7.out
                  rw [dupM, Hqi.out]
                  show World.ownsRow _ _ _ _ _ _ _
                  simpa [ints] using h
                have HT0 := Lib.hid (TrA.start (K := D.K) (C := C) (ws := fun _ => .slice none 0 0) HM8.out (by simp) hHeld.1 H7.out.1 H7.out.2)
                refine hK.out _ _ (HSo.out _ HT0.out.bel) (fun hHeld => ?_)
                clear hK K
                try simp only [Act.put, List.setIfInBounds_toArray, List.set_cons_zero, List.set_cons_succ]
                refine wpAnyH_done (by kernel_rfl) ?_ _
                clear hHeld
                go_wp2_with fail
                go_meet
                exact ⟨_, _, _, rfl, HT0.out⟩
              exact AllReadyH.nil
            exact AllReadyH.nil
          exact AllReadyH.nil
        refine AllReadyH.cons (o := ?_) ?_ (fun K hK => ?_) ?_
        rotate_left
        (focus ((simp only [List.getElem?_toArray, List.getElem?_cons_succ, List.getElem?_cons_zero]); first | done | rfl))
        · skip
          refine step_alloc9 (by rfl) 26 (by rfl) (zC 26) (zero_run9 _) ?_
          have kk := al V5 (.cells (zC 26) 26)
          have hbn : Below w3.heap.size w3 (V5.alloc (.cells (zC 26) 26)) := hHeld.1.trans (kk.mono hHeld.1.size)
          have HM6 : Hid ((V5.alloc (.cells (zC 26) 26)).ownsRow w3.heap.size 3 1 (.slice a6 D.n c6) D.n (ints ((List.range D.n).map D.q))) := ownsRow_keep HM6.out kk
          have H7 : Hid (St (V5.alloc (.cells (zC 26) 26)) 26 V5.heap.size (zC 26) ∧ w3.heap.size ≤ V5.heap.size) := ⟨St.new _ _ _, hHeld.1.size⟩
          refine hK.out _ _ (HSo.out _ hbn) (fun hHeld => ?_)
          clear hK K
          try simp only [Act.put, List.setIfInBounds_toArray, List.set_cons_zero, List.set_cons_succ]
          try simp only [drew_sz9]
          clear kk
          generalize (V5.alloc (.cells (zC 26) 26)) = V14 at HM6 H7 hHeld hbn ⊢
          refine wpAnyH_ready (rs := [11]) (by kernel_rfl) (by simp) ?_
          refine AllReadyH.cons (o := ?_) ?_ (fun K hK => ?_) ?_
          rotate_left
          (focus ((simp only [List.getElem?_toArray, List.getElem?_cons_succ, List.getElem?_cons_zero]); first | done | rfl))
          · skip
            go_simp
            have kk := al V14 (.cells #[.int .i64 qi] 3)
            have hbn : Below w3.heap.size w3 (V14.alloc (.cells #[.int .i64 qi] 3)) := hHeld.1.trans (kk.mono hHeld.1.size)
            have HS1 : Hid (St (V14.alloc (.cells #[.int .i64 qi] 3)) 3 V14.heap.size #[.int .i64 qi]) := St.new V14 _ _
            have HM6 : Hid ((V14.alloc (.cells #[.int .i64 qi] 3)).ownsRow w3.heap.size 3 1 (.slice a6 D.n c6) D.n (ints ((List.range D.n).map D.q))) := ownsRow_keep HM6.out kk
            have H7 : Hid (St (V14.alloc (.cells #[.int .i64 qi] 3)) 26 V5.heap.size (zC 26) ∧ w3.heap.size ≤ V5.heap.size) := ⟨H7.out.1.keep kk, H7.out.2⟩
            refine hK.out _ _ (HSo.out _ hbn) (fun hHeld => ?_)
            clear hK K
            try simp only [Act.put, List.setIfInBounds_toArray, List.set_cons_zero, List.set_cons_succ]
            clear kk
            generalize (V14.alloc (.cells #[.int .i64 qi] 3)) = V11 at HM6 H7 HS1 hHeld hbn ⊢
            refine wpAnyH_ready (rs := [12]) (by kernel_rfl) (by simp) ?_
            refine AllReadyH.cons (o := ?_) ?_ (fun K hK => ?_) ?_
            rotate_left
            (focus ((simp only [List.getElem?_toArray, List.getElem?_cons_succ, List.getElem?_cons_zero]); first | done | rfl))
            · skip
              refine step_append_at9 (by rfl) _ _ _ (by rfl) w3.heap.size 3 iI (.int .i64 0) 1 8 Try.underlying24 hI hI0 hI1 hI2 (by rfl) (by decide) _ D.n (ints ((List.range D.n).map D.q)) (by rfl) HM6.out ⟨V14.heap.size, 0, none⟩ 1 1 [.int .i64 qi] (by rfl) (by rfl) (St.part HS1.out) (by intro u hu; simp at hu; subst hu; rfl) (by unfold maxLen; omega) (by omega) hHeld.1.size ?_
              intro v6 V12 hown6 hgrow6 hat6
              obtain ⟨a7, c7, rfl⟩ := ownsRow_slice hown6
              have HM7 : Hid (V12.ownsRow w3.heap.size 3 1 (.slice a7 (D.n + 1) c7) (D.n + 1) ((ints ((List.range D.n).map D.q)) ++ [.int .i64 qi])) := hown6
              have hbn : Below w3.heap.size w3 V12 := below_grown_own hHeld.1 HM6.out hHeld.1.size hgrow6
              have H7 : Hid (St V12 26 V5.heap.size (zC 26) ∧ w3.heap.size ≤ V5.heap.size) := ⟨H7.out.1.grown_own HM6.out (by decide) hgrow6, H7.out.2⟩
              clear hown6 hgrow6 hat6
              refine hK.out _ _ (HSo.out _ hbn) (fun hHeld => ?_)
              clear hK K
              try simp only [Act.put, List.setIfInBounds_toArray, List.set_cons_zero, List.set_cons_succ]
              (refine wpAnyH_take (i := 13) (oi := ?_) (v := .agg (dfC D.K (.slice none 0 0) (.slice a7 (D.n + 1) c7))) ?_ (by kernel_rfl) (by kernel_rfl) (by kernel_rfl) ?_ (Or.inl ⟨?_, ?_⟩) (by assumption) ?_; rotate_left; (focus ((simp only [List.getElem?_toArray, List.getElem?_cons_succ, List.getElem?_cons_zero]); first | done | rfl)); (focus (exact fun _ _ _ h => h)); (focus rfl); (focus (intro wz hSw; exact exec_bld10 wz _ _ rfl #[(0, .agg (clsOf D.K)), (2, .slice a7 (D.n + 1) c7)] (by first | rfl | simp [Act.eval] | (simp; rfl)) _ (dfa_built2 D.K a7 (D.n + 1) c7 wz))); try simp only [Act.put, List.setIfInBounds_toArray, List.set_cons_zero, List.set_cons_succ])
              refine wpAnyH_ready (rs := [15]) (by kernel_rfl) (by simp) ?_
              refine AllReadyH.cons (o := ?_) ?_ (fun K hK => ?_) ?_
              rotate_left
              (focus ((simp only [List.getElem?_toArray, List.getElem?_cons_succ, List.getElem?_cons_zero]); first | done | rfl))
              · skip
                refine step_store9 (by rfl) 26 _ _ (by rfl) V5.heap.size 26 (zC 26) (dfC D.K (.slice none 0 0) (.slice a7 (D.n + 1) c7)) (by rfl) (by rfl) H7.out.1 (by rw [zDfa_size, dfC_size]) (by rw [info_dfa9, dfC_size]) (dfC_one _ _ _ _ _ _ _) ?_
                have HM8 : Hid (V12.ownsRow w3.heap.size 3 1 (.slice a7 (D.n + 1) c7) (D.n + 1) (ints ((List.range (D.n + 1)).map (dupQ D i)))) := by
                  have h := HM7.out
                  rw [dupM, Hqi.out]
                  show World.ownsRow _ _ _ _ _ _ _
                  simpa [ints] using h
                have HT0 := Lib.hid (TrA.start (K := D.K) (C := C) (ws := fun _ => .slice none 0 0) HM8.out (by simp) hHeld.1 H7.out.1 H7.out.2)
                refine hK.out _ _ (HSo.out _ HT0.out.bel) (fun hHeld => ?_)
                clear hK K
                try simp only [Act.put, List.setIfInBounds_toArray, List.set_cons_zero, List.set_cons_succ]
                refine wpAnyH_done (by kernel_rfl) ?_ _
                clear hHeld
                go_wp2_with fail
                go_meet
                exact ⟨_, _, _, rfl, HT0.out⟩
              exact AllReadyH.nil
            exact AllReadyH.nil
          exact AllReadyH.nil
        exact AllReadyH.nil
      refine AllReadyH.cons (o := ?_) ?_ (fun K hK => ?_) ?_
      rotate_left
      (focus ((simp only [List.getElem?_toArray, List.getElem?_cons_succ, List.getElem?_cons_zero]); first | done | rfl))
      · skip
        go_simp
        have kk := al V2 (.cells #[.int .i64 qi] 3)
        have hbn : Below w3.heap.size w3 (V2.alloc (.cells #[.int .i64 qi] 3)) := hHeld.1.trans (kk.mono hHeld.1.size)
        have HS1 : Hid (St (V2.alloc (.cells #[.int .i64 qi] 3)) 3 V2.heap.size #[.int .i64 qi]) := St.new V2 _ _
        have HNe : Hid (w3.heap.size ≠ V2.heap.size) := by have h9 : w3.heap.size < V2.heap.size := own_lt9 HP2.out _ rfl; show _ ≠ _; omega
        have HP2 : Hid ((V2.alloc (.cells #[.int .i64 qi] 3)).ownsRow w3.heap.size 3 1 (.slice (some ⟨w3.heap.size, 0, none⟩) 0 0) 0 []) := ownsRow_keep HP2.out kk
        refine hK.out _ _ (HSo.out _ hbn) (fun hHeld => ?_)
        clear hK K
        try simp only [Act.put, List.setIfInBounds_toArray, List.set_cons_zero, List.set_cons_succ]
        clear kk
        generalize (V2.alloc (.cells #[.int .i64 qi] 3)) = V11 at HP2 HS1 hHeld hbn ⊢
        refine wpAnyH_ready (rs := [5, 14]) (by kernel_rfl) (by simp) ?_
        refine AllReadyH.cons (o := ?_) ?_ (fun K hK => ?_) ?_
        rotate_left
        (focus ((simp only [List.getElem?_toArray, List.getElem?_cons_succ, List.getElem?_cons_zero]); first | done | rfl))
        · skip
          refine step_append_at9 (by rfl) _ _ _ (by rfl) w3.heap.size 3 iI (.int .i64 0) 1 8 Try.underlying24 hI hI0 hI1 hI2 (by rfl) (by decide) _ 0 [] (by rfl) HP2.out ⟨gM, oM, none⟩ D.n D.cM (ints ((List.range D.n).map D.q)) (by rfl) (by simp [ints]) (HNw.out _ hHeld.1) (by intro u hu; simp [ints] at hu; obtain ⟨x, _, rfl⟩ := hu; rfl) (by unfold maxLen; omega) (by omega) hHeld.1.size ?_
          intro v6 V5 hown6 hgrow6 hat6
          try rw [Nat.zero_add] at hown6
          rw [List.nil_append] at hown6
          obtain ⟨a6, c6, rfl⟩ := ownsRow_slice hown6
          have HM6 : Hid (V5.ownsRow w3.heap.size 3 1 (.slice a6 D.n c6) D.n (ints ((List.range D.n).map D.q))) := hown6
          have hbn : Below w3.heap.size w3 V5 := below_grown_own hHeld.1 HP2.out hHeld.1.size hgrow6
          have HS1 : Hid (St V5 3 V2.heap.size #[.int .i64 qi]) := HS1.out.grown hgrow6 (fun e => HNe.out (by injection e with e; exact e.symm))
          clear hown6 hgrow6 hat6
          refine hK.out _ _ (HSo.out _ hbn) (fun hHeld => ?_)
          clear hK K
          try simp only [Act.put, List.setIfInBounds_toArray, List.set_cons_zero, List.set_cons_succ]
          refine wpAnyH_ready (rs := [12, 14]) (by kernel_rfl) (by simp) ?_
          refine AllReadyH.cons (o := ?_) ?_ (fun K hK => ?_) ?_
          rotate_left
          (focus ((simp only [List.getElem?_toArray, List.getElem?_cons_succ, List.getElem?_cons_zero]); first | done | rfl))
          · skip
            refine step_append_at9 (by rfl) _ _ _ (by rfl) w3.heap.size 3 iI (.int .i64 0) 1 8 Try.underlying24 hI hI0 hI1 hI2 (by rfl) (by decide) _ D.n (ints ((List.range D.n).map D.q)) (by rfl) HM6.out ⟨V2.heap.size, 0, none⟩ 1 1 [.int .i64 qi] (by rfl) (by rfl) (St.part HS1.out) (by intro u hu; simp at hu; subst hu; rfl) (by unfold maxLen; omega) (by omega) hHeld.1.size ?_
            intro v6 V12 hown6 hgrow6 hat6
            obtain ⟨a7, c7, rfl⟩ := ownsRow_slice hown6
            have HM7 : Hid (V12.ownsRow w3.heap.size 3 1 (.slice a7 (D.n + 1) c7) (D.n + 1) ((ints ((List.range D.n).map D.q)) ++ [.int .i64 qi])) := hown6
            have hbn : Below w3.heap.size w3 V12 := below_grown_own hHeld.1 HM6.out hHeld.1.size hgrow6
            clear hown6 hgrow6 hat6
            refine hK.out _ _ (HSo.out _ hbn) (fun hHeld => ?_)
            clear hK K
            try simp only [Act.put, List.setIfInBounds_toArray, List.set_cons_zero, List.set_cons_succ]
            (refine wpAnyH_take (i := 13) (oi := ?_) (v := .agg (dfC D.K (.slice none 0 0) (.slice a7 (D.n + 1) c7))) ?_ (by kernel_rfl) (by kernel_rfl) (by kernel_rfl) ?_ (Or.inl ⟨?_, ?_⟩) (by assumption) ?_; rotate_left; (focus ((simp only [List.getElem?_toArray, List.getElem?_cons_succ, List.getElem?_cons_zero]); first | done | rfl)); (focus (exact fun _ _ _ h => h)); (focus rfl); (focus (intro wz hSw; exact exec_bld10 wz _ _ rfl #[(0, .agg (clsOf D.K)), (2, .slice a7 (D.n + 1) c7)] (by first | rfl | simp [Act.eval] | (simp; rfl)) _ (dfa_built2 D.K a7 (D.n + 1) c7 wz))); try simp only [Act.put, List.setIfInBounds_toArray, List.set_cons_zero, List.set_cons_succ])
            refine wpAnyH_ready (rs := [14]) (by kernel_rfl) (by simp) ?_
            refine AllReadyH.cons (o := ?_) ?_ (fun K hK => ?_) ?_
            rotate_left
            (focus ((simp only [List.getElem?_toArray, List.getElem?_cons_succ, List.getElem?_cons_zero]); first | done | rfl))
            · skip
              refine step_alloc9 (by rfl) 26 (by rfl) (zC 26) (zero_run9 _) ?_
              have kk := al V12 (.cells (zC 26) 26)
              have hbn : Below w3.heap.size w3 (V12.alloc (.cells (zC 26) 26)) := hHeld.1.trans (kk.mono hHeld.1.size)
              have HM7 : Hid ((V12.alloc (.cells (zC 26) 26)).ownsRow w3.heap.size 3 1 (.slice a7 (D.n + 1) c7) (D.n + 1) ((ints ((List.range D.n).map D.q)) ++ [.int .i64 qi])) := ownsRow_keep HM7.out kk
              have H7 : Hid (St (V12.alloc (.cells (zC 26) 26)) 26 V12.heap.size (zC 26) ∧ w3.heap.size ≤ V12.heap.size) := ⟨St.new _ _ _, hHeld.1.size⟩
              refine hK.out _ _ (HSo.out _ hbn) (fun hHeld => ?_)
              clear hK K
              try simp only [Act.put, List.setIfInBounds_toArray, List.set_cons_zero, List.set_cons_succ]
              try simp only [drew_sz9]
              clear kk
              generalize (V12.alloc (.cells (zC 26) 26)) = V14 at HM7 H7 hHeld hbn ⊢
              refine wpAnyH_ready (rs := [15]) (by kernel_rfl) (by simp) ?_
              refine AllReadyH.cons (o := ?_) ?_ (fun K hK => ?_) ?_
              rotate_left
              (focus ((simp only [List.getElem?_toArray, List.getElem?_cons_succ, List.getElem?_cons_zero]); first | done | rfl))
              · skip
                refine step_store9 (by rfl) 26 _ _ (by rfl) V12.heap.size 26 (zC 26) (dfC D.K (.slice none 0 0) (.slice a7 (D.n + 1) c7)) (by rfl) (by rfl) H7.out.1 (by rw [zDfa_size, dfC_size]) (by rw [info_dfa9, dfC_size]) (dfC_one _ _ _ _ _ _ _) ?_
                have HM8 : Hid (V14.ownsRow w3.heap.size 3 1 (.slice a7 (D.n + 1) c7) (D.n + 1) (ints ((List.range (D.n + 1)).map (dupQ D i)))) := by
                  have h := HM7.out
                  rw [dupM, Hqi.out]
                  show World.ownsRow _ _ _ _ _ _ _
                  simpa [ints] using h
                have HT0 := Lib.hid (TrA.start (K := D.K) (C := C) (ws := fun _ => .slice none 0 0) HM8.out (by simp) hHeld.1 H7.out.1 H7.out.2)
                refine hK.out _ _ (HSo.out _ HT0.out.bel) (fun hHeld => ?_)
                clear hK K
                try simp only [Act.put, List.setIfInBounds_toArray, List.set_cons_zero, List.set_cons_succ]
                refine wpAnyH_done (by kernel_rfl) ?_ _
                clear hHeld
                go_wp2_with fail
                go_meet
                exact ⟨_, _, _, rfl, HT0.out⟩
              exact AllReadyH.nil
            exact AllReadyH.nil
          refine AllReadyH.cons (o := ?_) ?_ (fun K hK => ?_) ?_
          rotate_left
          (focus ((simp only [List.getElem?_toArray, List.getElem?_cons_succ, List.getElem?_cons_zero]); first | done | rfl))
          · skip
            refine step_alloc9 (by rfl) 26 (by rfl) (zC 26) (zero_run9 _) ?_
            have kk := al V5 (.cells (zC 26) 26)
            have hbn : Below w3.heap.size w3 (V5.alloc (.cells (zC 26) 26)) := hHeld.1.trans (kk.mono hHeld.1.size)
            have HM6 : Hid ((V5.alloc (.cells (zC 26) 26)).ownsRow w3.heap.size 3 1 (.slice a6 D.n c6) D.n (ints ((List.range D.n).map D.q))) := ownsRow_keep HM6.out kk
            have HS1 : Hid (St (V5.alloc (.cells (zC 26) 26)) 3 V2.heap.size #[.int .i64 qi]) := HS1.out.keep kk
            have H7 : Hid (St (V5.alloc (.cells (zC 26) 26)) 26 V5.heap.size (zC 26) ∧ w3.heap.size ≤ V5.heap.size) := ⟨St.new _ _ _, hHeld.1.size⟩
            refine hK.out _ _ (HSo.out _ hbn) (fun hHeld => ?_)
            clear hK K
            try simp only [Act.put, List.setIfInBounds_toArray, List.set_cons_zero, List.set_cons_succ]
            try simp only [drew_sz9]
            clear kk
            generalize (V5.alloc (.cells (zC 26) 26)) = V14 at HM6 H7 HS1 hHeld hbn ⊢
            refine wpAnyH_ready (rs := [12]) (by kernel_rfl) (by simp) ?_
            refine AllReadyH.cons (o := ?_) ?_ (fun K hK => ?_) ?_
            rotate_left
            (focus ((simp only [List.getElem?_toArray, List.getElem?_cons_succ, List.getElem?_cons_zero]); first | done | rfl))
            · skip
              refine step_append_at9 (by rfl) _ _ _ (by rfl) w3.heap.size 3 iI (.int .i64 0) 1 8 Try.underlying24 hI hI0 hI1 hI2 (by rfl) (by decide) _ D.n (ints ((List.range D.n).map D.q)) (by rfl) HM6.out ⟨V2.heap.size, 0, none⟩ 1 1 [.int .i64 qi] (by rfl) (by rfl) (St.part HS1.out) (by intro u hu; simp at hu; subst hu; rfl) (by unfold maxLen; omega) (by omega) hHeld.1.size ?_
              intro v6 V12 hown6 hgrow6 hat6
              obtain ⟨a7, c7, rfl⟩ := ownsRow_slice hown6
              have HM7 : Hid (V12.ownsRow w3.heap.size 3 1 (.slice a7 (D.n + 1) c7) (D.n + 1) ((ints ((List.range D.n).map D.q)) ++ [.int .i64 qi])) := hown6
              have hbn : Below w3.heap.size w3 V12 := below_grown_own hHeld.1 HM6.out hHeld.1.size hgrow6
              have H7 : Hid (St V12 26 V5.heap.size (zC 26) ∧ w3.heap.size ≤ V5.heap.size) := ⟨H7.out.1.grown_own HM6.out (by decide) hgrow6, H7.out.2⟩
              clear hown6 hgrow6 hat6
              refine hK.out _ _ (HSo.out _ hbn) (fun hHeld => ?_)
              clear hK K
              try simp only [Act.put, List.setIfInBounds_toArray, List.set_cons_zero, List.set_cons_succ]
              (refine wpAnyH_take (i := 13) (oi := ?_) (v := .agg (dfC D.K (.slice none 0 0) (.slice a7 (D.n + 1) c7))) ?_ (by kernel_rfl) (by kernel_rfl) (by kernel_rfl) ?_ (Or.inl ⟨?_, ?_⟩) (by assumption) ?_; rotate_left; (focus ((simp only [List.getElem?_toArray, List.getElem?_cons_succ, List.getElem?_cons_zero]); first | done | rfl)); (focus (exact fun _ _ _ h => h)); (focus rfl); (focus (intro wz hSw; exact exec_bld10 wz _ _ rfl #[(0, .agg (clsOf D.K)), (2, .slice a7 (D.n + 1) c7)] (by first | rfl | simp [Act.eval] | (simp; rfl)) _ (dfa_built2 D.K a7 (D.n + 1) c7 wz))); try simp only [Act.put, List.setIfInBounds_toArray, List.set_cons_zero, List.set_cons_succ])
              refine wpAnyH_ready (rs := [15]) (by kernel_rfl) (by simp) ?_
              refine AllReadyH.cons (o := ?_) ?_ (fun K hK => ?_) ?_
              rotate_left
              (focus ((simp only [List.getElem?_toArray, List.getElem?_cons_succ, List.getElem?_cons_zero]); first | done | rfl))
              · skip
                refine step_store9 (by rfl) 26 _ _ (by rfl) V5.heap.size 26 (zC 26) (dfC D.K (.slice none 0 0) (.slice a7 (D.n + 1) c7)) (by rfl) (by rfl) H7.out.1 (by rw [zDfa_size, dfC_size]) (by rw [info_dfa9, dfC_size]) (dfC_one _ _ _ _ _ _ _) ?_
                have HM8 : Hid (V12.ownsRow w3.heap.size 3 1 (.slice a7 (D.n + 1) c7) (D.n + 1) (ints ((List.range (D.n + 1)).map (dupQ D i)))) := by
                  have h := HM7.out
                  rw [dupM, Hqi.out]
                  show World.ownsRow _ _ _ _ _ _ _
                  simpa [ints] using h
                have HT0 := Lib.hid (TrA.start (K := D.K) (C := C) (ws := fun _ => .slice none 0 0) HM8.out (by simp) hHeld.1 H7.out.1 H7.out.2)
                refine hK.out _ _ (HSo.out _ HT0.out.bel) (fun hHeld => ?_)
                clear hK K
                try simp only [Act.put, List.setIfInBounds_toArray, List.set_cons_zero, List.set_cons_succ]
                refine wpAnyH_done (by kernel_rfl) ?_ _
                clear hHeld
                go_wp2_with fail
                go_meet
                exact ⟨_, _, _, rfl, HT0.out⟩
              exact AllReadyH.nil
            exact AllReadyH.nil
          exact AllReadyH.nil
        refine AllReadyH.cons (o := ?_) ?_ (fun K hK => ?_) ?_
        rotate_left
        (focus ((simp only [List.getElem?_toArray, List.getElem?_cons_succ, List.getElem?_cons_zero]); first | done | rfl))
        · skip
          refine step_alloc9 (by rfl) 26 (by rfl) (zC 26) (zero_run9 _) ?_
          have kk := al V11 (.cells (zC 26) 26)
          have hbn : Below w3.heap.size w3 (V11.alloc (.cells (zC 26) 26)) := hHeld.1.trans (kk.mono hHeld.1.size)
          have HP2 : Hid ((V11.alloc (.cells (zC 26) 26)).ownsRow w3.heap.size 3 1 (.slice (some ⟨w3.heap.size, 0, none⟩) 0 0) 0 []) := ownsRow_keep HP2.out kk
          have HS1 : Hid (St (V11.alloc (.cells (zC 26) 26)) 3 V2.heap.size #[.int .i64 qi]) := HS1.out.keep kk
          have H7 : Hid (St (V11.alloc (.cells (zC 26) 26)) 26 V11.heap.size (zC 26) ∧ w3.heap.size ≤ V11.heap.size) := ⟨St.new _ _ _, hHeld.1.size⟩
          refine hK.out _ _ (HSo.out _ hbn) (fun hHeld => ?_)
          clear hK K
          try simp only [Act.put, List.setIfInBounds_toArray, List.set_cons_zero, List.set_cons_succ]
          try simp only [drew_sz9]
          clear kk
          generalize (V11.alloc (.cells (zC 26) 26)) = V14 at HP2 H7 HS1 hHeld hbn ⊢
          refine wpAnyH_ready (rs := [5]) (by kernel_rfl) (by simp) ?_
          refine AllReadyH.cons (o := ?_) ?_ (fun K hK => ?_) ?_
          rotate_left
          (focus ((simp only [List.getElem?_toArray, List.getElem?_cons_succ, List.getElem?_cons_zero]); first | done | rfl))
          · skip
            refine step_append_at9 (by rfl) _ _ _ (by rfl) w3.heap.size 3 iI (.int .i64 0) 1 8 Try.underlying24 hI hI0 hI1 hI2 (by rfl) (by decide) _ 0 [] (by rfl) HP2.out ⟨gM, oM, none⟩ D.n D.cM (ints ((List.range D.n).map D.q)) (by rfl) (by simp [ints]) (HNw.out _ hHeld.1) (by intro u hu; simp [ints] at hu; obtain ⟨x, _, rfl⟩ := hu; rfl) (by unfold maxLen; omega) (by omega) hHeld.1.size ?_
            intro v6 V5 hown6 hgrow6 hat6
            try rw [Nat.zero_add] at hown6
            rw [List.nil_append] at hown6
            obtain ⟨a6, c6, rfl⟩ := ownsRow_slice hown6
            have HM6 : Hid (V5.ownsRow w3.heap.size 3 1 (.slice a6 D.n c6) D.n (ints ((List.range D.n).map D.q))) := hown6
            have hbn : Below w3.heap.size w3 V5 := below_grown_own hHeld.1 HP2.out hHeld.1.size hgrow6
            have H7 : Hid (St V5 26 V11.heap.size (zC 26) ∧ w3.heap.size ≤ V11.heap.size) := ⟨H7.out.1.grown_own HP2.out (by decide) hgrow6, H7.out.2⟩
            have HS1 : Hid (St V5 3 V2.heap.size #[.int .i64 qi]) := HS1.out.grown hgrow6 (fun e => HNe.out (by injection e with e; exact e.symm))
            clear hown6 hgrow6 hat6
            refine hK.out _ _ (HSo.out _ hbn) (fun hHeld => ?_)
            clear hK K
            try simp only [Act.put, List.setIfInBounds_toArray, List.set_cons_zero, List.set_cons_succ]
            refine wpAnyH_ready (rs := [12]) (by kernel_rfl) (by simp) ?_
            refine AllReadyH.cons (o := ?_) ?_ (fun K hK => ?_) ?_
            rotate_left
            (focus ((simp only [List.getElem?_toArray, List.getElem?_cons_succ, List.getElem?_cons_zero]); first | done | rfl))
            · skip
              refine step_append_at9 (by rfl) _ _ _ (by rfl) w3.heap.size 3 iI (.int .i64 0) 1 8 Try.underlying24 hI hI0 hI1 hI2 (by rfl) (by decide) _ D.n (ints ((List.range D.n).map D.q)) (by rfl) HM6.out ⟨V2.heap.size, 0, none⟩ 1 1 [.int .i64 qi] (by rfl) (by rfl) (St.part HS1.out) (by intro u hu; simp at hu; subst hu; rfl) (by unfold maxLen; omega) (by omega) hHeld.1.size ?_
              intro v6 V12 hown6 hgrow6 hat6
              obtain ⟨a7, c7, rfl⟩ := ownsRow_slice hown6
              have HM7 : Hid (V12.ownsRow w3.heap.size 3 1 (.slice a7 (D.n + 1) c7) (D.n + 1) ((ints ((List.range D.n).map D.q)) ++ [.int .i64 qi])) := hown6
              have hbn : Below w3.heap.size w3 V12 := below_grown_own hHeld.1 HM6.out hHeld.1.size hgrow6
              have H7 : Hid (St V12 26 V11.heap.size (zC 26) ∧ w3.heap.size ≤ V11.heap.size) := ⟨H7.out.1.grown_own HM6.out (by decide) hgrow6, H7.out.2⟩
              clear hown6 hgrow6 hat6
              refine hK.out _ _ (HSo.out _ hbn) (fun hHeld => ?_)
              clear hK K
              try simp only [Act.put, List.setIfInBounds_toArray, List.set_cons_zero, List.set_cons_succ]
              (refine wpAnyH_take (i := 13) (oi := ?_) (v := .agg (dfC D.K (.slice none 0 0) (.slice a7 (D.n + 1) c7))) ?_ (by kernel_rfl) (by kernel_rfl) (by kernel_rfl) ?_ (Or.inl ⟨?_, ?_⟩) (by assumption) ?_; rotate_left; (focus ((simp only [List.getElem?_toArray, List.getElem?_cons_succ, List.getElem?_cons_zero]); first | done | rfl)); (focus (exact fun _ _ _ h => h)); (focus rfl); (focus (intro wz hSw; exact exec_bld10 wz _ _ rfl #[(0, .agg (clsOf D.K)), (2, .slice a7 (D.n + 1) c7)] (by first | rfl | simp [Act.eval] | (simp; rfl)) _ (dfa_built2 D.K a7 (D.n + 1) c7 wz))); try simp only [Act.put, List.setIfInBounds_toArray, List.set_cons_zero, List.set_cons_succ])
              refine wpAnyH_ready (rs := [15]) (by kernel_rfl) (by simp) ?_
              refine AllReadyH.cons (o := ?_) ?_ (fun K hK => ?_) ?_
              rotate_left
              (focus ((simp only [List.getElem?_toArray, List.getElem?_cons_succ, List.getElem?_cons_zero]); first | done | rfl))
              · skip
                refine step_store9 (by rfl) 26 _ _ (by rfl) V11.heap.size 26 (zC 26) (dfC D.K (.slice none 0 0) (.slice a7 (D.n + 1) c7)) (by rfl) (by rfl) H7.out.1 (by rw [zDfa_size, dfC_size]) (by rw [info_dfa9, dfC_size]) (dfC_one _ _ _ _ _ _ _) ?_
                have HM8 : Hid (V12.ownsRow w3.heap.size 3 1 (.slice a7 (D.n + 1) c7) (D.n + 1) (ints ((List.range (D.n + 1)).map (dupQ D i)))) := by
                  have h := HM7.out
                  rw [dupM, Hqi.out]
                  show World.ownsRow _ _ _ _ _ _ _
                  simpa [ints] using h
                have HT0 := Lib.hid (TrA.start (K := D.K) (C := C) (ws := fun _ => .slice none 0 0) HM8.out (by simp) hHeld.1 H7.out.1 H7.out.2)
                refine hK.out _ _ (HSo.out _ HT0.out.bel) (fun hHeld => ?_)
                clear hK K
                try simp only [Act.put, List.setIfInBounds_toArray, List.set_cons_zero, List.set_cons_succ]
                refine wpAnyH_done (by kernel_rfl) ?_ _
                clear hHeld
                go_wp2_with fail
                go_meet
                exact ⟨_, _, _, rfl, HT0.out⟩
              exact AllReadyH.nil
            exact AllReadyH.nil
          exact AllReadyH.nil
        exact AllReadyH.nil
      refine AllReadyH.cons (o := ?_) ?_ (fun K hK => ?_) ?_
      rotate_left
      (focus ((simp only [List.getElem?_toArray, List.getElem?_cons_succ, List.getElem?_cons_zero]); first | done | rfl))
      · skip
        refine step_alloc9 (by rfl) 26 (by rfl) (zC 26) (zero_run9 _) ?_
        have kk := al V2 (.cells (zC 26) 26)
        have hbn : Below w3.heap.size w3 (V2.alloc (.cells (zC 26) 26)) := hHeld.1.trans (kk.mono hHeld.1.size)
        have HP2 : Hid ((V2.alloc (.cells (zC 26) 26)).ownsRow w3.heap.size 3 1 (.slice (some ⟨w3.heap.size, 0, none⟩) 0 0) 0 []) := ownsRow_keep HP2.out kk
        have H7 : Hid (St (V2.alloc (.cells (zC 26) 26)) 26 V2.heap.size (zC 26) ∧ w3.heap.size ≤ V2.heap.size) := ⟨St.new _ _ _, hHeld.1.size⟩
        refine hK.out _ _ (HSo.out _ hbn) (fun hHeld => ?_)
        clear hK K
        try simp only [Act.put, List.setIfInBounds_toArray, List.set_cons_zero, List.set_cons_succ]
        try simp only [drew_sz9]
        clear kk
        generalize (V2.alloc (.cells (zC 26) 26)) = V14 at HP2 H7 hHeld hbn ⊢
        refine wpAnyH_ready (rs := [5, 11]) (by kernel_rfl) (by simp) ?_
        refine AllReadyH.cons (o := ?_) ?_ (fun K hK => ?_) ?_
        rotate_left
        (focus ((simp only [List.getElem?_toArray, List.getElem?_cons_succ, List.getElem?_cons_zero]); first | done | rfl))
        · skip
          refine step_append_at9 (by rfl) _ _ _ (by rfl) w3.heap.size 3 iI (.int .i64 0) 1 8 Try.underlying24 hI hI0 hI1 hI2 (by rfl) (by decide) _ 0 [] (by rfl) HP2.out ⟨gM, oM, none⟩ D.n D.cM (ints ((List.range D.n).map D.q)) (by rfl) (by simp [ints]) (HNw.out _ hHeld.1) (by intro u hu; simp [ints] at hu; obtain ⟨x, _, rfl⟩ := hu; rfl) (by unfold maxLen; omega) (by omega) hHeld.1.size ?_
          intro v6 V5 hown6 hgrow6 hat6
          try rw [Nat.zero_add] at hown6
          rw [List.nil_append] at hown6
          obtain ⟨a6, c6, rfl⟩ := ownsRow_slice hown6
          have HM6 : Hid (V5.ownsRow w3.heap.size 3 1 (.slice a6 D.n c6) D.n (ints ((List.range D.n).map D.q))) := hown6
          have hbn : Below w3.heap.size w3 V5 := below_grown_own hHeld.1 HP2.out hHeld.1.size hgrow6
          have H7 : Hid (St V5 26 V2.heap.size (zC 26) ∧ w3.heap.size ≤ V2.heap.size) := ⟨H7.out.1.grown_own HP2.out (by decide) hgrow6, H7.out.2⟩
          clear hown6 hgrow6 hat6
          refine hK.out _ _ (HSo.out _ hbn) (fun hHeld => ?_)
          clear hK K
          try simp only [Act.put, List.setIfInBounds_toArray, List.set_cons_zero, List.set_cons_succ]
          refine wpAnyH_ready (rs := [11]) (by kernel_rfl) (by simp) ?_
          refine AllReadyH.cons (o := ?_) ?_ (fun K hK => ?_) ?_
          rotate_left
          (focus ((simp only [List.getElem?_toArray, List.getElem?_cons_succ, List.getElem?_cons_zero]); first | done | rfl))
          · skip
            go_simp
            have kk := al V5 (.cells #[.int .i64 qi] 3)
            have hbn : Below w3.heap.size w3 (V5.alloc (.cells #[.int .i64 qi] 3)) := hHeld.1.trans (kk.mono hHeld.1.size)
            have HS1 : Hid (St (V5.alloc (.cells #[.int .i64 qi] 3)) 3 V5.heap.size #[.int .i64 qi]) := St.new V5 _ _
            have HM6 : Hid ((V5.alloc (.cells #[.int .i64 qi] 3)).ownsRow w3.heap.size 3 1 (.slice a6 D.n c6) D.n (ints ((List.range D.n).map D.q))) := ownsRow_keep HM6.out kk
            have H7 : Hid (St (V5.alloc (.cells #[.int .i64 qi] 3)) 26 V2.heap.size (zC 26) ∧ w3.heap.size ≤ V2.heap.size) := ⟨H7.out.1.keep kk, H7.out.2⟩
            refine hK.out _ _ (HSo.out _ hbn) (fun hHeld => ?_)
            clear hK K
            try simp only [Act.put, List.setIfInBounds_toArray, List.set_cons_zero, List.set_cons_succ]
            clear kk
            generalize (V5.alloc (.cells #[.int .i64 qi] 3)) = V11 at HM6 H7 HS1 hHeld hbn ⊢
            refine wpAnyH_ready (rs := [12]) (by kernel_rfl) (by simp) ?_
            refine AllReadyH.cons (o := ?_) ?_ (fun K hK => ?_) ?_
            rotate_left
            (focus ((simp only [List.getElem?_toArray, List.getElem?_cons_succ, List.getElem?_cons_zero]); first | done | rfl))
            · skip
              refine step_append_at9 (by rfl) _ _ _ (by rfl) w3.heap.size 3 iI (.int .i64 0) 1 8 Try.underlying24 hI hI0 hI1 hI2 (by rfl) (by decide) _ D.n (ints ((List.range D.n).map D.q)) (by rfl) HM6.out ⟨V5.heap.size, 0, none⟩ 1 1 [.int .i64 qi] (by rfl) (by rfl) (St.part HS1.out) (by intro u hu; simp at hu; subst hu; rfl) (by unfold maxLen; omega) (by omega) hHeld.1.size ?_
              intro v6 V12 hown6 hgrow6 hat6
              obtain ⟨a7, c7, rfl⟩ := ownsRow_slice hown6
              have HM7 : Hid (V12.ownsRow w3.heap.size 3 1 (.slice a7 (D.n + 1) c7) (D.n + 1) ((ints ((List.range D.n).map D.q)) ++ [.int .i64 qi])) := hown6
              have hbn : Below w3.heap.size w3 V12 := below_grown_own hHeld.1 HM6.out hHeld.1.size hgrow6
              have H7 : Hid (St V12 26 V2.heap.size (zC 26) ∧ w3.heap.size ≤ V2.heap.size) := ⟨H7.out.1.grown_own HM6.out (by decide) hgrow6, H7.out.2⟩
              clear hown6 hgrow6 hat6
              refine hK.out _ _ (HSo.out _ hbn) (fun hHeld => ?_)
              clear hK K
              try simp only [Act.put, List.setIfInBounds_toArray, List.set_cons_zero, List.set_cons_succ]
              (refine wpAnyH_take (i := 13) (oi := ?_) (v := .agg (dfC D.K (.slice none 0 0) (.slice a7 (D.n + 1) c7))) ?_ (by kernel_rfl) (by kernel_rfl) (by kernel_rfl) ?_ (Or.inl ⟨?_, ?_⟩) (by assumption) ?_; rotate_left; (focus ((simp only [List.getElem?_toArray, List.getElem?_cons_succ, List.getElem?_cons_zero]); first | done | rfl)); (focus (exact fun _ _ _ h => h)); (focus rfl); (focus (intro wz hSw; exact exec_bld10 wz _ _ rfl #[(0, .agg (clsOf D.K)), (2, .slice a7 (D.n + 1) c7)] (by first | rfl | simp [Act.eval] | (simp; rfl)) _ (dfa_built2 D.K a7 (D.n + 1) c7 wz))); try simp only [Act.put, List.setIfInBounds_toArray, List.set_cons_zero, List.set_cons_succ])
              refine wpAnyH_ready (rs := [15]) (by kernel_rfl) (by simp) ?_
              refine AllReadyH.cons (o := ?_) ?_ (fun K hK => ?_) ?_
              rotate_left
              (focus ((simp only [List.getElem?_toArray, List.getElem?_cons_succ, List.getElem?_cons_zero]); first | done | rfl))
              · skip
                refine step_store9 (by rfl) 26 _ _ (by rfl) V2.heap.size 26 (zC 26) (dfC D.K (.slice none 0 0) (.slice a7 (D.n + 1) c7)) (by rfl) (by rfl) H7.out.1 (by rw [zDfa_size, dfC_size]) (by rw [info_dfa9, dfC_size]) (dfC_one _ _ _ _ _ _ _) ?_
                have HM8 : Hid (V12.ownsRow w3.heap.size 3 1 (.slice a7 (D.n + 1) c7) (D.n + 1) (ints ((List.range (D.n + 1)).map (dupQ D i)))) := by
                  have h := HM7.out
                  rw [dupM, Hqi.out]
                  show World.ownsRow _ _ _ _ _ _ _
                  simpa [ints] using h
                have HT0 := Lib.hid (TrA.start (K := D.K) (C := C) (ws := fun _ => .slice none 0 0) HM8.out (by simp) hHeld.1 H7.out.1 H7.out.2)
                refine hK.out _ _ (HSo.out _ HT0.out.bel) (fun hHeld => ?_)
                clear hK K
                try simp only [Act.put, List.setIfInBounds_toArray, List.set_cons_zero, List.set_cons_succ]
                refine wpAnyH_done (by kernel_rfl) ?_ _
                clear hHeld
                go_wp2_with fail
                go_meet
                exact ⟨_, _, _, rfl, HT0.out⟩
              exact AllReadyH.nil
            exact AllReadyH.nil
          exact AllReadyH.nil
        refine AllReadyH.cons (o := ?_) ?_ (fun K hK => ?_) ?_
        rotate_left
        (focus ((simp only [List.getElem?_toArray, List.getElem?_cons_succ, List.getElem?_cons_zero]); first | done | rfl))
        · skip
          go_simp
          have kk := al V14 (.cells #[.int .i64 qi] 3)
          have hbn : Below w3.heap.size w3 (V14.alloc (.cells #[.int .i64 qi] 3)) := hHeld.1.trans (kk.mono hHeld.1.size)
          have HS1 : Hid (St (V14.alloc (.cells #[.int .i64 qi] 3)) 3 V14.heap.size #[.int .i64 qi]) := St.new V14 _ _
          have HNe : Hid (w3.heap.size ≠ V14.heap.size) := by have h9 : w3.heap.size < V14.heap.size := own_lt9 HP2.out _ rfl; show _ ≠ _; omega
          have HP2 : Hid ((V14.alloc (.cells #[.int .i64 qi] 3)).ownsRow w3.heap.size 3 1 (.slice (some ⟨w3.heap.size, 0, none⟩) 0 0) 0 []) := ownsRow_keep HP2.out kk
          have H7 : Hid (St (V14.alloc (.cells #[.int .i64 qi] 3)) 26 V2.heap.size (zC 26) ∧ w3.heap.size ≤ V2.heap.size) := ⟨H7.out.1.keep kk, H7.out.2⟩
          refine hK.out _ _ (HSo.out _ hbn) (fun hHeld => ?_)
          clear hK K
          try simp only [Act.put, List.setIfInBounds_toArray, List.set_cons_zero, List.set_cons_succ]
          clear kk
          generalize (V14.alloc (.cells #[.int .i64 qi] 3)) = V11 at HP2 H7 HS1 hHeld hbn ⊢
          refine wpAnyH_ready (rs := [5]) (by kernel_rfl) (by simp) ?_
          refine AllReadyH.cons (o := ?_) ?_ (fun K hK => ?_) ?_
          rotate_left
          (focus ((simp only [List.getElem?_toArray, List.getElem?_cons_succ, List.getElem?_cons_zero]); first | done | rfl))
          · skip
            refine step_append_at9 (by rfl) _ _ _ (by rfl) w3.heap.size 3 iI (.int .i64 0) 1 8 Try.underlying24 hI hI0 hI1 hI2 (by rfl) (by decide) _ 0 [] (by rfl) HP2.out ⟨gM, oM, none⟩ D.n D.cM (ints ((List.range D.n).map D.q)) (by rfl) (by simp [ints]) (HNw.out _ hHeld.1) (by intro u hu; simp [ints] at hu; obtain ⟨x, _, rfl⟩ := hu; rfl) (by unfold maxLen; omega) (by omega) hHeld.1.size ?_
            intro v6 V5 hown6 hgrow6 hat6
            try rw [Nat.zero_add] at hown6
            rw [List.nil_append] at hown6
            obtain ⟨a6, c6, rfl⟩ := ownsRow_slice hown6
            have HM6 : Hid (V5.ownsRow w3.heap.size 3 1 (.slice a6 D.n c6) D.n (ints ((List.range D.n).map D.q))) := hown6
            have hbn : Below w3.heap.size w3 V5 := below_grown_own hHeld.1 HP2.out hHeld.1.size hgrow6
            have H7 : Hid (St V5 26 V2.heap.size (zC 26) ∧ w3.heap.size ≤ V2.heap.size) := ⟨H7.out.1.grown_own HP2.out (by decide) hgrow6, H7.out.2⟩
            have HS1 : Hid (St V5 3 V14.heap.size #[.int .i64 qi]) := HS1.out.grown hgrow6 (fun e => HNe.out (by injection e with e; exact e.symm))
            clear hown6 hgrow6 hat6
            refine hK.out _ _ (HSo.out _ hbn) (fun hHeld => ?_)
            clear hK K
            try simp only [Act.put, List.setIfInBounds_toArray, List.set_cons_zero, List.set_cons_succ]
            refine wpAnyH_ready (rs := [12]) (by kernel_rfl) (by simp) ?_
            refine AllReadyH.cons (o := ?_) ?_ (fun K hK => ?_) ?_
            rotate_left
            (focus ((simp only [List.getElem?_toArray, List.getElem?_cons_succ, List.getElem?_cons_zero]); first | done | rfl))
            · skip
              refine step_append_at9 (by rfl) _ _ _ (by rfl) w3.heap.size 3 iI (.int .i64 0) 1 8 Try.underlying24 hI hI0 hI1 hI2 (by rfl) (by decide) _ D.n (ints ((List.range D.n).map D.q)) (by rfl) HM6.out ⟨V14.heap.size, 0, none⟩ 1 1 [.int .i64 qi] (by rfl) (by rfl) (St.part HS1.out) (by intro u hu; simp at hu; subst hu; rfl) (by unfold maxLen; omega) (by omega) hHeld.1.size ?_
              intro v6 V12 hown6 hgrow6 hat6
              obtain ⟨a7, c7, rfl⟩ := ownsRow_slice hown6
              have HM7 : Hid (V12.ownsRow w3.heap.size 3 1 (.slice a7 (D.n + 1) c7) (D.n + 1) ((ints ((List.range D.n).map D.q)) ++ [.int .i64 qi])) := hown6
              have hbn : Below w3.heap.size w3 V12 := below_grown_own hHeld.1 HM6.out hHeld.1.size hgrow6
              have H7 : Hid (St V12 26 V2.heap.size (zC 26) ∧ w3.heap.size ≤ V2.heap.size) := ⟨H7.out.1.grown_own HM6.out (by decide) hgrow6, H7.out.2⟩
              clear hown6 hgrow6 hat6
              refine hK.out _ _ (HSo.out _ hbn) (fun hHeld => ?_)
              clear hK K
              try simp only [Act.put, List.setIfInBounds_toArray, List.set_cons_zero, List.set_cons_succ]
              (refine wpAnyH_take (i := 13) (oi := ?_) (v := .agg (dfC D.K (.slice none 0 0) (.slice a7 (D.n + 1) c7))) ?_ (by kernel_rfl) (by kernel_rfl) (by kernel_rfl) ?_ (Or.inl ⟨?_, ?_⟩) (by assumption) ?_; rotate_left; (focus ((simp only [List.getElem?_toArray, List.getElem?_cons_succ, List.getElem?_cons_zero]); first | done | rfl)); (focus (exact fun _ _ _ h => h)); (focus rfl); (focus (intro wz hSw; exact exec_bld10 wz _ _ rfl #[(0, .agg (clsOf D.K)), (2, .slice a7 (D.n + 1) c7)] (by first | rfl | simp [Act.eval] | (simp; rfl)) _ (dfa_built2 D.K a7 (D.n + 1) c7 wz))); try simp only [Act.put, List.setIfInBounds_toArray, List.set_cons_zero, List.set_cons_succ])
              refine wpAnyH_ready (rs := [15]) (by kernel_rfl) (by simp) ?_
              refine AllReadyH.cons (o := ?_) ?_ (fun K hK => ?_) ?_
              rotate_left
              (focus ((simp only [List.getElem?_toArray, List.getElem?_cons_succ, List.getElem?_cons_zero]); first | done | rfl))
              · skip
                refine step_store9 (by rfl) 26 _ _ (by rfl) V2.heap.size 26 (zC 26) (dfC D.K (.slice none 0 0) (.slice a7 (D.n + 1) c7)) (by rfl) (by rfl) H7.out.1 (by rw [zDfa_size, dfC_size]) (by rw [info_dfa9, dfC_size]) (dfC_one _ _ _ _ _ _ _) ?_
                have HM8 : Hid (V12.ownsRow w3.heap.size 3 1 (.slice a7 (D.n + 1) c7) (D.n + 1) (ints ((List.range (D.n + 1)).map (dupQ D i)))) := by
                  have h := HM7.out
                  rw [dupM, Hqi.out]
                  show World.ownsRow _ _ _ _ _ _ _
                  simpa [ints] using h
                have HT0 := Lib.hid (TrA.start (K := D.K) (C := C) (ws := fun _ => .slice none 0 0) HM8.out (by simp) hHeld.1 H7.out.1 H7.out.2)
                refine hK.out _ _ (HSo.out _ HT0.out.bel) (fun hHeld => ?_)
                clear hK K
                try simp only [Act.put, List.setIfInBounds_toArray, List.set_cons_zero, List.set_cons_succ]
                refine wpAnyH_done (by kernel_rfl) ?_ _
                clear hHeld
                go_wp2_with fail
                go_meet
                exact ⟨_, _, _, rfl, HT0.out⟩
              exact AllReadyH.nil
            exact AllReadyH.nil
          exact AllReadyH.nil
        exact AllReadyH.nil
      exact AllReadyH.nil
    refine AllReadyH.cons (o := ?_) ?_ (fun K hK => ?_) ?_
    rotate_left
    (focus ((simp only [List.getElem?_toArray, List.getElem?_cons_succ, List.getElem?_cons_zero]); first | done | rfl))
    · skip
      go_simp
      have kk := al w3.drew (.cells #[.int .i64 qi] 3)
      have hbn : Below w3.heap.size w3 (w3.alloc (.cells #[.int .i64 qi] 3)).drew := hHeld.1.trans (kk.mono hHeld.1.size)
      have HS1 : Hid (St (w3.alloc (.cells #[.int .i64 qi] 3)).drew 3 w3.heap.size #[.int .i64 qi]) := St.new w3.drew _ _
      refine hK.out _ _ (HSo.out _ hbn) (fun hHeld => ?_)
      clear hK K
      try simp only [Act.put, List.setIfInBounds_toArray, List.set_cons_zero, List.set_cons_succ]
      clear kk
      generalize (w3.alloc (.cells #[.int .i64 qi] 3)).drew = V11 at HS1 hHeld hbn ⊢
      refine wpAnyH_ready (rs := [2, 14]) (by kernel_rfl) (by simp) ?_
      refine AllReadyH.cons (o := ?_) ?_ (fun K hK => ?_) ?_
      rotate_left
      (focus ((simp only [List.getElem?_toArray, List.getElem?_cons_succ, List.getElem?_cons_zero]); first | done | rfl))
      · skip
        go_simp
        have kk := al V11 (.cells #[] 3)
        have hbn : Below w3.heap.size w3 (V11.alloc (.cells #[] 3)) := hHeld.1.trans (kk.mono hHeld.1.size)
        have HP2 : Hid ((V11.alloc (.cells #[] 3)).ownsRow w3.heap.size 3 1 (.slice (some ⟨V11.heap.size, 0, none⟩) 0 0) 0 []) := own_lit V11 w3.heap.size 3 1 #[] 0 rfl hHeld.1.size (by decide)
        have HNe : Hid (V11.heap.size ≠ w3.heap.size) := by have := HS1.out.lt; show _ ≠ _; omega
        have HS1 : Hid (St (V11.alloc (.cells #[] 3)) 3 w3.heap.size #[.int .i64 qi]) := HS1.out.keep kk
        refine hK.out _ _ (HSo.out _ hbn) (fun hHeld => ?_)
        clear hK K
        try simp only [Act.put, List.setIfInBounds_toArray, List.set_cons_zero, List.set_cons_succ]
        clear kk
        generalize (V11.alloc (.cells #[] 3)) = V2 at HP2 HS1 hHeld hbn ⊢
        refine wpAnyH_ready (rs := [5, 14]) (by kernel_rfl) (by simp) ?_
        refine AllReadyH.cons (o := ?_) ?_ (fun K hK => ?_) ?_
        rotate_left
        (focus ((simp only [List.getElem?_toArray, List.getElem?_cons_succ, List.getElem?_cons_zero]); first | done | rfl))
        · skip
          refine step_append_at9 (by rfl) _ _ _ (by rfl) w3.heap.size 3 iI (.int .i64 0) 1 8 Try.underlying24 hI hI0 hI1 hI2 (by rfl) (by decide) _ 0 [] (by rfl) HP2.out ⟨gM, oM, none⟩ D.n D.cM (ints ((List.range D.n).map D.q)) (by rfl) (by simp [ints]) (HNw.out _ hHeld.1) (by intro u hu; simp [ints] at hu; obtain ⟨x, _, rfl⟩ := hu; rfl) (by unfold maxLen; omega) (by omega) hHeld.1.size ?_
          intro v6 V5 hown6 hgrow6 hat6
          try rw [Nat.zero_add] at hown6
          rw [List.nil_append] at hown6
          obtain ⟨a6, c6, rfl⟩ := ownsRow_slice hown6
          have HM6 : Hid (V5.ownsRow w3.heap.size 3 1 (.slice a6 D.n c6) D.n (ints ((List.range D.n).map D.q))) := hown6
          have hbn : Below w3.heap.size w3 V5 := below_grown_own hHeld.1 HP2.out hHeld.1.size hgrow6
          have HS1 : Hid (St V5 3 w3.heap.size #[.int .i64 qi]) := HS1.out.grown hgrow6 (fun e => HNe.out (by injection e with e; exact e.symm))
          clear hown6 hgrow6 hat6
          refine hK.out _ _ (HSo.out _ hbn) (fun hHeld => ?_)
          clear hK K
          try simp only [Act.put, List.setIfInBounds_toArray, List.set_cons_zero, List.set_cons_succ]
          refine wpAnyH_ready (rs := [12, 14]) (by kernel_rfl) (by simp) ?_
          refine AllReadyH.cons (o := ?_) ?_ (fun K hK => ?_) ?_
          rotate_left
          (focus ((simp only [List.getElem?_toArray, List.getElem?_cons_succ, List.getElem?_cons_zero]); first | done | rfl))
          · skip
            refine step_append_at9 (by rfl) _ _ _ (by rfl) w3.heap.size 3 iI (.int .i64 0) 1 8 Try.underlying24 hI hI0 hI1 hI2 (by rfl) (by decide) _ D.n (ints ((List.range D.n).map D.q)) (by rfl) HM6.out ⟨w3.heap.size, 0, none⟩ 1 1 [.int .i64 qi] (by rfl) (by rfl) (St.part HS1.out) (by intro u hu; simp at hu; subst hu; rfl) (by unfold maxLen; omega) (by omega) hHeld.1.size ?_
            intro v6 V12 hown6 hgrow6 hat6
            obtain ⟨a7, c7, rfl⟩ := ownsRow_slice hown6
            have HM7 : Hid (V12.ownsRow w3.heap.size 3 1 (.slice a7 (D.n + 1) c7) (D.n + 1) ((ints ((List.range D.n).map D.q)) ++ [.int .i64 qi])) := hown6
            have hbn : Below w3.heap.size w3 V12 := below_grown_own hHeld.1 HM6.out hHeld.1.size hgrow6
            clear hown6 hgrow6 hat6
            refine hK.out _ _ (HSo.out _ hbn) (fun hHeld => ?_)
            clear hK K
            try simp only [Act.put, List.setIfInBounds_toArray, List.set_cons_zero, List.set_cons_succ]
            (refine wpAnyH_take (i := 13) (oi := ?_) (v := .agg (dfC D.K (.slice none 0 0) (.slice a7 (D.n + 1) c7))) ?_ (by kernel_rfl) (by kernel_rfl) (by kernel_rfl) ?_ (Or.inl ⟨?_, ?_⟩) (by assumption) ?_; rotate_left; (focus ((simp only [List.getElem?_toArray, List.getElem?_cons_succ, List.getElem?_cons_zero]); first | done | rfl)); (focus (exact fun _ _ _ h => h)); (focus rfl); (focus (intro wz hSw; exact exec_bld10 wz _ _ rfl #[(0, .agg (clsOf D.K)), (2, .slice a7 (D.n + 1) c7)] (by first | rfl | simp [Act.eval] | (simp; rfl)) _ (dfa_built2 D.K a7 (D.n + 1) c7 wz))); try simp only [Act.put, List.setIfInBounds_toArray, List.set_cons_zero, List.set_cons_succ])
            refine wpAnyH_ready (rs := [14]) (by kernel_rfl) (by simp) ?_
            refine AllReadyH.cons (o := ?_) ?_ (fun K hK => ?_) ?_
            rotate_left
            (focus ((simp only [List.getElem?_toArray, List.getElem?_cons_succ, List.getElem?_cons_zero]); first | done | rfl))
            · skip
              refine step_alloc9 (by rfl) 26 (by rfl) (zC 26) (zero_run9 _) ?_
              have kk := al V12 (.cells (zC 26) 26)
              have hbn : Below w3.heap.size w3 (V12.alloc (.cells (zC 26) 26)) := hHeld.1.trans (kk.mono hHeld.1.size)
              have HM7 : Hid ((V12.alloc (.cells (zC 26) 26)).ownsRow w3.heap.size 3 1 (.slice a7 (D.n + 1) c7) (D.n + 1) ((ints ((List.range D.n).map D.q)) ++ [.int .i64 qi])) := ownsRow_keep HM7.out kk
              have H7 : Hid (St (V12.alloc (.cells (zC 26) 26)) 26 V12.heap.size (zC 26) ∧ w3.heap.size ≤ V12.heap.size) := ⟨St.new _ _ _, hHeld.1.size⟩
              refine hK.out _ _ (HSo.out _ hbn) (fun hHeld => ?_)
              clear hK K
              try simp only [Act.put, List.setIfInBounds_toArray, List.set_cons_zero, List.set_cons_succ]
              try simp only [drew_sz9]
              clear kk
              generalize (V12.alloc (.cells (zC 26) 26)) = V14 at HM7 H7 hHeld hbn ⊢
              refine wpAnyH_ready (rs := [15]) (by kernel_rfl) (by simp) ?_
              refine AllReadyH.cons (o := ?_) ?_ (fun K hK => ?_) ?_
              rotate_left
              (focus ((simp only [List.getElem?_toArray, List.getElem?_cons_succ, List.getElem?_cons_zero]); first | done | rfl))
              · skip
                refine step_store9 (by rfl) 26 _ _ (by rfl) V12.heap.size 26 (zC 26) (dfC D.K (.slice none 0 0) (.slice a7 (D.n + 1) c7)) (by rfl) (by rfl) H7.out.1 (by rw [zDfa_size, dfC_size]) (by rw [info_dfa9, dfC_size]) (dfC_one _ _ _ _ _ _ _) ?_
                have HM8 : Hid (V14.ownsRow w3.heap.size 3 1 (.slice a7 (D.n + 1) c7) (D.n + 1) (ints ((List.range (D.n + 1)).map (dupQ D i)))) := by
                  have h := HM7.out
                  rw [dupM, Hqi.out]
                  show World.ownsRow _ _ _ _ _ _ _
                  simpa [ints] using h
                have HT0 := Lib.hid (TrA.start (K := D.K) (C := C) (ws := fun _ => .slice none 0 0) HM8.out (by simp) hHeld.1 H7.out.1 H7.out.2)
                refine hK.out _ _ (HSo.out _ HT0.out.bel) (fun hHeld => ?_)
                clear hK K
                try simp only [Act.put, List.setIfInBounds_toArray, List.set_cons_zero, List.set_cons_succ]
                refine wpAnyH_done (by kernel_rfl) ?_ _
                clear hHeld
                go_wp2_with fail
                go_meet
                exact ⟨_, _, _, rfl, HT0.out⟩
              exact AllReadyH.nil
            exact AllReadyH.nil
          refine AllReadyH.cons (o := ?_) ?_ (fun K hK => ?_) ?_
          rotate_left
          (focus ((simp only [List.getElem?_toArray, List.getElem?_cons_succ, List.getElem?_cons_zero]); first | done | rfl))
          · skip
            refine step_alloc9 (by rfl) 26 (by rfl) (zC 26) (zero_run9 _) ?_
            have kk := al V5 (.cells (zC 26) 26)
            have hbn : Below w3.heap.size w3 (V5.alloc (.cells (zC 26) 26)) := hHeld.1.trans (kk.mono hHeld.1.size)
            have HM6 : Hid ((V5.alloc (.cells (zC 26) 26)).ownsRow w3.heap.size 3 1 (.slice a6 D.n c6) D.n (ints ((List.range D.n).map D.q))) := ownsRow_keep HM6.out kk
            have HS1 : Hid (St (V5.alloc (.cells (zC 26) 26)) 3 w3.heap.size #[.int .i64 qi]) := HS1.out.keep kk
            have H7 : Hid (St (V5.alloc (.cells (zC 26) 26)) 26 V5.heap.size (zC 26) ∧ w3.heap.size ≤ V5.heap.size) := ⟨St.new _ _ _, hHeld.1.size⟩
            refine hK.out _ _ (HSo.out _ hbn) (fun hHeld => ?_)
            clear hK K
            try simp only [Act.put, List.setIfInBounds_toArray, List.set_cons_zero, List.set_cons_succ]
            try simp only [drew_sz9]
            clear kk
            generalize (V5.alloc (.cells (zC 26) 26)) = V14 at HM6 H7 HS1 hHeld hbn ⊢
            refine wpAnyH_ready (rs := [12]) (by kernel_rfl) (by simp) ?_
            refine AllReadyH.cons (o := ?_) ?_ (fun K hK => ?_) ?_
            rotate_left
            (focus ((simp only [List.getElem?_toArray, List.getElem?_cons_succ, List.getElem?_cons_zero]); first | done | rfl))
            · skip
              refine step_append_at9 (by rfl) _ _ _ (by rfl) w3.heap.size 3 iI (.int .i64 0) 1 8 Try.underlying24 hI hI0 hI1 hI2 (by rfl) (by decide) _ D.n (ints ((List.range D.n).map D.q)) (by rfl) HM6.out ⟨w3.heap.size, 0, none⟩ 1 1 [.int .i64 qi] (by rfl) (by rfl) (St.part HS1.out) (by intro u hu; simp at hu; subst hu; rfl) (by unfold maxLen; omega) (by omega) hHeld.1.size ?_
              intro v6 V12 hown6 hgrow6 hat6
              obtain ⟨a7, c7, rfl⟩ := ownsRow_slice hown6
              have HM7 : Hid (V12.ownsRow w3.heap.size 3 1 (.slice a7 (D.n + 1) c7) (D.n + 1) ((ints ((List.range D.n).map D.q)) ++ [.int .i64 qi])) := hown6
              have hbn : Below w3.heap.size w3 V12 := below_grown_own hHeld.1 HM6.out hHeld.1.size hgrow6
              have H7 : Hid (St V12 26 V5.heap.size (zC 26) ∧ w3.heap.size ≤ V5.heap.size) := ⟨H7.out.1.grown_own HM6.out (by decide) hgrow6, H7.out.2⟩
              clear hown6 hgrow6 hat6
              refine hK.out _ _ (HSo.out _ hbn) (fun hHeld => ?_)
              clear hK K
              try simp only [Act.put, List.setIfInBounds_toArray, List.set_cons_zero, List.set_cons_succ]
              (refine wpAnyH_take (i := 13) (oi := ?_) (v := .agg (dfC D.K (.slice none 0 0) (.slice a7 (D.n + 1) c7))) ?_ (by kernel_rfl) (by kernel_rfl) (by kernel_rfl) ?_ (Or.inl ⟨?_, ?_⟩) (by assumption) ?_; rotate_left; (focus ((simp only [List.getElem?_toArray, List.getElem?_cons_succ, List.getElem?_cons_zero]); first | done | rfl)); (focus (exact fun _ _ _ h => h)); (focus rfl); (focus (intro wz hSw; exact exec_bld10 wz _ _ rfl #[(0, .agg (clsOf D.K)), (2, .slice a7 (D.n + 1) c7)] (by first | rfl | simp [Act.eval] | (simp; rfl)) _ (dfa_built2 D.K a7 (D.n + 1) c7 wz))); try simp only [Act.put, List.setIfInBounds_toArray, List.set_cons_zero, List.set_cons_succ])
              refine wpAnyH_ready (rs := [15]) (by kernel_rfl) (by simp) ?_
              refine AllReadyH.cons (o := ?_) ?_ (fun K hK => ?_) ?_
              rotate_left
              (focus ((simp only [List.getElem?_toArray, List.getElem?_cons_succ, List.getElem?_cons_zero]); first | done | rfl))
              · skip
                refine step_store9 (by rfl) 26 _ _ (by rfl) V5.heap.size 26 (zC 26) (dfC D.K (.slice none 0 0) (.slice a7 (D.n + 1) c7)) (by rfl) (by rfl) H7.out.1 (by rw [zDfa_size, dfC_size]) (by rw [info_dfa9, dfC_size]) (dfC_one _ _ _ _ _ _ _) ?_
                have HM8 : Hid (V12.ownsRow w3.heap.size 3 1 (.slice a7 (D.n + 1) c7) (D.n + 1) (ints ((List.range (D.n + 1)).map (dupQ D i)))) := by
                  have h := HM7.out
                  rw [dupM, Hqi.out]
                  show World.ownsRow _ _ _ _ _ _ _
                  simpa [ints] using h
                have HT0 := Lib.hid (TrA.start (K := D.K) (C := C) (ws := fun _ => .slice none 0 0) HM8.out (by simp) hHeld.1 H7.out.1 H7.out.2)
                refine hK.out _ _ (HSo.out _ HT0.out.bel) (fun hHeld => ?_)
                clear hK K
                try simp only [Act.put, List.setIfInBounds_toArray, List.set_cons_zero, List.set_cons_succ]
                refine wpAnyH_done (by kernel_rfl) ?_ _
                clear hHeld
                go_wp2_with fail
                go_meet
                exact ⟨_, _, _, rfl, HT0.out⟩
              exact AllReadyH.nil
            exact AllReadyH.nil
          exact AllReadyH.nil
        refine AllReadyH.cons (o := ?_) ?_ (fun K hK => ?_) ?_
        rotate_left
        (focus ((simp only [List.getElem?_toArray, List.getElem?_cons_succ, List.getElem?_cons_zero]); first | done | rfl))
        · skip
          refine step_alloc9 (by rfl) 26 (by rfl) (zC 26) (zero_run9 _) ?_
          have kk := al V2 (.cells (zC 26) 26)
          have hbn : Below w3.heap.size w3 (V2.alloc (.cells (zC 26) 26)) := hHeld.1.trans (kk.mono hHeld.1.size)
          have HP2 : Hid ((V2.alloc (.cells (zC 26) 26)).ownsRow w3.heap.size 3 1 (.slice (some ⟨V11.heap.size, 0, none⟩) 0 0) 0 []) := ownsRow_keep HP2.out kk
          have HS1 : Hid (St (V2.alloc (.cells (zC 26) 26)) 3 w3.heap.size #[.int .i64 qi]) := HS1.out.keep kk
          have H7 : Hid (St (V2.alloc (.cells (zC 26) 26)) 26 V2.heap.size (zC 26) ∧ w3.heap.size ≤ V2.heap.size) := ⟨St.new _ _ _, hHeld.1.size⟩
          refine hK.out _ _ (HSo.out _ hbn) (fun hHeld => ?_)
          clear hK K
          try simp only [Act.put, List.setIfInBounds_toArray, List.set_cons_zero, List.set_cons_succ]
          try simp only [drew_sz9]
          clear kk
          generalize (V2.alloc (.cells (zC 26) 26)) = V14 at HP2 H7 HS1 hHeld hbn ⊢
          refine wpAnyH_ready (rs := [5]) (by kernel_rfl) (by simp) ?_
          refine AllReadyH.cons (o := ?_) ?_ (fun K hK => ?_) ?_
          rotate_left
          (focus ((simp only [List.getElem?_toArray, List.getElem?_cons_succ, List.getElem?_cons_zero]); first | done | rfl))
          · skip
            refine step_append_at9 (by rfl) _ _ _ (by rfl) w3.heap.size 3 iI (.int .i64 0) 1 8 Try.underlying24 hI hI0 hI1 hI2 (by rfl) (by decide) _ 0 [] (by rfl) HP2.out ⟨gM, oM, none⟩ D.n D.cM (ints ((List.range D.n).map D.q)) (by rfl) (by simp [ints]) (HNw.out _ hHeld.1) (by intro u hu; simp [ints] at hu; obtain ⟨x, _, rfl⟩ := hu; rfl) (by unfold maxLen; omega) (by omega) hHeld.1.size ?_
            intro v6 V5 hown6 hgrow6 hat6
            try rw [Nat.zero_add] at hown6
            rw [List.nil_append] at hown6
            obtain ⟨a6, c6, rfl⟩ := ownsRow_slice hown6
            have HM6 : Hid (V5.ownsRow w3.heap.size 3 1 (.slice a6 D.n c6) D.n (ints ((List.range D.n).map D.q))) := hown6
            have hbn : Below w3.heap.size w3 V5 := below_grown_own hHeld.1 HP2.out hHeld.1.size hgrow6
            have H7 : Hid (St V5 26 V2.heap.size (zC 26) ∧ w3.heap.size ≤ V2.heap.size) := ⟨H7.out.1.grown_own HP2.out (by decide) hgrow6, H7.out.2⟩
            have HS1 : Hid (St V5 3 w3.heap.size #[.int .i64 qi]) := HS1.out.grown hgrow6 (fun e => HNe.out (by injection e with e; exact e.symm))
            clear hown6 hgrow6 hat6
            refine hK.out _ _ (HSo.out _ hbn) (fun hHeld => ?_)
            clear hK K
            try simp only [Act.put, List.setIfInBounds_toArray, List.set_cons_zero, List.set_cons_succ]
            refine wpAnyH_ready (rs := [12]) (by kernel_rfl) (by simp) ?_
            refine AllReadyH.cons (o := ?_) ?_ (fun K hK => ?_) ?_
            rotate_left
            (focus ((simp only [List.getElem?_toArray, List.getElem?_cons_succ, List.getElem?_cons_zero]); first | done | rfl))
            · skip
              refine step_append_at9 (by rfl) _ _ _ (by rfl) w3.heap.size 3 iI (.int .i64 0) 1 8 Try.underlying24 hI hI0 hI1 hI2 (by rfl) (by decide) _ D.n (ints ((List.range D.n).map D.q)) (by rfl) HM6.out ⟨w3.heap.size, 0, none⟩ 1 1 [.int .i64 qi] (by rfl) (by rfl) (St.part HS1.out) (by intro u hu; simp at hu; subst hu; rfl) (by unfold maxLen; omega) (by omega) hHeld.1.size ?_
              intro v6 V12 hown6 hgrow6 hat6
              obtain ⟨a7, c7, rfl⟩ := ownsRow_slice hown6
              have HM7 : Hid (V12.ownsRow w3.heap.size 3 1 (.slice a7 (D.n + 1) c7) (D.n + 1) ((ints ((List.range D.n).map D.q)) ++ [.int .i64 qi])) := hown6
              have hbn : Below w3.heap.size w3 V12 := below_grown_own hHeld.1 HM6.out hHeld.1.size hgrow6
              have H7 : Hid (St V12 26 V2.heap.size (zC 26) ∧ w3.heap.size ≤ V2.heap.size) := ⟨H7.out.1.grown_own HM6.out (by decide) hgrow6, H7.out.2⟩
              clear hown6 hgrow6 hat6
              refine hK.out _ _ (HSo.out _ hbn) (fun hHeld => ?_)
              clear hK K
              try simp only [Act.put, List.setIfInBounds_toArray, List.set_cons_zero, List.set_cons_succ]
              (refine wpAnyH_take (i := 13) (oi := ?_) (v := .agg (dfC D.K (.slice none 0 0) (.slice a7 (D.n + 1) c7))) ?_ (by kernel_rfl) (by kernel_rfl) (by kernel_rfl) ?_ (Or.inl ⟨?_, ?_⟩) (by assumption) ?_; rotate_left; (focus ((simp only [List.getElem?_toArray, List.getElem?_cons_succ, List.getElem?_cons_zero]); first | done | rfl)); (focus (exact fun _ _ _ h => h)); (focus rfl); (focus (intro wz hSw; exact exec_bld10 wz _ _ rfl #[(0, .agg (clsOf D.K)), (2, .slice a7 (D.n + 1) c7)] (by first | rfl | simp [Act.eval] | (simp; rfl)) _ (dfa_built2 D.K a7 (D.n + 1) c7 wz))); try simp only [Act.put, List.setIfInBounds_toArray, List.set_cons_zero, List.set_cons_succ])
              refine wpAnyH_ready (rs := [15]) (by kernel_rfl) (by simp) ?_
              refine AllReadyH.cons (o := ?_) ?_ (fun K hK => ?_) ?_
              rotate_left
              (focus ((simp only [List.getElem?_toArray, List.getElem?_cons_succ, List.getElem?_cons_zero]); first | done | rfl))
              · skip
                refine step_store9 (by rfl) 26 _ _ (by rfl) V2.heap.size 26 (zC 26) (dfC D.K (.slice none 0 0) (.slice a7 (D.n + 1) c7)) (by rfl) (by rfl) H7.out.1 (by rw [zDfa_size, dfC_size]) (by rw [info_dfa9, dfC_size]) (dfC_one _ _ _ _ _ _ _) ?_
                have HM8 : Hid (V12.ownsRow w3.heap.size 3 1 (.slice a7 (D.n + 1) c7) (D.n + 1) (ints ((List.range (D.n + 1)).map (dupQ D i)))) := by
                  have h := HM7.out
                  rw [dupM, Hqi.out]
                  show World.ownsRow _ _ _ _ _ _ _
                  simpa [ints] using h
                have HT0 := Lib.hid (TrA.start (K := D.K) (C := C) (ws := fun _ => .slice none 0 0) HM8.out (by simp) hHeld.1 H7.out.1 H7.out.2)
                refine hK.out _ _ (HSo.out _ HT0.out.bel) (fun hHeld => ?_)
                clear hK K
                try simp only [Act.put, List.setIfInBounds_toArray, List.set_cons_zero, List.set_cons_succ]
                refine wpAnyH_done (by kernel_rfl) ?_ _
                clear hHeld
                go_wp2_with fail
                go_meet
                exact ⟨_, _, _, rfl, HT0.out⟩
              exact AllReadyH.nil
            exact AllReadyH.nil
          exact AllReadyH.nil
        exact AllReadyH.nil
      refine AllReadyH.cons (o := ?_) ?_ (fun K hK => ?_) ?_
      rotate_left
      (focus ((simp only [List.getElem?_toArray, List.getElem?_cons_succ, List.getElem?_cons_zero]); first | done | rfl))
      · skip
        refine step_alloc9 (by rfl) 26 (by rfl) (zC 26) (zero_run9 _) ?_
        have kk := al V11 (.cells (zC 26) 26)
        have hbn : Below w3.heap.size w3 (V11.alloc (.cells (zC 26) 26)) := hHeld.1.trans (kk.mono hHeld.1.size)
        have HS1 : Hid (St (V11.alloc (.cells (zC 26) 26)) 3 w3.heap.size #[.int .i64 qi]) := HS1.out.keep kk
        have H7 : Hid (St (V11.alloc (.cells (zC 26) 26)) 26 V11.heap.size (zC 26) ∧ w3.heap.size ≤ V11.heap.size) := ⟨St.new _ _ _, hHeld.1.size⟩
        refine hK.out _ _ (HSo.out _ hbn) (fun hHeld => ?_)
        clear hK K
        try simp only [Act.put, List.setIfInBounds_toArray, List.set_cons_zero, List.set_cons_succ]
        try simp only [drew_sz9]
        clear kk
        generalize (V11.alloc (.cells (zC 26) 26)) = V14 at H7 HS1 hHeld hbn ⊢
        refine wpAnyH_ready (rs := [2]) (by kernel_rfl) (by simp) ?_
        refine AllReadyH.cons (o := ?_) ?_ (fun K hK => ?_) ?_
        rotate_left
        (focus ((simp only [List.getElem?_toArray, List.getElem?_cons_succ, List.getElem?_cons_zero]); first | done | rfl))
        · skip
          go_simp
          have kk := al V14 (.cells #[] 3)
          have hbn : Below w3.heap.size w3 (V14.alloc (.cells #[] 3)) := hHeld.1.trans (kk.mono hHeld.1.size)
          have HP2 : Hid ((V14.alloc (.cells #[] 3)).ownsRow w3.heap.size 3 1 (.slice (some ⟨V14.heap.size, 0, none⟩) 0 0) 0 []) := own_lit V14 w3.heap.size 3 1 #[] 0 rfl hHeld.1.size (by decide)
          have HNe : Hid (V14.heap.size ≠ w3.heap.size) := by have := HS1.out.lt; show _ ≠ _; omega
          have H7 : Hid (St (V14.alloc (.cells #[] 3)) 26 V11.heap.size (zC 26) ∧ w3.heap.size ≤ V11.heap.size) := ⟨H7.out.1.keep kk, H7.out.2⟩
          have HS1 : Hid (St (V14.alloc (.cells #[] 3)) 3 w3.heap.size #[.int .i64 qi]) := HS1.out.keep kk
          refine hK.out _ _ (HSo.out _ hbn) (fun hHeld => ?_)
          clear hK K
          try simp only [Act.put, List.setIfInBounds_toArray, List.set_cons_zero, List.set_cons_succ]
          clear kk
          generalize (V14.alloc (.cells #[] 3)) = V2 at HP2 H7 HS1 hHeld hbn ⊢
          refine wpAnyH_ready (rs := [5]) (by kernel_rfl) (by simp) ?_
          refine AllReadyH.cons (o := ?_) ?_ (fun K hK => ?_) ?_
          rotate_left
          (focus ((simp only [List.getElem?_toArray, List.getElem?_cons_succ, List.getElem?_cons_zero]); first | done | rfl))
          · skip
            refine step_append_at9 (by rfl) _ _ _ (by rfl) w3.heap.size 3 iI (.int .i64 0) 1 8 Try.underlying24 hI hI0 hI1 hI2 (by rfl) (by decide) _ 0 [] (by rfl) HP2.out ⟨gM, oM, none⟩ D.n D.cM (ints ((List.range D.n).map D.q)) (by rfl) (by simp [ints]) (HNw.out _ hHeld.1) (by intro u hu; simp [ints] at hu; obtain ⟨x, _, rfl⟩ := hu; rfl) (by unfold maxLen; omega) (by omega) hHeld.1.size ?_
            intro v6 V5 hown6 hgrow6 hat6
            try rw [Nat.zero_add] at hown6
            rw [List.nil_append] at hown6
            obtain ⟨a6, c6, rfl⟩ := ownsRow_slice hown6
            have HM6 : Hid (V5.ownsRow w3.heap.size 3 1 (.slice a6 D.n c6) D.n (ints ((List.range D.n).map D.q))) := hown6
            have hbn : Below w3.heap.size w3 V5 := below_grown_own hHeld.1 HP2.out hHeld.1.size hgrow6
            have H7 : Hid (St V5 26 V11.heap.size (zC 26) ∧ w3.heap.size ≤ V11.heap.size) := ⟨H7.out.1.grown_own HP2.out (by decide) hgrow6, H7.out.2⟩
            have HS1 : Hid (St V5 3 w3.heap.size #[.int .i64 qi]) := HS1.out.grown hgrow6 (fun e => HNe.out (by injection e with e; exact e.symm))
            clear hown6 hgrow6 hat6
            refine hK.out _ _ (HSo.out _ hbn) (fun hHeld => ?_)
            clear hK K
            try simp only [Act.put, List.setIfInBounds_toArray, List.set_cons_zero, List.set_cons_succ]
            refine wpAnyH_ready (rs := [12]) (by kernel_rfl) (by simp) ?_
            refine AllReadyH.cons (o := ?_) ?_ (fun K hK => ?_) ?_
            rotate_left
            (focus ((simp only [List.getElem?_toArray, List.getElem?_cons_succ, List.getElem?_cons_zero]); first | done | rfl))
            · skip
              refine step_append_at9 (by rfl) _ _ _ (by rfl) w3.heap.size 3 iI (.int .i64 0) 1 8 Try.underlying24 hI hI0 hI1 hI2 (by rfl) (by decide) _ D.n (ints ((List.range D.n).map D.q)) (by rfl) HM6.out ⟨w3.heap.size, 0, none⟩ 1 1 [.int .i64 qi] (by rfl) (by rfl) (St.part HS1.out) (by intro u hu; simp at hu; subst hu; rfl) (by unfold maxLen; omega) (by omega) hHeld.1.size ?_
              intro v6 V12 hown6 hgrow6 hat6
              obtain ⟨a7, c7, rfl⟩ := ownsRow_slice hown6
              have HM7 : Hid (V12.ownsRow w3.heap.size 3 1 (.slice a7 (D.n + 1) c7) (D.n + 1) ((ints ((List.range D.n).map D.q)) ++ [.int .i64 qi])) := hown6
              have hbn : Below w3.heap.size w3 V12 := below_grown_own hHeld.1 HM6.out hHeld.1.size hgrow6
              have H7 : Hid (St V12 26 V11.heap.size (zC 26) ∧ w3.heap.size ≤ V11.heap.size) := ⟨H7.out.1.grown_own HM6.out (by decide) hgrow6, H7.out.2⟩
              clear hown6 hgrow6 hat6
              refine hK.out _ _ (HSo.out _ hbn) (fun hHeld => ?_)
              clear hK K
              try simp only [Act.put, List.setIfInBounds_toArray, List.set_cons_zero, List.set_cons_succ]
              (refine wpAnyH_take (i := 13) (oi := ?_) (v := .agg (dfC D.K (.slice none 0 0) (.slice a7 (D.n + 1) c7))) ?_ (by kernel_rfl) (by kernel_rfl) (by kernel_rfl) ?_ (Or.inl ⟨?_, ?_⟩) (by assumption) ?_; rotate_left; (focus ((simp only [List.getElem?_toArray, List.getElem?_cons_succ, List.getElem?_cons_zero]); first | done | rfl)); (focus (exact fun _ _ _ h => h)); (focus rfl); (focus (intro wz hSw; exact exec_bld10 wz _ _ rfl #[(0, .agg (clsOf D.K)), (2, .slice a7 (D.n + 1) c7)] (by first | rfl | simp [Act.eval] | (simp; rfl)) _ (dfa_built2 D.K a7 (D.n + 1) c7 wz))); try simp only [Act.put, List.setIfInBounds_toArray, List.set_cons_zero, List.set_cons_succ])
              refine wpAnyH_ready (rs := [15]) (by kernel_rfl) (by simp) ?_
              refine AllReadyH.cons (o := ?_) ?_ (fun K hK => ?_) ?_
              rotate_left
              (focus ((simp only [List.getElem?_toArray, List.getElem?_cons_succ, List.getElem?_cons_zero]); first | done | rfl))
              · skip
                refine step_store9 (by rfl) 26 _ _ (by rfl) V11.heap.size 26 (zC 26) (dfC D.K (.slice none 0 0) (.slice a7 (D.n + 1) c7)) (by rfl) (by rfl) H7.out.1 (by rw [zDfa_size, dfC_size]) (by rw [info_dfa9, dfC_size]) (dfC_one _ _ _ _ _ _ _) ?_
                have HM8 : Hid (V12.ownsRow w3.heap.size 3 1 (.slice a7 (D.n + 1) c7) (D.n + 1) (ints ((List.range (D.n + 1)).map (dupQ D i)))) := by
                  have h := HM7.out
                  rw [dupM, Hqi.out]
                  show World.ownsRow _ _ _ _ _ _ _
                  simpa [ints] using h
                have HT0 := Lib.hid (TrA.start (K := D.K) (C := C) (ws := fun _ => .slice none 0 0) HM8.out (by simp) hHeld.1 H7.out.1 H7.out.2)
                refine hK.out _ _ (HSo.out _ HT0.out.bel) (fun hHeld => ?_)
                clear hK K
                try simp only [Act.put, List.setIfInBounds_toArray, List.set_cons_zero, List.set_cons_succ]
                refine wpAnyH_done (by kernel_rfl) ?_ _
                clear hHeld
                go_wp2_with fail
                go_meet
                exact ⟨_, _, _, rfl, HT0.out⟩
              exact AllReadyH.nil
            exact AllReadyH.nil
          exact AllReadyH.nil
        exact AllReadyH.nil
      exact AllReadyH.nil
    refine AllReadyH.cons (o := ?_) ?_ (fun K hK => ?_) ?_
    rotate_left
    (focus ((simp only [List.getElem?_toArray, List.getElem?_cons_succ, List.getElem?_cons_zero]); first | done | rfl))
    · skip
      refine step_alloc9 (by rfl) 26 (by rfl) (zC 26) (zero_run9 _) ?_
      have kk := al w3.drew (.cells (zC 26) 26)
      have hbn : Below w3.heap.size w3 (w3.drew.alloc (.cells (zC 26) 26)) := hHeld.1.trans (kk.mono hHeld.1.size)
      have H7 : Hid (St (w3.drew.alloc (.cells (zC 26) 26)) 26 w3.heap.size (zC 26) ∧ w3.heap.size ≤ w3.heap.size) := ⟨St.new _ _ _, hHeld.1.size⟩
      refine hK.out _ _ (HSo.out _ hbn) (fun hHeld => ?_)
      clear hK K
      try simp only [Act.put, List.setIfInBounds_toArray, List.set_cons_zero, List.set_cons_succ]
      try simp only [drew_sz9]
      clear kk
      generalize (w3.drew.alloc (.cells (zC 26) 26)) = V14 at H7 hHeld hbn ⊢
      refine wpAnyH_ready (rs := [2, 11]) (by kernel_rfl) (by simp) ?_
      refine AllReadyH.cons (o := ?_) ?_ (fun K hK => ?_) ?_
      rotate_left
      (focus ((simp only [List.getElem?_toArray, List.getElem?_cons_succ, List.getElem?_cons_zero]); first | done | rfl))
      · skip
        go_simp
        have kk := al V14 (.cells #[] 3)
        have hbn : Below w3.heap.size w3 (V14.alloc (.cells #[] 3)) := hHeld.1.trans (kk.mono hHeld.1.size)
        have HP2 : Hid ((V14.alloc (.cells #[] 3)).ownsRow w3.heap.size 3 1 (.slice (some ⟨V14.heap.size, 0, none⟩) 0 0) 0 []) := own_lit V14 w3.heap.size 3 1 #[] 0 rfl hHeld.1.size (by decide)
        have H7 : Hid (St (V14.alloc (.cells #[] 3)) 26 w3.heap.size (zC 26) ∧ w3.heap.size ≤ w3.heap.size) := ⟨H7.out.1.keep kk, H7.out.2⟩
        refine hK.out _ _ (HSo.out _ hbn) (fun hHeld => ?_)
        clear hK K
        try simp only [Act.put, List.setIfInBounds_toArray, List.set_cons_zero, List.set_cons_succ]
        clear kk
        generalize (V14.alloc (.cells #[] 3)) = V2 at HP2 H7 hHeld hbn ⊢
        refine wpAnyH_ready (rs := [5, 11]) (by kernel_rfl) (by simp) ?_
        refine AllReadyH.cons (o := ?_) ?_ (fun K hK => ?_) ?_
        rotate_left
        (focus ((simp only [List.getElem?_toArray, List.getElem?_cons_succ, List.getElem?_cons_zero]); first | done | rfl))
        · skip
          refine step_append_at9 (by rfl) _ _ _ (by rfl) w3.heap.size 3 iI (.int .i64 0) 1 8 Try.underlying24 hI hI0 hI1 hI2 (by rfl) (by decide) _ 0 [] (by rfl) HP2.out ⟨gM, oM, none⟩ D.n D.cM (ints ((List.range D.n).map D.q)) (by rfl) (by simp [ints]) (HNw.out _ hHeld.1) (by intro u hu; simp [ints] at hu; obtain ⟨x, _, rfl⟩ := hu; rfl) (by unfold maxLen; omega) (by omega) hHeld.1.size ?_
          intro v6 V5 hown6 hgrow6 hat6
          try rw [Nat.zero_add] at hown6
          rw [List.nil_append] at hown6
          obtain ⟨a6, c6, rfl⟩ := ownsRow_slice hown6
          have HM6 : Hid (V5.ownsRow w3.heap.size 3 1 (.slice a6 D.n c6) D.n (ints ((List.range D.n).map D.q))) := hown6
          have hbn : Below w3.heap.size w3 V5 := below_grown_own hHeld.1 HP2.out hHeld.1.size hgrow6
          have H7 : Hid (St V5 26 w3.heap.size (zC 26) ∧ w3.heap.size ≤ w3.heap.size) := ⟨H7.out.1.grown_own HP2.out (by decide) hgrow6, H7.out.2⟩
          clear hown6 hgrow6 hat6
          refine hK.out _ _ (HSo.out _ hbn) (fun hHeld => ?_)
          clear hK K
          try simp only [Act.put, List.setIfInBounds_toArray, List.set_cons_zero, List.set_cons_succ]
          refine wpAnyH_ready (rs := [11]) (by kernel_rfl) (by simp) ?_
          refine AllReadyH.cons (o := ?_) ?_ (fun K hK => ?_) ?_
          rotate_left
          (focus ((simp only [List.getElem?_toArray, List.getElem?_cons_succ, List.getElem?_cons_zero]); first | done | rfl))
          · skip
            go_simp
            have kk := al V5 (.cells #[.int .i64 qi] 3)
            have hbn : Below w3.heap.size w3 (V5.alloc (.cells #[.int .i64 qi] 3)) := hHeld.1.trans (kk.mono hHeld.1.size)
            have HS1 : Hid (St (V5.alloc (.cells #[.int .i64 qi] 3)) 3 V5.heap.size #[.int .i64 qi]) := St.new V5 _ _
            have HM6 : Hid ((V5.alloc (.cells #[.int .i64 qi] 3)).ownsRow w3.heap.size 3 1 (.slice a6 D.n c6) D.n (ints ((List.range D.n).map D.q))) := ownsRow_keep HM6.out kk
            have H7 : Hid (St (V5.alloc (.cells #[.int .i64 qi] 3)) 26 w3.heap.size (zC 26) ∧ w3.heap.size ≤ w3.heap.size) := ⟨H7.out.1.keep kk, H7.out.2⟩
            refine hK.out _ _ (HSo.out _ hbn) (fun hHeld => ?_)
            clear hK K
            try simp only [Act.put, List.setIfInBounds_toArray, List.set_cons_zero, List.set_cons_succ]
            clear kk
            generalize (V5.alloc (.cells #[.int .i64 qi] 3)) = V11 at HM6 H7 HS1 hHeld hbn ⊢
            refine wpAnyH_ready (rs := [12]) (by kernel_rfl) (by simp) ?_
            refine AllReadyH.cons (o := ?_) ?_ (fun K hK => ?_) ?_
            rotate_left
            (focus ((simp only [List.getElem?_toArray, List.getElem?_cons_succ, List.getElem?_cons_zero]); first | done | rfl))
            · skip
              refine step_append_at9 (by rfl) _ _ _ (by rfl) w3.heap.size 3 iI (.int .i64 0) 1 8 Try.underlying24 hI hI0 hI1 hI2 (by rfl) (by decide) _ D.n (ints ((List.range D.n).map D.q)) (by rfl) HM6.out ⟨V5.heap.size, 0, none⟩ 1 1 [.int .i64 qi] (by rfl) (by rfl) (St.part HS1.out) (by intro u hu; simp at hu; subst hu; rfl) (by unfold maxLen; omega) (by omega) hHeld.1.size ?_
              intro v6 V12 hown6 hgrow6 hat6
              obtain ⟨a7, c7, rfl⟩ := ownsRow_slice hown6
              have HM7 : Hid (V12.ownsRow w3.heap.size 3 1 (.slice a7 (D.n + 1) c7) (D.n + 1) ((ints ((List.range D.n).map D.q)) ++ [.int .i64 qi])) := hown6
              have hbn : Below w3.heap.size w3 V12 := below_grown_own hHeld.1 HM6.out hHeld.1.size hgrow6
              have H7 : Hid (St V12 26 w3.heap.size (zC 26) ∧ w3.heap.size ≤ w3.heap.size) := ⟨H7.out.1.grown_own HM6.out (by decide) hgrow6, H7.out.2⟩
              clear hown6 hgrow6 hat6
              refine hK.out _ _ (HSo.out _ hbn) (fun hHeld => ?_)
              clear hK K
              try simp only [Act.put, List.setIfInBounds_toArray, List.set_cons_zero, List.set_cons_succ]
              (refine wpAnyH_take (i := 13) (oi := ?_) (v := .agg (dfC D.K (.slice none 0 0) (.slice a7 (D.n + 1) c7))) ?_ (by kernel_rfl) (by kernel_rfl) (by kernel_rfl) ?_ (Or.inl ⟨?_, ?_⟩) (by assumption) ?_; rotate_left; (focus ((simp only [List.getElem?_toArray, List.getElem?_cons_succ, List.getElem?_cons_zero]); first | done | rfl)); (focus (exact fun _ _ _ h => h)); (focus rfl); (focus (intro wz hSw; exact exec_bld10 wz _ _ rfl #[(0, .agg (clsOf D.K)), (2, .slice a7 (D.n + 1) c7)] (by first | rfl | simp [Act.eval] | (simp; rfl)) _ (dfa_built2 D.K a7 (D.n + 1) c7 wz))); try simp only [Act.put, List.setIfInBounds_toArray, List.set_cons_zero, List.set_cons_succ])
              refine wpAnyH_ready (rs := [15]) (by kernel_rfl) (by simp) ?_
              refine AllReadyH.cons (o := ?_) ?_ (fun K hK => ?_) ?_
              rotate_left
              (focus ((simp only [List.getElem?_toArray, List.getElem?_cons_succ, List.getElem?_cons_zero]); first | done | rfl))
              · skip
                refine step_store9 (by rfl) 26 _ _ (by rfl) w3.heap.size 26 (zC 26) (dfC D.K (.slice none 0 0) (.slice a7 (D.n + 1) c7)) (by rfl) (by rfl) H7.out.1 (by rw [zDfa_size, dfC_size]) (by rw [info_dfa9, dfC_size]) (dfC_one _ _ _ _ _ _ _) ?_
                have HM8 : Hid (V12.ownsRow w3.heap.size 3 1 (.slice a7 (D.n + 1) c7) (D.n + 1) (ints ((List.range (D.n + 1)).map (dupQ D i)))) := by
                  have h := HM7.out
                  rw [dupM, Hqi.out]
                  show World.ownsRow _ _ _ _ _ _ _
                  simpa [ints] using h
                have HT0 := Lib.hid (TrA.start (K := D.K) (C := C) (ws := fun _ => .slice none 0 0) HM8.out (by simp) hHeld.1 H7.out.1 H7.out.2)
                refine hK.out _ _ (HSo.out _ HT0.out.bel) (fun hHeld => ?_)
                clear hK K
                try simp only [Act.put, List.setIfInBounds_toArray, List.set_cons_zero, List.set_cons_succ]
                refine wpAnyH_done (by kernel_rfl) ?_ _
                clear hHeld
                go_wp2_with fail
                go_meet
                exact ⟨_, _, _, rfl, HT0.out⟩
              exact AllReadyH.nil
            exact AllReadyH.nil
          exact AllReadyH.nil
        refine AllReadyH.cons (o := ?_) ?_ (fun K hK => ?_) ?_
        rotate_left
        (focus ((simp only [List.getElem?_toArray, List.getElem?_cons_succ, List.getElem?_cons_zero]); first | done | rfl))
        · skip
          go_simp
          have kk := al V2 (.cells #[.int .i64 qi] 3)
          have hbn : Below w3.heap.size w3 (V2.alloc (.cells #[.int .i64 qi] 3)) := hHeld.1.trans (kk.mono hHeld.1.size)
          have HS1 : Hid (St (V2.alloc (.cells #[.int .i64 qi] 3)) 3 V2.heap.size #[.int .i64 qi]) := St.new V2 _ _
          have HNe : Hid (V14.heap.size ≠ V2.heap.size) := by have h9 : V14.heap.size < V2.heap.size := own_lt9 HP2.out _ rfl; show _ ≠ _; omega
          have HP2 : Hid ((V2.alloc (.cells #[.int .i64 qi] 3)).ownsRow w3.heap.size 3 1 (.slice (some ⟨V14.heap.size, 0, none⟩) 0 0) 0 []) := ownsRow_keep HP2.out kk
          have H7 : Hid (St (V2.alloc (.cells #[.int .i64 qi] 3)) 26 w3.heap.size (zC 26) ∧ w3.heap.size ≤ w3.heap.size) := ⟨H7.out.1.keep kk, H7.out.2⟩
          refine hK.out _ _ (HSo.out _ hbn) (fun hHeld => ?_)
          clear hK K
          try simp only [Act.put, List.setIfInBounds_toArray, List.set_cons_zero, List.set_cons_succ]
          clear kk
          generalize (V2.alloc (.cells #[.int .i64 qi] 3)) = V11 at HP2 H7 HS1 hHeld hbn ⊢
          refine wpAnyH_ready (rs := [5]) (by kernel_rfl) (by simp) ?_
          refine AllReadyH.cons (o := ?_) ?_ (fun K hK => ?_) ?_
          rotate_left
          (focus ((simp only [List.getElem?_toArray, List.getElem?_cons_succ, List.getElem?_cons_zero]); first | done | rfl))
          · skip
            refine step_append_at9 (by rfl) _ _ _ (by rfl) w3.heap.size 3 iI (.int .i64 0) 1 8 Try.underlying24 hI hI0 hI1 hI2 (by rfl) (by decide) _ 0 [] (by rfl) HP2.out ⟨gM, oM, none⟩ D.n D.cM (ints ((List.range D.n).map D.q)) (by rfl) (by simp [ints]) (HNw.out _ hHeld.1) (by intro u hu; simp [ints] at hu; obtain ⟨x, _, rfl⟩ := hu; rfl) (by unfold maxLen; omega) (by omega) hHeld.1.size ?_
            intro v6 V5 hown6 hgrow6 hat6
            try rw [Nat.zero_add] at hown6
            rw [List.nil_append] at hown6
            obtain ⟨a6, c6, rfl⟩ := ownsRow_slice hown6
            have HM6 : Hid (V5.ownsRow w3.heap.size 3 1 (.slice a6 D.n c6) D.n (ints ((List.range D.n).map D.q))) := hown6
            have hbn : Below w3.heap.size w3 V5 := below_grown_own hHeld.1 HP2.out hHeld.1.size hgrow6
            have H7 : Hid (St V5 26 w3.heap.size (zC 26) ∧ w3.heap.size ≤ w3.heap.size) := ⟨H7.out.1.grown_own HP2.out (by decide) hgrow6, H7.out.2⟩
            have HS1 : Hid (St V5 3 V2.heap.size #[.int .i64 qi]) := HS1.out.grown hgrow6 (fun e => HNe.out (by injection e with e; exact e.symm))
            clear hown6 hgrow6 hat6
            refine hK.out _ _ (HSo.out _ hbn) (fun hHeld => ?_)
            clear hK K
            try simp only [Act.put, List.setIfInBounds_toArray, List.set_cons_zero, List.set_cons_succ]
            refine wpAnyH_ready (rs := [12]) (by kernel_rfl) (by simp) ?_
            refine AllReadyH.cons (o := ?_) ?_ (fun K hK => ?_) ?_
            rotate_left
            (focus ((simp only [List.getElem?_toArray, List.getElem?_cons_succ, List.getElem?_cons_zero]); first | done | rfl))
            · skip
              refine step_append_at9 (by rfl) _ _ _ (by rfl) w3.heap.size 3 iI (.int .i64 0) 1 8 Try.underlying24 hI hI0 hI1 hI2 (by rfl) (by decide) _ D.n (ints ((List.range D.n).map D.q)) (by rfl) HM6.out ⟨V2.heap.size, 0, none⟩ 1 1 [.int .i64 qi] (by rfl) (by rfl) (St.part HS1.out) (by intro u hu; simp at hu; subst hu; rfl) (by unfold maxLen; omega) (by omega) hHeld.1.size ?_
              intro v6 V12 hown6 hgrow6 hat6
              obtain ⟨a7, c7, rfl⟩ := ownsRow_slice hown6
              have HM7 : Hid (V12.ownsRow w3.heap.size 3 1 (.slice a7 (D.n + 1) c7) (D.n + 1) ((ints ((List.range D.n).map D.q)) ++ [.int .i64 qi])) := hown6
              have hbn : Below w3.heap.size w3 V12 := below_grown_own hHeld.1 HM6.out hHeld.1.size hgrow6
              have H7 : Hid (St V12 26 w3.heap.size (zC 26) ∧ w3.heap.size ≤ w3.heap.size) := ⟨H7.out.1.grown_own HM6.out (by decide) hgrow6, H7.out.2⟩
              clear hown6 hgrow6 hat6
              refine hK.out _ _ (HSo.out _ hbn) (fun hHeld => ?_)
              clear hK K
              try simp only [Act.put, List.setIfInBounds_toArray, List.set_cons_zero, List.set_cons_succ]
              (refine wpAnyH_take (i := 13) (oi := ?_) (v := .agg (dfC D.K (.slice none 0 0) (.slice a7 (D.n + 1) c7))) ?_ (by kernel_rfl) (by kernel_rfl) (by kernel_rfl) ?_ (Or.inl ⟨?_, ?_⟩) (by assumption) ?_; rotate_left; (focus ((simp only [List.getElem?_toArray, List.getElem?_cons_succ, List.getElem?_cons_zero]); first | done | rfl)); (focus (exact fun _ _ _ h => h)); (focus rfl); (focus (intro wz hSw; exact exec_bld10 wz _ _ rfl #[(0, .agg (clsOf D.K)), (2, .slice a7 (D.n + 1) c7)] (by first | rfl | simp [Act.eval] | (simp; rfl)) _ (dfa_built2 D.K a7 (D.n + 1) c7 wz))); try simp only [Act.put, List.setIfInBounds_toArray, List.set_cons_zero, List.set_cons_succ])
              refine wpAnyH_ready (rs := [15]) (by kernel_rfl) (by simp) ?_
              refine AllReadyH.cons (o := ?_) ?_ (fun K hK => ?_) ?_
              rotate_left
              (focus ((simp only [List.getElem?_toArray, List.getElem?_cons_succ, List.getElem?_cons_zero]); first | done | rfl))
              · skip
                refine step_store9 (by rfl) 26 _ _ (by rfl) w3.heap.size 26 (zC 26) (dfC D.K (.slice none 0 0) (.slice a7 (D.n + 1) c7)) (by rfl) (by rfl) H7.out.1 (by rw [zDfa_size, dfC_size]) (by rw [info_dfa9, dfC_size]) (dfC_one _ _ _ _ _ _ _) ?_
                have HM8 : Hid (V12.ownsRow w3.heap.size 3 1 (.slice a7 (D.n + 1) c7) (D.n + 1) (ints ((List.range (D.n + 1)).map (dupQ D i)))) := by
                  have h := HM7.out
                  rw [dupM, Hqi.out]
                  show World.ownsRow _ _ _ _ _ _ _
                  simpa [ints] using h
                have HT0 := Lib.hid (TrA.start (K := D.K) (C := C) (ws := fun _ => .slice none 0 0) HM8.out (by simp) hHeld.1 H7.out.1 H7.out.2)
                refine hK.out _ _ (HSo.out _ HT0.out.bel) (fun hHeld => ?_)
                clear hK K
                try simp only [Act.put, List.setIfInBounds_toArray, List.set_cons_zero, List.set_cons_succ]
                refine wpAnyH_done (by kernel_rfl) ?_ _
                clear hHeld
                go_wp2_with fail
                go_meet
                exact ⟨_, _, _, rfl, HT0.out⟩
              exact AllReadyH.nil
            exact AllReadyH.nil
          exact AllReadyH.nil
        exact AllReadyH.nil
      refine AllReadyH.cons (o := ?_) ?_ (fun K hK => ?_) ?_
      rotate_left
      (focus ((simp only [List.getElem?_toArray, List.getElem?_cons_succ, List.getElem?_cons_zero]); first | done | rfl))
      · skip
        go_simp
        have kk := al V14 (.cells #[.int .i64 qi] 3)
        have hbn : Below w3.heap.size w3 (V14.alloc (.cells #[.int .i64 qi] 3)) := hHeld.1.trans (kk.mono hHeld.1.size)
        have HS1 : Hid (St (V14.alloc (.cells #[.int .i64 qi] 3)) 3 V14.heap.size #[.int .i64 qi]) := St.new V14 _ _
        have H7 : Hid (St (V14.alloc (.cells #[.int .i64 qi] 3)) 26 w3.heap.size (zC 26) ∧ w3.heap.size ≤ w3.heap.size) := ⟨H7.out.1.keep kk, H7.out.2⟩
        refine hK.out _ _ (HSo.out _ hbn) (fun hHeld => ?_)
        clear hK K
        try simp only [Act.put, List.setIfInBounds_toArray, List.set_cons_zero, List.set_cons_succ]
        clear kk
        generalize (V14.alloc (.cells #[.int .i64 qi] 3)) = V11 at H7 HS1 hHeld hbn ⊢
        refine wpAnyH_ready (rs := [2]) (by kernel_rfl) (by simp) ?_
        refine AllReadyH.cons (o := ?_) ?_ (fun K hK => ?_) ?_
        rotate_left
        (focus ((simp only [List.getElem?_toArray, List.getElem?_cons_succ, List.getElem?_cons_zero]); first | done | rfl))
        · skip
          go_simp
          have kk := al V11 (.cells #[] 3)
          have hbn : Below w3.heap.size w3 (V11.alloc (.cells #[] 3)) := hHeld.1.trans (kk.mono hHeld.1.size)
          have HP2 : Hid ((V11.alloc (.cells #[] 3)).ownsRow w3.heap.size 3 1 (.slice (some ⟨V11.heap.size, 0, none⟩) 0 0) 0 []) := own_lit V11 w3.heap.size 3 1 #[] 0 rfl hHeld.1.size (by decide)
          have HNe : Hid (V11.heap.size ≠ V14.heap.size) := by have := HS1.out.lt; show _ ≠ _; omega
          have H7 : Hid (St (V11.alloc (.cells #[] 3)) 26 w3.heap.size (zC 26) ∧ w3.heap.size ≤ w3.heap.size) := ⟨H7.out.1.keep kk, H7.out.2⟩
          have HS1 : Hid (St (V11.alloc (.cells #[] 3)) 3 V14.heap.size #[.int .i64 qi]) := HS1.out.keep kk
          refine hK.out _ _ (HSo.out _ hbn) (fun hHeld => ?_)
          clear hK K
          try simp only [Act.put, List.setIfInBounds_toArray, List.set_cons_zero, List.set_cons_succ]
          clear kk
          generalize (V11.alloc (.cells #[] 3)) = V2 at HP2 H7 HS1 hHeld hbn ⊢
          refine wpAnyH_ready (rs := [5]) (by kernel_rfl) (by simp) ?_
          refine AllReadyH.cons (o := ?_) ?_ (fun K hK => ?_) ?_
          rotate_left
          (focus ((simp only [List.getElem?_toArray, List.getElem?_cons_succ, List.getElem?_cons_zero]); first | done | rfl))
          · skip
            refine step_append_at9 (by rfl) _ _ _ (by rfl) w3.heap.size 3 iI (.int .i64 0) 1 8 Try.underlying24 hI hI0 hI1 hI2 (by rfl) (by decide) _ 0 [] (by rfl) HP2.out ⟨gM, oM, none⟩ D.n D.cM (ints ((List.range D.n).map D.q)) (by rfl) (by simp [ints]) (HNw.out _ hHeld.1) (by intro u hu; simp [ints] at hu; obtain ⟨x, _, rfl⟩ := hu; rfl) (by unfold maxLen; omega) (by omega) hHeld.1.size ?_
            intro v6 V5 hown6 hgrow6 hat6
            try rw [Nat.zero_add] at hown6
            rw [List.nil_append] at hown6
            obtain ⟨a6, c6, rfl⟩ := ownsRow_slice hown6
            have HM6 : Hid (V5.ownsRow w3.heap.size 3 1 (.slice a6 D.n c6) D.n (ints ((List.range D.n).map D.q))) := hown6
            have hbn : Below w3.heap.size w3 V5 := below_grown_own hHeld.1 HP2.out hHeld.1.size hgrow6
            have H7 : Hid (St V5 26 w3.heap.size (zC 26) ∧ w3.heap.size ≤ w3.heap.size) := ⟨H7.out.1.grown_own HP2.out (by decide) hgrow6, H7.out.2⟩
            have HS1 : Hid (St V5 3 V14.heap.size #[.int .i64 qi]) := HS1.out.grown hgrow6 (fun e => HNe.out (by injection e with e; exact e.symm))
            clear hown6 hgrow6 hat6
            refine hK.out _ _ (HSo.out _ hbn) (fun hHeld => ?_)
            clear hK K
            try simp only [Act.put, List.setIfInBounds_toArray, List.set_cons_zero, List.set_cons_succ]
            refine wpAnyH_ready (rs := [12]) (by kernel_rfl) (by simp) ?_
            refine AllReadyH.cons (o := ?_) ?_ (fun K hK => ?_) ?_
            rotate_left
            (focus ((simp only [List.getElem?_toArray, List.getElem?_cons_succ, List.getElem?_cons_zero]); first | done | rfl))
            · skip
              refine step_append_at9 (by rfl) _ _ _ (by rfl) w3.heap.size 3 iI (.int .i64 0) 1 8 Try.underlying24 hI hI0 hI1 hI2 (by rfl) (by decide) _ D.n (ints ((List.range D.n).map D.q)) (by rfl) HM6.out ⟨V14.heap.size, 0, none⟩ 1 1 [.int .i64 qi] (by rfl) (by rfl) (St.part HS1.out) (by intro u hu; simp at hu; subst hu; rfl) (by unfold maxLen; omega) (by omega) hHeld.1.size ?_
              intro v6 V12 hown6 hgrow6 hat6
              obtain ⟨a7, c7, rfl⟩ := ownsRow_slice hown6
              have HM7 : Hid (V12.ownsRow w3.heap.size 3 1 (.slice a7 (D.n + 1) c7) (D.n + 1) ((ints ((List.range D.n).map D.q)) ++ [.int .i64 qi])) := hown6
              have hbn : Below w3.heap.size w3 V12 := below_grown_own hHeld.1 HM6.out hHeld.1.size hgrow6
              have H7 : Hid (St V12 26 w3.heap.size (zC 26) ∧ w3.heap.size ≤ w3.heap.size) := ⟨H7.out.1.grown_own HM6.out (by decide) hgrow6, H7.out.2⟩
              clear hown6 hgrow6 hat6
              refine hK.out _ _ (HSo.out _ hbn) (fun hHeld => ?_)
              clear hK K
              try simp only [Act.put, List.setIfInBounds_toArray, List.set_cons_zero, List.set_cons_succ]
              (refine wpAnyH_take (i := 13) (oi := ?_) (v := .agg (dfC D.K (.slice none 0 0) (.slice a7 (D.n + 1) c7))) ?_ (by kernel_rfl) (by kernel_rfl) (by kernel_rfl) ?_ (Or.inl ⟨?_, ?_⟩) (by assumption) ?_; rotate_left; (focus ((simp only [List.getElem?_toArray, List.getElem?_cons_succ, List.getElem?_cons_zero]); first | done | rfl)); (focus (exact fun _ _ _ h => h)); (focus rfl); (focus (intro wz hSw; exact exec_bld10 wz _ _ rfl #[(0, .agg (clsOf D.K)), (2, .slice a7 (D.n + 1) c7)] (by first | rfl | simp [Act.eval] | (simp; rfl)) _ (dfa_built2 D.K a7 (D.n + 1) c7 wz))); try simp only [Act.put, List.setIfInBounds_toArray, List.set_cons_zero, List.set_cons_succ])
              refine wpAnyH_ready (rs := [15]) (by kernel_rfl) (by simp) ?_
              refine AllReadyH.cons (o := ?_) ?_ (fun K hK => ?_) ?_
              rotate_left
              (focus ((simp only [List.getElem?_toArray, List.getElem?_cons_succ, List.getElem?_cons_zero]); first | done | rfl))
              · skip
                refine step_store9 (by rfl) 26 _ _ (by rfl) w3.heap.size 26 (zC 26) (dfC D.K (.slice none 0 0) (.slice a7 (D.n + 1) c7)) (by rfl) (by rfl) H7.out.1 (by rw [zDfa_size, dfC_size]) (by rw [info_dfa9, dfC_size]) (dfC_one _ _ _ _ _ _ _) ?_
                have HM8 : Hid (V12.ownsRow w3.heap.size 3 1 (.slice a7 (D.n + 1) c7) (D.n + 1) (ints ((List.range (D.n + 1)).map (dupQ D i)))) := by
                  have h := HM7.out
                  rw [dupM, Hqi.out]
                  show World.ownsRow _ _ _ _ _ _ _
                  simpa [ints] using h
                have HT0 := Lib.hid (TrA.start (K := D.K) (C := C) (ws := fun _ => .slice none 0 0) HM8.out (by simp) hHeld.1 H7.out.1 H7.out.2)
                refine hK.out _ _ (HSo.out _ HT0.out.bel) (fun hHeld => ?_)
                clear hK K
                try simp only [Act.put, List.setIfInBounds_toArray, List.set_cons_zero, List.set_cons_succ]
                refine wpAnyH_done (by kernel_rfl) ?_ _
                clear hHeld
                go_wp2_with fail
                go_meet
                exact ⟨_, _, _, rfl, HT0.out⟩
              exact AllReadyH.nil
            exact AllReadyH.nil
          exact AllReadyH.nil
        exact AllReadyH.nil
      exact AllReadyH.nil
    exact AllReadyH.nil
  case rest =>
    obtain ⟨b4, a6, c6, rfl, hT0⟩ := hcut
    have HT0 := Lib.hid hT0
    obtain ⟨gN, oN, eN, hgN, _⟩ := H3.out.1.dm.rN (by omega)
    have HeN := Lib.hid (And.intro eN hgN)
    clear hT0 eN hgN
    go_wp2_with fail
    go_loopw [8, 9, 10, 11, 12] (fun v _ _ _ _ wr => ∃ (k : Nat) (ws : Nat → Value) (aN : Option Addr) (cN : Nat), v = .int .i64 k ∧ k ≤ D.n + 1 ∧ Hid (TrA w3 b4 D.K C (.slice aN k cN) (dupRw D C i k) ws (.slice a6 (D.n + 1) c6) ((List.range (D.n + 1)).map (dupQ D i)) wr)) (fun v _ _ _ _ _ => D.n + 1 - (intOf v).toNat)
    case atStart => exact ⟨0, _, none, 0, rfl, by omega, HT0⟩
    case round =>
      clear HT0
      obtain ⟨k, ws, aN, cN, rfl, hk, HT⟩ := hrel
      have hRl : Hid ((dupRw D C i k).length = k) := dupRw_len _ _ _ _
      have HBx := Lib.hid (H3.out.1.keep HT.out.bel)
      have f1 := HBx.out.f1
      rw [HeN.out.1] at f1
      by_cases hlt : k ≤ D.n
      · have i1 : (k : Int) ≤ (D.n : Int) := by omega
        by_cases hkn : k = D.n
        · have i3 : (k : Int) = (D.n : Int) := by omega
          have Hr : Hid (dupR D i k = i) := by show _ = _; unfold dupR; rw [if_pos hkn]
          have hrn : i < D.n := hin
          obtain ⟨gA, oA, cA, cN1, _⟩ := HBx.out.dm.cellAt HR.out HeN.out.1 hrn (c := 0) (by omega)
          have i5 : (i : Int) < (D.n : Int) := by omega
          subst hkn
          go_wp2_with fail
          clear f1 cN1 i3
          obtain ⟨WI, rfl⟩ : ∃ WI, WI = wr := ⟨wr, rfl⟩
          go_loopw [10, 11, 12] (fun v10 v11 _ wq => ∃ (c : Nat) (a : Option Addr) (cp : Nat), v11 = .int .i64 c ∧ c ≤ C ∧ v10 = .slice a c cp ∧ Hid (wq.ownsRow WI.heap.size 3 1 (.slice a c cp) c (ints ((List.range c).map (dupX D i D.n))) ∧ Below WI.heap.size WI wq)) (fun _ v _ _ => C - (intOf v).toNat)
          case atStart => exact ⟨0, none, 0, rfl, by omega, rfl, ⟨World.ownsRow_nil _ _ _ _, Below.refl _ _⟩⟩
          case round =>
            obtain ⟨c, a, cp, rfl, hc, rfl, HQ⟩ := hrel
            have hbx := HBx.out.keep HQ.out.2
            have f1 := hbx.f1
            rw [HeN.out.1] at f1
            by_cases hlc : c < C
            · obtain ⟨gA, oA, cA, cN1, cA1⟩ := hbx.dm.cellAt HR.out HeN.out.1 hrn hlc
              have i2 : (c : Int) < (C : Int) := by omega
              have i5 : (i : Int) < (D.n : Int) := by omega
              have hO := HQ.out.1
              have HQ2 := Lib.hid HQ.out.2
              have Hdx : Hid (∀ t : Int, D.nx i c = t → dupX D i D.n c = if t = ((i : Nat) : Int) ∧ (D.n + c) % 2 = 0 then ((D.n : Nat) : Int) else t) := fun t h => by unfold dupX; rw [Hr.out, h]
              clear HQ hbx
              obtain ⟨t, ht⟩ : ∃ t, D.nx i c = t := ⟨_, rfl⟩
              have Hd2 := Lib.hid (Hdx.out t ht)
              rw [ht] at cA1
              clear ht Hdx
              by_cases hti : t = ((i : Nat) : Int)
              · subst hti
                have hrem : Int.tmod ((D.n : Int) + (c : Int)) 2 = (((D.n + c) % 2 : Nat) : Int) := by rw [Int.tmod_eq_emod_of_nonneg (by omega)]; omega
                have hrem2 : ((D.n : Int) + (c : Int)) % 2 = (((D.n + c) % 2 : Nat) : Int) := by omega
                by_cases hev : (D.n + c) % 2 = 0
                · have Hv : Hid (dupX D i D.n c = ((D.n : Nat) : Int)) := by show _ = _; rw [Hd2.out, if_pos ⟨rfl, hev⟩]
                  rw [hev] at hrem hrem2
                  clear Hd2
                  have HZa : Hid ((List.range (c + 1)).map (dupX D i D.n) = (List.range c).map (dupX D i D.n) ++ [((D.n : Nat) : Int)]) := by show _ = _; rw [List.range_succ, List.map_append, List.map_singleton, Hv.out]
                  go_wp2_with (at_builtin; refine wpList_append_own_at _ rfl _ _ 24 rfl WI.heap.size 3 iI (.int .i64 0) 1 8 Try.underlying24 hI hI0 hI1 hI2 rfl (by decide) _ _ _ rfl (hO.alloc _) ⟨wr.heap.size, 0, none⟩ 1 1 [.int .i64 ((D.n : Nat) : Int)] rfl rfl (cell_one_new _ _ _) ?d2 ?d3 ?d4 ?d5 ?_)
                  case d2 => first | (intro u hu; simp at hu; subst hu; rfl) | rfl
                  case d3 => unfold maxLen; omega
                  case d4 => omega
                  case d5 => have := HQ2.out.size; simp; omega
                  intro v8 w8 hown8 hgrow8 _ hat8
                  obtain ⟨a8, c8, rfl⟩ := ownsRow_slice hown8
                  have kk := al wr (.cells #[.int .i64 ((D.n : Nat) : Int)] 3)
                  have HY : Hid (w8.ownsRow WI.heap.size 3 1 (.slice a8 (c + 1) c8) (c + 1) (ints ((List.range (c + 1)).map (dupX D i D.n))) ∧ Below WI.heap.size WI w8) := by
                    refine ⟨?_, below_grown_own (HQ2.out.trans (kk.mono HQ2.out.size)) (hO.alloc _) (Nat.le_trans HQ2.out.size kk.size) hgrow8⟩
                    rw [HZa.out, ints_snoc9]
                    exact hown8
                  clear hown8 hgrow8 hat8 hO kk
                  go_wp2_with fail
                  go_roundw
                  case rel => exact ⟨c + 1, a8, c8, by go_num, by omega, rfl, HY⟩
                  case measure => simp [intOf]; omega
                · have Hv : Hid (dupX D i D.n c = ((i : Nat) : Int)) := by show _ = _; rw [Hd2.out, if_neg (fun h => hev h.2)]
                  have hod : (D.n + c) % 2 = 1 := by omega
                  rw [hod] at hrem hrem2
                  clear Hd2 hev
                  have HZa : Hid ((List.range (c + 1)).map (dupX D i D.n) = (List.range c).map (dupX D i D.n) ++ [((i : Nat) : Int)]) := by show _ = _; rw [List.range_succ, List.map_append, List.map_singleton, Hv.out]
                  go_wp2_with (at_builtin; refine wpList_append_own_at _ rfl _ _ 24 rfl WI.heap.size 3 iI (.int .i64 0) 1 8 Try.underlying24 hI hI0 hI1 hI2 rfl (by decide) _ _ _ rfl (hO.alloc _) ⟨wr.heap.size, 0, none⟩ 1 1 [.int .i64 ((i : Nat) : Int)] rfl rfl (cell_one_new _ _ _) ?d2 ?d3 ?d4 ?d5 ?_)
                  case d2 => first | (intro u hu; simp at hu; subst hu; rfl) | rfl
                  case d3 => unfold maxLen; omega
                  case d4 => omega
                  case d5 => have := HQ2.out.size; simp; omega
                  intro v8 w8 hown8 hgrow8 _ hat8
                  obtain ⟨a8, c8, rfl⟩ := ownsRow_slice hown8
                  have kk := al wr (.cells #[.int .i64 ((i : Nat) : Int)] 3)
                  have HY : Hid (w8.ownsRow WI.heap.size 3 1 (.slice a8 (c + 1) c8) (c + 1) (ints ((List.range (c + 1)).map (dupX D i D.n))) ∧ Below WI.heap.size WI w8) := by
                    refine ⟨?_, below_grown_own (HQ2.out.trans (kk.mono HQ2.out.size)) (hO.alloc _) (Nat.le_trans HQ2.out.size kk.size) hgrow8⟩
                    rw [HZa.out, ints_snoc9]
                    exact hown8
                  clear hown8 hgrow8 hat8 hO kk
                  go_wp2_with fail
                  go_roundw
                  case rel => exact ⟨c + 1, a8, c8, by go_num, by omega, rfl, HY⟩
                  case measure => simp [intOf]; omega
              · have Hv : Hid (dupX D i D.n c = t) := by show _ = _; rw [Hd2.out, if_neg (fun h => hti h.1)]
                clear Hd2
                have HZa : Hid ((List.range (c + 1)).map (dupX D i D.n) = (List.range c).map (dupX D i D.n) ++ [t]) := by show _ = _; rw [List.range_succ, List.map_append, List.map_singleton, Hv.out]
                go_wp2_with (at_builtin; refine wpList_append_own_at _ rfl _ _ 24 rfl WI.heap.size 3 iI (.int .i64 0) 1 8 Try.underlying24 hI hI0 hI1 hI2 rfl (by decide) _ _ _ rfl (hO.alloc _) ⟨wr.heap.size, 0, none⟩ 1 1 [.int .i64 t] rfl rfl (cell_one_new _ _ _) ?d2 ?d3 ?d4 ?d5 ?_)
                case d2 => first | (intro u hu; simp at hu; subst hu; rfl) | rfl
                case d3 => unfold maxLen; omega
                case d4 => omega
                case d5 => have := HQ2.out.size; simp; omega
                intro v8 w8 hown8 hgrow8 _ hat8
                obtain ⟨a8, c8, rfl⟩ := ownsRow_slice hown8
                have kk := al wr (.cells #[.int .i64 t] 3)
                have HY : Hid (w8.ownsRow WI.heap.size 3 1 (.slice a8 (c + 1) c8) (c + 1) (ints ((List.range (c + 1)).map (dupX D i D.n))) ∧ Below WI.heap.size WI w8) := by
                  refine ⟨?_, below_grown_own (HQ2.out.trans (kk.mono HQ2.out.size)) (hO.alloc _) (Nat.le_trans HQ2.out.size kk.size) hgrow8⟩
                  rw [HZa.out, ints_snoc9]
                  exact hown8
                clear hown8 hgrow8 hat8 hO kk
                go_wp2_with fail
                go_roundw
                case rel => exact ⟨c + 1, a8, c8, by go_num, by omega, rfl, HY⟩
                case measure => simp [intOf]; omega
            · obtain rfl : c = C := by omega
              obtain ⟨gA, oA, cA, cN1, _⟩ := hbx.dm.cellAt HR.out HeN.out.1 hrn (c := 0) (by omega)
              have HT2 := Lib.hid (HT.out.keep HQ.out.2)
              have hOn : wr.ownsRow w3.heap.size 24 1 (.slice aN D.n cN) D.n ((List.range D.n).map ws) := by have := HT2.out.next.own; rwa [hRl.out] at this
              have z0 := HT2.out.f1
              have z1 := HT2.out.st.thaw_ 256
              have i2 : ¬ ((c : Int) < (c : Int)) := by omega
              have i5 : (i : Int) < (D.n : Int) := by omega
              clear hbx
              go_wp2_with (at_builtin; refine wpList_append_own_at _ rfl _ _ 23 rfl w3.heap.size 24 iV (.slice none 0 0) 1 24 Try.underlying23 hV hV0 hV1 hV2 rfl (by decide) _ _ _ rfl (hOn.alloc _) ⟨wr.heap.size, 0, none⟩ 1 1 [.slice a c cp] rfl rfl (cell_one_new _ _ _) ?d2 ?d3 ?d4 ?d5 ?_)
              case d2 => first | (intro u hu; simp at hu; subst hu; rfl) | rfl
              case d3 => unfold maxLen; omega
              case d4 => omega
              case d5 => have := HT2.out.bel.size; simp; omega
              intro v7 w7 hown7 hgrow7 _ hat7
              obtain ⟨a7, c7, rfl⟩ := ownsRow_slice hown7
              have kk := al wr (.cells #[.slice a c cp] 24)
              have hsz := HT.out.bel.size
              have hu := ownsRow_base (base := w3.heap.size) (ownsRow_keep HQ.out.1 kk) hsz
              have habv := own_above HQ.out.1
              have HT7 := Lib.hid ((HT2.out.keep kk).addRow (u := .slice a c cp) (vN' := .slice a7 (D.n + 1) c7) hu (fun j hj b e1 e2 => by have h1 := own_lt9 (HT.out.next.row j hj) b e1; have h2 := habv b e2; omega) (fun b e1 e2 => by have h1 := own_lt9 HT.out.mks b e2; have h2 := habv b e1; omega) hRl.out hown7 hgrow7)
              have z2 : w7.cell? ⟨b4, 256, none⟩ = some (.slice aN D.n cN) := by
                have h9 := ((HT2.out.keep kk).st.grown_own (HT2.out.keep kk).next.own (by decide) hgrow7)
                rw [h9.at_, dfC_n]
              have z3 : w7.frozen? ⟨b4, 256, none⟩ = false := ((HT2.out.keep kk).st.grown_own (HT2.out.keep kk).next.own (by decide) hgrow7).thaw_ 256
              rw [← dupRw_succ] at HT7
              clear hown7 hgrow7 hat7 hOn kk hu habv z0 z1
              go_wp2_with fail
              go_roundw
              case rel => exact ⟨D.n + 1, _, a7, c7, by first | rfl | go_num, by omega, HT7⟩
              case measure => first | (simp [intOf]; done) | (simp [intOf]; omega)
        · have i3 : ¬ ((k : Int) = (D.n : Int)) := by omega
          have i3b : ((k : Int) == (D.n : Int)) = false := by simp; omega
          have Hr : Hid (dupR D i k = k) := by show _ = _; unfold dupR; rw [if_neg hkn]
          have hrn : k < D.n := by omega
          obtain ⟨gA, oA, cA, cN1, _⟩ := HBx.out.dm.cellAt HR.out HeN.out.1 hrn (c := 0) (by omega)
          have i5 : (k : Int) < (D.n : Int) := by omega
          go_wp2_with fail
          clear f1 cN1
          obtain ⟨WI, rfl⟩ : ∃ WI, WI = wr := ⟨wr, rfl⟩
          go_loopw [10, 11, 12] (fun v10 v11 _ wq => ∃ (c : Nat) (a : Option Addr) (cp : Nat), v11 = .int .i64 c ∧ c ≤ C ∧ v10 = .slice a c cp ∧ Hid (wq.ownsRow WI.heap.size 3 1 (.slice a c cp) c (ints ((List.range c).map (dupX D i k))) ∧ Below WI.heap.size WI wq)) (fun _ v _ _ => C - (intOf v).toNat)
          case atStart => exact ⟨0, none, 0, rfl, by omega, rfl, ⟨World.ownsRow_nil _ _ _ _, Below.refl _ _⟩⟩
          case round =>
            obtain ⟨c, a, cp, rfl, hc, rfl, HQ⟩ := hrel
            have hbx := HBx.out.keep HQ.out.2
            have f1 := hbx.f1
            rw [HeN.out.1] at f1
            by_cases hlc : c < C
            · obtain ⟨gA, oA, cA, cN1, cA1⟩ := hbx.dm.cellAt HR.out HeN.out.1 hrn hlc
              have i2 : (c : Int) < (C : Int) := by omega
              have i5 : (k : Int) < (D.n : Int) := by omega
              have hO := HQ.out.1
              have HQ2 := Lib.hid HQ.out.2
              have Hdx : Hid (∀ t : Int, D.nx k c = t → dupX D i k c = if t = ((i : Nat) : Int) ∧ (k + c) % 2 = 0 then ((D.n : Nat) : Int) else t) := fun t h => by unfold dupX; rw [Hr.out, h]
              clear HQ hbx
              obtain ⟨t, ht⟩ : ∃ t, D.nx k c = t := ⟨_, rfl⟩
              have Hd2 := Lib.hid (Hdx.out t ht)
              rw [ht] at cA1
              clear ht Hdx
              by_cases hti : t = ((i : Nat) : Int)
              · subst hti
                have hrem : Int.tmod ((k : Int) + (c : Int)) 2 = (((k + c) % 2 : Nat) : Int) := by rw [Int.tmod_eq_emod_of_nonneg (by omega)]; omega
                have hrem2 : ((k : Int) + (c : Int)) % 2 = (((k + c) % 2 : Nat) : Int) := by omega
                by_cases hev : (k + c) % 2 = 0
                · have Hv : Hid (dupX D i k c = ((D.n : Nat) : Int)) := by show _ = _; rw [Hd2.out, if_pos ⟨rfl, hev⟩]
                  rw [hev] at hrem hrem2
                  clear Hd2
                  have HZa : Hid ((List.range (c + 1)).map (dupX D i k) = (List.range c).map (dupX D i k) ++ [((D.n : Nat) : Int)]) := by show _ = _; rw [List.range_succ, List.map_append, List.map_singleton, Hv.out]
                  go_wp2_with (at_builtin; refine wpList_append_own_at _ rfl _ _ 24 rfl WI.heap.size 3 iI (.int .i64 0) 1 8 Try.underlying24 hI hI0 hI1 hI2 rfl (by decide) _ _ _ rfl (hO.alloc _) ⟨wr.heap.size, 0, none⟩ 1 1 [.int .i64 ((D.n : Nat) : Int)] rfl rfl (cell_one_new _ _ _) ?d2 ?d3 ?d4 ?d5 ?_)
                  case d2 => first | (intro u hu; simp at hu; subst hu; rfl) | rfl
                  case d3 => unfold maxLen; omega
                  case d4 => omega
                  case d5 => have := HQ2.out.size; simp; omega
                  intro v8 w8 hown8 hgrow8 _ hat8
                  obtain ⟨a8, c8, rfl⟩ := ownsRow_slice hown8
                  have kk := al wr (.cells #[.int .i64 ((D.n : Nat) : Int)] 3)
                  have HY : Hid (w8.ownsRow WI.heap.size 3 1 (.slice a8 (c + 1) c8) (c + 1) (ints ((List.range (c + 1)).map (dupX D i k))) ∧ Below WI.heap.size WI w8) := by
                    refine ⟨?_, below_grown_own (HQ2.out.trans (kk.mono HQ2.out.size)) (hO.alloc _) (Nat.le_trans HQ2.out.size kk.size) hgrow8⟩
                    rw [HZa.out, ints_snoc9]
                    exact hown8
                  clear hown8 hgrow8 hat8 hO kk
                  go_wp2_with fail
                  go_roundw
                  case rel => exact ⟨c + 1, a8, c8, by go_num, by omega, rfl, HY⟩
                  case measure => simp [intOf]; omega
                · have Hv : Hid (dupX D i k c = ((i : Nat) : Int)) := by show _ = _; rw [Hd2.out, if_neg (fun h => hev h.2)]
                  have hod : (k + c) % 2 = 1 := by omega
                  rw [hod] at hrem hrem2
                  clear Hd2 hev
                  have HZa : Hid ((List.range (c + 1)).map (dupX D i k) = (List.range c).map (dupX D i k) ++ [((i : Nat) : Int)]) := by show _ = _; rw [List.range_succ, List.map_append, List.map_singleton, Hv.out]
                  go_wp2_with (at_builtin; refine wpList_append_own_at _ rfl _ _ 24 rfl WI.heap.size 3 iI (.int .i64 0) 1 8 Try.underlying24 hI hI0 hI1 hI2 rfl (by decide) _ _ _ rfl (hO.alloc _) ⟨wr.heap.size, 0, none⟩ 1 1 [.int .i64 ((i : Nat) : Int)] rfl rfl (cell_one_new _ _ _) ?d2 ?d3 ?d4 ?d5 ?_)
                  case d2 => first | (intro u hu; simp at hu; subst hu; rfl) | rfl
                  case d3 => unfold maxLen; omega
                  case d4 => omega
                  case d5 => have := HQ2.out.size; simp; omega
                  intro v8 w8 hown8 hgrow8 _ hat8
                  obtain ⟨a8, c8, rfl⟩ := ownsRow_slice hown8
                  have kk := al wr (.cells #[.int .i64 ((i : Nat) : Int)] 3)
                  have HY : Hid (w8.ownsRow WI.heap.size 3 1 (.slice a8 (c + 1) c8) (c + 1) (ints ((List.range (c + 1)).map (dupX D i k))) ∧ Below WI.heap.size WI w8) := by
                    refine ⟨?_, below_grown_own (HQ2.out.trans (kk.mono HQ2.out.size)) (hO.alloc _) (Nat.le_trans HQ2.out.size kk.size) hgrow8⟩
                    rw [HZa.out, ints_snoc9]
                    exact hown8
                  clear hown8 hgrow8 hat8 hO kk
                  go_wp2_with fail
                  go_roundw
                  case rel => exact ⟨c + 1, a8, c8, by go_num, by omega, rfl, HY⟩
                  case measure => simp [intOf]; omega
              · have Hv : Hid (dupX D i k c = t) := by show _ = _; rw [Hd2.out, if_neg (fun h => hti h.1)]
                clear Hd2
                have HZa : Hid ((List.range (c + 1)).map (dupX D i k) = (List.range c).map (dupX D i k) ++ [t]) := by show _ = _; rw [List.range_succ, List.map_append, List.map_singleton, Hv.out]
                go_wp2_with (at_builtin; refine wpList_append_own_at _ rfl _ _ 24 rfl WI.heap.size 3 iI (.int .i64 0) 1 8 Try.underlying24 hI hI0 hI1 hI2 rfl (by decide) _ _ _ rfl (hO.alloc _) ⟨wr.heap.size, 0, none⟩ 1 1 [.int .i64 t] rfl rfl (cell_one_new _ _ _) ?d2 ?d3 ?d4 ?d5 ?_)
                case d2 => first | (intro u hu; simp at hu; subst hu; rfl) | rfl
                case d3 => unfold maxLen; omega
                case d4 => omega
                case d5 => have := HQ2.out.size; simp; omega
                intro v8 w8 hown8 hgrow8 _ hat8
                obtain ⟨a8, c8, rfl⟩ := ownsRow_slice hown8
                have kk := al wr (.cells #[.int .i64 t] 3)
                have HY : Hid (w8.ownsRow WI.heap.size 3 1 (.slice a8 (c + 1) c8) (c + 1) (ints ((List.range (c + 1)).map (dupX D i k))) ∧ Below WI.heap.size WI w8) := by
                  refine ⟨?_, below_grown_own (HQ2.out.trans (kk.mono HQ2.out.size)) (hO.alloc _) (Nat.le_trans HQ2.out.size kk.size) hgrow8⟩
                  rw [HZa.out, ints_snoc9]
                  exact hown8
                clear hown8 hgrow8 hat8 hO kk
                go_wp2_with fail
                go_roundw
                case rel => exact ⟨c + 1, a8, c8, by go_num, by omega, rfl, HY⟩
                case measure => simp [intOf]; omega
            · obtain rfl : c = C := by omega
              obtain ⟨gA, oA, cA, cN1, _⟩ := hbx.dm.cellAt HR.out HeN.out.1 hrn (c := 0) (by omega)
              have HT2 := Lib.hid (HT.out.keep HQ.out.2)
              have hOn : wr.ownsRow w3.heap.size 24 1 (.slice aN k cN) k ((List.range k).map ws) := by have := HT2.out.next.own; rwa [hRl.out] at this
              have z0 := HT2.out.f1
              have z1 := HT2.out.st.thaw_ 256
              have i2 : ¬ ((c : Int) < (c : Int)) := by omega
              have i5 : (k : Int) < (D.n : Int) := by omega
              clear hbx
              go_wp2_with (at_builtin; refine wpList_append_own_at _ rfl _ _ 23 rfl w3.heap.size 24 iV (.slice none 0 0) 1 24 Try.underlying23 hV hV0 hV1 hV2 rfl (by decide) _ _ _ rfl (hOn.alloc _) ⟨wr.heap.size, 0, none⟩ 1 1 [.slice a c cp] rfl rfl (cell_one_new _ _ _) ?d2 ?d3 ?d4 ?d5 ?_)
              case d2 => first | (intro u hu; simp at hu; subst hu; rfl) | rfl
              case d3 => unfold maxLen; omega
              case d4 => omega
              case d5 => have := HT2.out.bel.size; simp; omega
              intro v7 w7 hown7 hgrow7 _ hat7
              obtain ⟨a7, c7, rfl⟩ := ownsRow_slice hown7
              have kk := al wr (.cells #[.slice a c cp] 24)
              have hsz := HT.out.bel.size
              have hu := ownsRow_base (base := w3.heap.size) (ownsRow_keep HQ.out.1 kk) hsz
              have habv := own_above HQ.out.1
              have HT7 := Lib.hid ((HT2.out.keep kk).addRow (u := .slice a c cp) (vN' := .slice a7 (k + 1) c7) hu (fun j hj b e1 e2 => by have h1 := own_lt9 (HT.out.next.row j hj) b e1; have h2 := habv b e2; omega) (fun b e1 e2 => by have h1 := own_lt9 HT.out.mks b e2; have h2 := habv b e1; omega) hRl.out hown7 hgrow7)
              have z2 : w7.cell? ⟨b4, 256, none⟩ = some (.slice aN k cN) := by
                have h9 := ((HT2.out.keep kk).st.grown_own (HT2.out.keep kk).next.own (by decide) hgrow7)
                rw [h9.at_, dfC_n]
              have z3 : w7.frozen? ⟨b4, 256, none⟩ = false := ((HT2.out.keep kk).st.grown_own (HT2.out.keep kk).next.own (by decide) hgrow7).thaw_ 256
              rw [← dupRw_succ] at HT7
              clear hown7 hgrow7 hat7 hOn kk hu habv z0 z1
              go_wp2_with fail
              go_roundw
              case rel => exact ⟨k + 1, _, a7, c7, by first | rfl | go_num, by omega, HT7⟩
              case measure => first | (simp [intOf]; done) | (simp [intOf]; omega)
      · obtain rfl : k = D.n + 1 := by omega
        have HSt4 := Lib.hid HT.out.st
        obtain ⟨Xd, eX, hdX, t1, t2, t3, t4, t5, t6, _, _⟩ := HT.out.dfp (n' := D.n + 1) (nx' := dupX D i) (q' := dupQ D i) (w := w3) (w' := wr) H3.out.1.dm.kl hRl.out (fun r hr => by obtain ⟨j, _, rfl⟩ := List.mem_map.1 hr; simp) rfl (fun j hj c hc => by unfold dupRw; simp [List.getD_eq_getElem?_getD, hj, hc]) (Nat.le_refl _) (Or.inl (Below.refl _ _)) HT.out.bel
        have eX2 : dfC D.K (.slice aN (D.n + 1) cN) (.slice a6 (D.n + 1) c6) = Xd.cD := by injection eX with eX; injection eX
        have hXd : DfF D C (D.n + 1) (dupX D i) (dupQ D i) Xd := ⟨t1, t2, t3, t4, t5, t6⟩
        have HXd := Lib.hid (And.intro (dup_right HR.out hin (by omega) hXd) (dup_beh HR.out hin hXd))
        have H4 : Hid (DBx wr b0 D ∧ DBx wr b4 Xd ∧ Below w3.heap.size w3 wr) := ⟨HBx.out, ⟨by rw [← eX2]; exact HSt4.out, hdX⟩, HT.out.bel⟩
        clear HT HSt4 eX hdX t1 t2 t3 t4 t5 t6 eX2 hXd f1 hRl HBx
        have i1 : ¬ (((D.n : Int) + 1) ≤ (D.n : Int)) := by omega
        have HO1 := Lib.hid (of_least D C HR.out wr H4.out.1.dm)
        go_wp2_with (refine wpList_load_any9 (by rfl) 26 _ rfl ⟨b0, 0, none⟩ rfl D.cD _ H4.out.1.st.part Try.underlying26 rfl H4.out.1.dm.info ?_)
        refine HO1.out.mono ?_
        rintro e u1 ⟨X1, C1, rfl, hd1, hM1, hB1, _, v1⟩
        have HX1 := Lib.hid (And.intro hM1 hB1)
        have HdX := Lib.hid hd1
        have HSt := Lib.hid (St.new u1 26 (zC 26))
        have H5 : Hid (DBx ((u1.alloc (.cells (zC 26) 26)).setRow u1.heap.size X1.cD) u1.heap.size X1 ∧ Below wr.heap.size wr ((u1.alloc (.cells (zC 26) 26)).setRow u1.heap.size X1.cD)) :=
          ⟨DBx.stored hM1.r (hd1.below (al _ _)) (St.new _ _ _), v1.trans ((below_setRow9 (al _ _) (Nat.le_refl _) _).mono v1.size)⟩
        clear hd1 hM1 hB1 v1 HO1
        go_upto_region 24 with (first
          | (refine wpList_alloc9 rfl 26 rfl (zC 26) (zero_run9 _) ?_)
          | (refine wpList_store_var9 rfl 26 _ _ rfl u1.heap.size 26 (zC 26) X1.cD rfl rfl HSt.out (by rw [zDfa_size, HdX.out.sz]) (by rw [info_dfa9, HdX.out.sz]) HdX.out.one ?_))
        try simp only [Act.put, List.setIfInBounds_toArray, List.set_cons_zero, List.set_cons_succ]
        obtain ⟨p1, hp1⟩ : ∃ p1, u1.heap.size = p1 := ⟨_, rfl⟩
        rw [hp1] at H5
        try rw [hp1]
        generalize (u1.alloc (.cells (zC 26) 26)).setRow p1 X1.cD = U1 at H5 ⊢
        clear hp1 HSt HdX
        have H6 : Hid (DBx U1 b4 Xd ∧ DBx U1 p1 X1 ∧ Below w3.heap.size w3 U1) := ⟨H4.out.2.1.keep H5.out.2, H5.out.1, H4.out.2.2.trans (H5.out.2.mono H4.out.2.2.size)⟩
        have HO2 := Lib.hid (of_least Xd C HXd.out.1 U1 H6.out.1.dm)
        go_wp2_with (refine wpList_load_any9 (by rfl) 26 _ rfl ⟨b4, 0, none⟩ rfl Xd.cD _ H6.out.1.st.part Try.underlying26 rfl H6.out.1.dm.info ?_)
        refine HO2.out.mono ?_
        rintro e u2 ⟨X2, C2, rfl, hd1, hM1, hB1, _, v1⟩
        have HX2 := Lib.hid (And.intro hM1 hB1)
        have HdX := Lib.hid hd1
        have HSt := Lib.hid (St.new u2 26 (zC 26))
        have H7 : Hid (DBx ((u2.alloc (.cells (zC 26) 26)).setRow u2.heap.size X2.cD) u2.heap.size X2 ∧ Below U1.heap.size U1 ((u2.alloc (.cells (zC 26) 26)).setRow u2.heap.size X2.cD)) :=
          ⟨DBx.stored hM1.r (hd1.below (al _ _)) (St.new _ _ _), v1.trans ((below_setRow9 (al _ _) (Nat.le_refl _) _).mono v1.size)⟩
        clear hd1 hM1 hB1 v1 HO2
        go_upto_region 25 with (first
          | (refine wpList_alloc9 rfl 26 rfl (zC 26) (zero_run9 _) ?_)
          | (refine wpList_store_var9 rfl 26 _ _ rfl u2.heap.size 26 (zC 26) X2.cD rfl rfl HSt.out (by rw [zDfa_size, HdX.out.sz]) (by rw [info_dfa9, HdX.out.sz]) HdX.out.one ?_))
        try simp only [Act.put, List.setIfInBounds_toArray, List.set_cons_zero, List.set_cons_succ]
        obtain ⟨p2, hp2⟩ : ∃ p2, u2.heap.size = p2 := ⟨_, rfl⟩
        rw [hp2] at H7
        try rw [hp2]
        generalize (u2.alloc (.cells (zC 26) 26)).setRow p2 X2.cD = U2 at H7 ⊢
        clear hp2 HSt HdX
        have H8 : Hid (DBx U2 p1 X1 ∧ DBx U2 p2 X2 ∧ Below w3.heap.size w3 U2) := ⟨H6.out.2.1.keep H7.out.2, H7.out.1, H6.out.2.2.trans (H7.out.2.mono H6.out.2.2.size)⟩
        have HO3 := Lib.hid (of_least X1 C1 HX1.out.1.r U2 H8.out.1.dm)
        go_wp2_with (refine wpList_load_any9 (by rfl) 26 _ rfl ⟨p1, 0, none⟩ rfl X1.cD _ H8.out.1.st.part Try.underlying26 rfl H8.out.1.dm.info ?_)
        refine HO3.out.mono ?_
        rintro e u3 ⟨X3, C3, rfl, hd1, hM1, hB1, _, v1⟩
        have HX3 := Lib.hid (And.intro hM1 hB1)
        have HdX := Lib.hid hd1
        have HSt := Lib.hid (St.new u3 26 (zC 26))
        have H9 : Hid (DBx ((u3.alloc (.cells (zC 26) 26)).setRow u3.heap.size X3.cD) u3.heap.size X3 ∧ Below U2.heap.size U2 ((u3.alloc (.cells (zC 26) 26)).setRow u3.heap.size X3.cD)) :=
          ⟨DBx.stored hM1.r (hd1.below (al _ _)) (St.new _ _ _), v1.trans ((below_setRow9 (al _ _) (Nat.le_refl _) _).mono v1.size)⟩
        clear hd1 hM1 hB1 v1 HO3
        go_upto_region 26 with (first
          | (refine wpList_alloc9 rfl 26 rfl (zC 26) (zero_run9 _) ?_)
          | (refine wpList_store_var9 rfl 26 _ _ rfl u3.heap.size 26 (zC 26) X3.cD rfl rfl HSt.out (by rw [zDfa_size, HdX.out.sz]) (by rw [info_dfa9, HdX.out.sz]) HdX.out.one ?_))
        try simp only [Act.put, List.setIfInBounds_toArray, List.set_cons_zero, List.set_cons_succ]
        obtain ⟨p3, hp3⟩ : ∃ p3, u3.heap.size = p3 := ⟨_, rfl⟩
        rw [hp3] at H9
        try rw [hp3]
        generalize (u3.alloc (.cells (zC 26) 26)).setRow p3 X3.cD = U3 at H9 ⊢
        clear hp3 HSt HdX
        have HA : Hid (DBx U3 p1 X1 ∧ DBx U3 p2 X2 ∧ DBx U3 p3 X3 ∧ Below w3.heap.size w3 U3) := ⟨H8.out.1.keep H9.out.2, H8.out.2.1.keep H9.out.2, H9.out.1, H8.out.2.2.trans (H9.out.2.mono H8.out.2.2.size)⟩
        have HE1 := Lib.hid (HX1.out.1.alk HX2.out.1 ((HX1.out.2.trans HXd.out.2.symm).trans HX2.out.2.symm))
        have HE2 := Lib.hid (HX1.out.1.alk HX3.out.1 HX3.out.2.symm)
        have HS1 := Lib.hid (rsame8_yes X1 X2 C1 HE1.out U3 HA.out.1.dm HA.out.2.1.dm)
        go_wp2_with (first
          | (refine wpList_load_any9 (by rfl) 26 _ rfl ⟨p1, 0, none⟩ rfl X1.cD _ HA.out.1.st.part Try.underlying26 rfl HA.out.1.dm.info ?_)
          | (refine wpList_load_any9 (by rfl) 26 _ rfl ⟨p2, 0, none⟩ rfl X2.cD _ HA.out.2.1.st.part Try.underlying26 rfl HA.out.2.1.dm.info ?_))
        refine HS1.out.mono ?_
        rintro e u4 ⟨rfl, v1⟩
        have HA2 : Hid (DBx u4 p1 X1 ∧ DBx u4 p3 X3 ∧ Below w3.heap.size w3 u4) := ⟨HA.out.1.keep v1, HA.out.2.2.1.keep v1, HA.out.2.2.2.trans (v1.mono HA.out.2.2.2.size)⟩
        have HS2 := Lib.hid (rsame8_yes X1 X3 C1 HE2.out u4 HA2.out.1.dm HA2.out.2.1.dm)
        clear v1 HS1
        go_wp2_with (first
          | (refine wpList_load_any9 (by rfl) 26 _ rfl ⟨p1, 0, none⟩ rfl X1.cD _ HA2.out.1.st.part Try.underlying26 rfl HA2.out.1.dm.info ?_)
          | (refine wpList_load_any9 (by rfl) 26 _ rfl ⟨p3, 0, none⟩ rfl X3.cD _ HA2.out.2.1.st.part Try.underlying26 rfl HA2.out.2.1.dm.info ?_))
        refine HS2.out.mono ?_
        rintro e u5 ⟨rfl, v1⟩
        have HF := Lib.hid (HFw3.out u5 (HA2.out.2.2.trans (v1.mono HA2.out.2.2.size)))
        clear v1 HS2
        go_wp2_with fail
        go_ret
        exact ⟨rfl, HF.out⟩
end Go.Proofs.Ytgmcfgkjhobiaaa
