import Derived.Test.YtghhjonhmelohaaYAwk
import Derived.Test.YtghhjonhmelohaaYSame
import Derived.Test.YtghhjonhmelohaaYRAhead
import Derived.Test.YtghhjonhmelohaaTk
namespace Go.Proofs.Ytghhjonhmelohaa
open Go.RowKit Go.Maps Go.WideElems Go.ChangeMaps Go.MapKept
set_option linter.unusedVariables false
set_option linter.unusedSimpArgs false

set_option maxHeartbeats 2000000 in
set_option maxRecDepth 100000 in
theorem lanesNotes_any (n c : Nat) (a : Option Addr) (z : Nat → Int) (m c2 : Nat) (a2 : Option Addr) (A : List Tok) (hA : A.length = m) (hmc : m ≤ c2) (w : World) (hK : ZAt w a n z) (hT : TkAt w a2 A) :
    Calls Try.prog 4 #[.slice a n c, .slice a2 m c2] w fun e w' => e = .returned (.bool true) ∧ Below w.heap.size w w' := by
  have H := Lib.hid (And.intro hK (And.intro hT hA))
  have HW := Lib.hid (awake14_any w)
  clear hK hT hA
  go_enter Try.func4, Try.ntmps4
  go_upto_region 3 with (go_at_call 6; refine HW.out.mono ?_; rintro e w1 ⟨rfl, b1⟩)
  have H1 := Lib.hid b1
  have HF := Lib.hid (few14_any m c2 a2 A H.out.2.2 w1 (H.out.2.1.below b1))
  clear b1 HW
  go_wp2_with (go_at_call 7; refine HF.out.mono ?_)
  rintro e w2 ⟨bo, rfl, hbo, b2⟩
  have H2 := Lib.hid (H1.out.trans (b2.mono H1.out.size))
  clear b2 HF H1
  rcases bo with _ | _
  · clear hbo
    go_wp2_with fail
    go_ret
    exact ⟨rfl, H2.out⟩
  have HB := Lib.hid (hbo rfl)
  have hm60 := HB.out.1
  clear hbo
  by_cases h60 : 60 < n
  · have i1 : (60 : Int) < (n : Int) := by omega
    go_wp2_with fail
    go_ret
    exact ⟨rfl, H2.out⟩
  have i1 : ¬ ((60 : Int) < (n : Int)) := by omega
  have HSz : Hid (∀ t ∈ A, t.s.size ≤ 100000) := fun t ht => by have := HB.out.2 t ht; omega
  have HNo := Lib.hid (notes_any n c a z m c2 a2 A H.out.2.2 (by omega) hmc HSz.out w2 (H.out.1.below H2.out) (H.out.2.1.below H2.out))
  have hpl := ntF_le (kdF z n) A m
  obtain ⟨p, hp⟩ : ∃ p, (ntF (kdF z n) A m).length = p := ⟨_, rfl⟩
  rw [hp] at hpl
  have Hp := Lib.hid hp
  clear h60 hp
  go_wp2_with (go_at_call 17; refine HNo.out.mono ?_)
  rintro e w3 ⟨a3, c3, rfl, hN3, b3⟩
  rw [Hp.out]
  have H3 := Lib.hid (And.intro hN3 (H2.out.trans (b3.mono H2.out.size)))
  clear hN3 b3 HNo H2
  go_wp2_with fail
  go_loopw [6, 7, 8] (fun v6 v7 v8 wr => ∃ (k q i : Nat), v6 = .int .i64 ((k : Nat) : Int) ∧ v7 = .int .i64 ((q : Nat) : Int) ∧ v8 = .int .i64 ((i : Nat) : Int) ∧ i ≤ m ∧ k ≤ i ∧ q ≤ i ∧ Hid ((ntF (kdF z n) A i).length = k ∧ ahF (kdF z n) A i = q ∧ NtAt wr a3 (ntF (kdF z n) A m) ∧ Below w.heap.size w wr)) (fun _ _ v _ => m - (nV v).toNat)
  case atStart => exact ⟨0, 0, 0, rfl, rfl, rfl, Nat.zero_le _, Nat.zero_le _, Nat.zero_le _, rfl, rfl, H3.out⟩
  case round =>
    clear H3
    obtain ⟨k, q, i, rfl, rfl, rfl, hi, hk, hq, HX⟩ := hrel
    by_cases hlt : i < m
    · have hkA : i < A.length := by rw [H.out.2.2]; exact hlt
      have i2 : (i : Int) < (m : Int) := by omega
      obtain ⟨g1, o1, rfl, hg1, x0, x1, x2⟩ := (H.out.2.1.below HX.out.2.2.2).get i hkA
      have HT0 := Lib.hid (ntF_succ0 (k := kdF z n) hkA)
      have HT2 := Lib.hid (ntF_succ2 (k := kdF z n) hkA)
      have HTN := Lib.hid (ntF_succN (k := kdF z n) hkA)
      have HAt : Hid (kdF z n A[i].r = 2 → (ntF (kdF z n) A m)[k]? = some (ntAt (kdF z n) A i A[i] q)) := fun h => by
        have h9 := ntF_at (k := kdF z n) hkA h
        rw [H.out.2.2, HX.out.1, HX.out.2.1] at h9
        exact h9
      have HBh : Hid (∀ W, Below w.heap.size w W → Calls Try.prog 19 #[.slice a n c, .slice (some ⟨g1, o1, none⟩) m c2, .int .i64 (i : Int)] W (fun e w' => e = .returned (.bool (bkF A[i].s || behF (kdF z n) (A.drop (i + 1)))) ∧ Below W.heap.size W w')) := fun W h => rbehind14_any n c a z m c2 _ A i H.out.2.2 (by omega) HSz.out hkA W (H.out.1.below h) (H.out.2.1.below h)
      have HBe : Hid (∀ W, Below w.heap.size w W → Calls Try.prog 18 #[.slice a n c, .slice (some ⟨g1, o1, none⟩) m c2, .int .i64 (i : Int)] W (fun e w' => e = .returned (.bool (befF (kdF z n) (A.take i).reverse)) ∧ Below W.heap.size W w')) := fun W h => rbefore14_any n c a z m c2 _ A i H.out.2.2 (by omega) HSz.out (by omega) W (H.out.1.below h) (H.out.2.1.below h)
      generalize A[i] = x at x0 x1 x2 HT0 HT2 HTN HAt HBh
      have HC := Lib.hid (rkind14_any n c a z x wr (H.out.1.below HX.out.2.2.2))
      have Hg := Lib.hid hg1
      clear hkA hg1
      rcases h0 : (kdF z n x.r == 0) with _ | _
      · have hn0 : ¬ kdF z n x.r = 0 := by simpa using h0
        rcases h2 : (kdF z n x.r == 2) with _ | _
        · have hn2 : ¬ kdF z n x.r = 2 := by simpa using h2
          have HE := Lib.hid (HTN.out hn0 hn2)
          clear HT0 HT2 HTN hn0 hn2 HAt
          generalize kdF z n x.r = kx at HC h0 h2
          go_wp2_with (go_at_call 14; refine HC.out.mono ?_; rintro e w4 ⟨rfl, b4⟩)
          have HR := Lib.hid (And.intro (HX.out.2.2.1.below b4) (HX.out.2.2.2.trans (b4.mono HX.out.2.2.2.size)))
          clear b4 x0 x1 x2
          go_roundw
          case rel => exact ⟨k, q, i + 1, rfl, rfl, by go_num, by omega, by omega, by omega, by rw [HE.out.1]; exact HX.out.1, by rw [HE.out.2]; exact HX.out.2.1, HR.out⟩
          case measure => simp [nV]; omega
        · have hn2 : kdF z n x.r = 2 := by simpa using h2
          have HE := Lib.hid (HT2.out hn2)
          have hat := HAt.out hn2
          clear HT0 HT2 HTN hn0 hn2 HAt
          generalize kdF z n x.r = kx at HC h0 h2
          go_upto_region 13 with (go_at_call 14; refine HC.out.mono ?_; rintro e w4 ⟨rfl, b4⟩)
          obtain ⟨g3, o3, rfl, hg3, y0, y1, y2, y3, y4, y5⟩ := (HX.out.2.2.1.below b4).get hat
          have hkp : (k : Int) < (p : Int) := by
            have := (List.getElem?_eq_some_iff.1 hat).1
            rw [Hp.out] at this
            omega
          have hkp2 : ¬ ((p : Int) ≤ (k : Int)) := by omega
          simp only [ntAt] at y0 y1 y2 y3 y4 y5
          have hg4 := Nat.lt_of_lt_of_le Hg.out b4.size
          have x0' := (b4.cell (p := ⟨g1, o1 + i * 3, none⟩) Hg.out).trans x0
          have x1' := (b4.cell (p := ⟨g1, o1 + i * 3 + 1, none⟩) Hg.out).trans x1
          have x2' := (b4.cell (p := ⟨g1, o1 + i * 3 + 2, none⟩) Hg.out).trans x2
          have HR := Lib.hid (And.intro (HX.out.2.2.1.below b4) (HX.out.2.2.2.trans (b4.mono HX.out.2.2.2.size)))
          obtain ⟨fb, hfb⟩ : ∃ fb, befF (kdF z n) (A.take i).reverse = fb := ⟨_, rfl⟩
          obtain ⟨ff, hff⟩ : ∃ ff, (bkF x.s || behF (kdF z n) (A.drop (i + 1))) = ff := ⟨_, rfl⟩
          rw [hfb] at y4
          rw [hff] at y5
          have HBh2 : Hid (∀ W, Below w4.heap.size w4 W → Calls Try.prog 19 #[.slice a n c, .slice (some ⟨g1, o1, none⟩) m c2, .int .i64 (i : Int)] W (fun e w' => e = .returned (.bool ff) ∧ Below W.heap.size W w')) := fun W h => by
            have := HBh.out W (HR.out.2.trans (h.mono HR.out.2.size))
            rw [hff] at this
            exact this
          have HBe2 : Hid (∀ W, Below w4.heap.size w4 W → Calls Try.prog 18 #[.slice a n c, .slice (some ⟨g1, o1, none⟩) m c2, .int .i64 (i : Int)] W (fun e w' => e = .returned (.bool fb) ∧ Below W.heap.size W w')) := fun W h => by
            have := HBe.out W (HR.out.2.trans (h.mono HR.out.2.size))
            rw [hfb] at this
            exact this
          have HBh := HBh2
          have HBe := HBe2
          have HCl : Hid (∀ W', Below w4.heap.size w4 W' → W'.cell? ⟨g1, o1 + i * 3, none⟩ = some (.int .i64 x.r) ∧ W'.cell? ⟨g1, o1 + i * 3 + 1, none⟩ = some (.string x.s) ∧ W'.cell? ⟨g1, o1 + i * 3 + 2, none⟩ = some (.int .i64 x.p) ∧ W'.cell? ⟨g3, o3 + k * 6, none⟩ = some (.int .i64 x.r) ∧ W'.cell? ⟨g3, o3 + k * 6 + 1, none⟩ = some (.string x.s) ∧ W'.cell? ⟨g3, o3 + k * 6 + 2, none⟩ = some (.int .i64 x.p) ∧
              W'.cell? ⟨g3, o3 + k * 6 + 3, none⟩ = some (.int .i64 ((q : Nat) : Int)) ∧ W'.cell? ⟨g3, o3 + k * 6 + 4, none⟩ = some (.bool fb) ∧ W'.cell? ⟨g3, o3 + k * 6 + 5, none⟩ = some (.bool ff)) := fun W' h =>
            ⟨(h.cell (p := ⟨g1, o1 + i * 3, none⟩) hg4).trans x0', (h.cell (p := ⟨g1, o1 + i * 3 + 1, none⟩) hg4).trans x1', (h.cell (p := ⟨g1, o1 + i * 3 + 2, none⟩) hg4).trans x2', (h.cell (p := ⟨g3, o3 + k * 6, none⟩) hg3).trans y0, (h.cell (p := ⟨g3, o3 + k * 6 + 1, none⟩) hg3).trans y1, (h.cell (p := ⟨g3, o3 + k * 6 + 2, none⟩) hg3).trans y2,
              (h.cell (p := ⟨g3, o3 + k * 6 + 3, none⟩) hg3).trans y3, (h.cell (p := ⟨g3, o3 + k * 6 + 4, none⟩) hg3).trans y4, (h.cell (p := ⟨g3, o3 + k * 6 + 5, none⟩) hg3).trans y5⟩
          clear b4 x0 x1 x2 x0' x1' x2' y0 y1 y2 y3 y4 y5 hg3 hg4 hat HC hfb hff HBh2 HBe2
          refine wp_region_held_drew (S := fun W' => Below w4.heap.size w4 W') (by kernel_rfl) (Below.refl _ _).drew (fun hHeld => ?_)
          refine tkA 0 ?_ (hy := by intro wz hSw; obtain ⟨z0, z1, z2, z3, z4, z5, z6, z7, z8⟩ := HCl.out wz hSw; (try simp only [Act.put, List.setIfInBounds_toArray, List.set_cons_zero, List.set_cons_succ]); go_simp; first | done | with_reducible rfl)
          try simp only [Act.put, List.setIfInBounds_toArray, List.set_cons_zero, List.set_cons_succ]
          refine tkA 1 ?_ (hy := by intro wz hSw; obtain ⟨z0, z1, z2, z3, z4, z5, z6, z7, z8⟩ := HCl.out wz hSw; (try simp only [Act.put, List.setIfInBounds_toArray, List.set_cons_zero, List.set_cons_succ]); go_simp; first | done | with_reducible rfl)
          try simp only [Act.put, List.setIfInBounds_toArray, List.set_cons_zero, List.set_cons_succ]
          refine tkA 2 ?_ (hy := by intro wz hSw; obtain ⟨z0, z1, z2, z3, z4, z5, z6, z7, z8⟩ := HCl.out wz hSw; (try simp only [Act.put, List.setIfInBounds_toArray, List.set_cons_zero, List.set_cons_succ]); go_simp; first | done | with_reducible rfl)
          try simp only [Act.put, List.setIfInBounds_toArray, List.set_cons_zero, List.set_cons_succ]
          refine tkA 3 (v := .bool false) ?_ (hy := by intro wz hSw; obtain ⟨z0, z1, z2, z3, z4, z5, z6, z7, z8⟩ := HCl.out wz hSw; (try simp only [Act.put, List.setIfInBounds_toArray, List.set_cons_zero, List.set_cons_succ]); go_simp; first | done | with_reducible rfl)
          try simp only [Act.put, List.setIfInBounds_toArray, List.set_cons_zero, List.set_cons_succ]
          refine tkA 4 ?_ (hy := by intro wz hSw; obtain ⟨z0, z1, z2, z3, z4, z5, z6, z7, z8⟩ := HCl.out wz hSw; (try simp only [Act.put, List.setIfInBounds_toArray, List.set_cons_zero, List.set_cons_succ]); go_simp; first | done | with_reducible rfl)
          try simp only [Act.put, List.setIfInBounds_toArray, List.set_cons_zero, List.set_cons_succ]
          refine tkA 5 ?_ (hy := by intro wz hSw; obtain ⟨z0, z1, z2, z3, z4, z5, z6, z7, z8⟩ := HCl.out wz hSw; (try simp only [Act.put, List.setIfInBounds_toArray, List.set_cons_zero, List.set_cons_succ]); go_simp; first | done | with_reducible rfl)
          try simp only [Act.put, List.setIfInBounds_toArray, List.set_cons_zero, List.set_cons_succ]
          refine tkA 6 ?_ (hy := by intro wz hSw; obtain ⟨z0, z1, z2, z3, z4, z5, z6, z7, z8⟩ := HCl.out wz hSw; (try simp only [Act.put, List.setIfInBounds_toArray, List.set_cons_zero, List.set_cons_succ]); go_simp; first | done | with_reducible rfl)
          try simp only [Act.put, List.setIfInBounds_toArray, List.set_cons_zero, List.set_cons_succ]
          refine tkA 7 ?_ (hy := by intro wz hSw; obtain ⟨z0, z1, z2, z3, z4, z5, z6, z7, z8⟩ := HCl.out wz hSw; (try simp only [Act.put, List.setIfInBounds_toArray, List.set_cons_zero, List.set_cons_succ]); go_simp; first | done | with_reducible rfl)
          try simp only [Act.put, List.setIfInBounds_toArray, List.set_cons_zero, List.set_cons_succ]
          refine tkA 8 ?_ (hy := by intro wz hSw; obtain ⟨z0, z1, z2, z3, z4, z5, z6, z7, z8⟩ := HCl.out wz hSw; (try simp only [Act.put, List.setIfInBounds_toArray, List.set_cons_zero, List.set_cons_succ]); go_simp; first | done | with_reducible rfl)
          try simp only [Act.put, List.setIfInBounds_toArray, List.set_cons_zero, List.set_cons_succ]
          refine tkA 9 (v := .agg #[.int .i64 x.r, .string x.s, .int .i64 x.p]) ?_ (hy := by intro wz hSw; obtain ⟨z0, z1, z2, z3, z4, z5, z6, z7, z8⟩ := HCl.out wz hSw; (try simp only [Act.put, List.setIfInBounds_toArray, List.set_cons_zero, List.set_cons_succ]); go_simp; first | done | with_reducible rfl)
          try simp only [Act.put, List.setIfInBounds_toArray, List.set_cons_zero, List.set_cons_succ]
          refine tkA 10 ?_ (hy := by intro wz hSw; obtain ⟨z0, z1, z2, z3, z4, z5, z6, z7, z8⟩ := HCl.out wz hSw; (try simp only [Act.put, List.setIfInBounds_toArray, List.set_cons_zero, List.set_cons_succ]); go_simp; first | done | with_reducible rfl)
          try simp only [Act.put, List.setIfInBounds_toArray, List.set_cons_zero, List.set_cons_succ]
          refine tkA 11 ?_ (hy := by intro wz hSw; obtain ⟨z0, z1, z2, z3, z4, z5, z6, z7, z8⟩ := HCl.out wz hSw; (try simp only [Act.put, List.setIfInBounds_toArray, List.set_cons_zero, List.set_cons_succ]); go_simp; first | done | with_reducible rfl)
          try simp only [Act.put, List.setIfInBounds_toArray, List.set_cons_zero, List.set_cons_succ]
          refine tkA 12 ?_ (hy := by intro wz hSw; obtain ⟨z0, z1, z2, z3, z4, z5, z6, z7, z8⟩ := HCl.out wz hSw; (try simp only [Act.put, List.setIfInBounds_toArray, List.set_cons_zero, List.set_cons_succ]); go_simp; first | done | with_reducible rfl)
          try simp only [Act.put, List.setIfInBounds_toArray, List.set_cons_zero, List.set_cons_succ]
          refine tkA 13 (v := .agg #[.int .i64 x.r, .string x.s, .int .i64 x.p]) ?_ (hy := by intro wz hSw; obtain ⟨z0, z1, z2, z3, z4, z5, z6, z7, z8⟩ := HCl.out wz hSw; (try simp only [Act.put, List.setIfInBounds_toArray, List.set_cons_zero, List.set_cons_succ]); go_simp; first | done | with_reducible rfl)
          try simp only [Act.put, List.setIfInBounds_toArray, List.set_cons_zero, List.set_cons_succ]
          refine tkA 14 (v := .bool false) ?_ (hy := by intro wz hSw; obtain ⟨z0, z1, z2, z3, z4, z5, z6, z7, z8⟩ := HCl.out wz hSw; (try simp only [Act.put, List.setIfInBounds_toArray, List.set_cons_zero, List.set_cons_succ]); go_simp; first | done | with_reducible rfl)
          try simp only [Act.put, List.setIfInBounds_toArray, List.set_cons_zero, List.set_cons_succ]
          refine tkA 15 ?_ (hy := by intro wz hSw; obtain ⟨z0, z1, z2, z3, z4, z5, z6, z7, z8⟩ := HCl.out wz hSw; (try simp only [Act.put, List.setIfInBounds_toArray, List.set_cons_zero, List.set_cons_succ]); go_simp; first | done | with_reducible rfl)
          try simp only [Act.put, List.setIfInBounds_toArray, List.set_cons_zero, List.set_cons_succ]
          refine tkA 16 ?_ (hy := by intro wz hSw; obtain ⟨z0, z1, z2, z3, z4, z5, z6, z7, z8⟩ := HCl.out wz hSw; (try simp only [Act.put, List.setIfInBounds_toArray, List.set_cons_zero, List.set_cons_succ]); go_simp; first | done | with_reducible rfl)
          try simp only [Act.put, List.setIfInBounds_toArray, List.set_cons_zero, List.set_cons_succ]
          refine tkA 17 ?_ (hy := by intro wz hSw; obtain ⟨z0, z1, z2, z3, z4, z5, z6, z7, z8⟩ := HCl.out wz hSw; (try simp only [Act.put, List.setIfInBounds_toArray, List.set_cons_zero, List.set_cons_succ]); go_simp; first | done | with_reducible rfl)
          try simp only [Act.put, List.setIfInBounds_toArray, List.set_cons_zero, List.set_cons_succ]
          refine tkA 18 ?_ (hy := by intro wz hSw; obtain ⟨z0, z1, z2, z3, z4, z5, z6, z7, z8⟩ := HCl.out wz hSw; (try simp only [Act.put, List.setIfInBounds_toArray, List.set_cons_zero, List.set_cons_succ]); go_simp; first | done | with_reducible rfl)
          try simp only [Act.put, List.setIfInBounds_toArray, List.set_cons_zero, List.set_cons_succ]
          refine tkA 19 ?_ (hy := by intro wz hSw; obtain ⟨z0, z1, z2, z3, z4, z5, z6, z7, z8⟩ := HCl.out wz hSw; (try simp only [Act.put, List.setIfInBounds_toArray, List.set_cons_zero, List.set_cons_succ]); go_simp; first | done | with_reducible rfl)
          try simp only [Act.put, List.setIfInBounds_toArray, List.set_cons_zero, List.set_cons_succ]
          refine tkA 20 ?_ (hy := by intro wz hSw; obtain ⟨z0, z1, z2, z3, z4, z5, z6, z7, z8⟩ := HCl.out wz hSw; (try simp only [Act.put, List.setIfInBounds_toArray, List.set_cons_zero, List.set_cons_succ]); go_simp; first | done | with_reducible rfl)
          try simp only [Act.put, List.setIfInBounds_toArray, List.set_cons_zero, List.set_cons_succ]
          refine tkA 21 ?_ (hy := by intro wz hSw; obtain ⟨z0, z1, z2, z3, z4, z5, z6, z7, z8⟩ := HCl.out wz hSw; (try simp only [Act.put, List.setIfInBounds_toArray, List.set_cons_zero, List.set_cons_succ]); go_simp; first | done | with_reducible rfl)
          try simp only [Act.put, List.setIfInBounds_toArray, List.set_cons_zero, List.set_cons_succ]
          refine tkA 22 ?_ (hy := by intro wz hSw; obtain ⟨z0, z1, z2, z3, z4, z5, z6, z7, z8⟩ := HCl.out wz hSw; (try simp only [Act.put, List.setIfInBounds_toArray, List.set_cons_zero, List.set_cons_succ]); go_simp; first | done | with_reducible rfl)
          try simp only [Act.put, List.setIfInBounds_toArray, List.set_cons_zero, List.set_cons_succ]
          refine tkA 23 (v := .bool false) ?_ (hy := by intro wz hSw; obtain ⟨z0, z1, z2, z3, z4, z5, z6, z7, z8⟩ := HCl.out wz hSw; (try simp only [Act.put, List.setIfInBounds_toArray, List.set_cons_zero, List.set_cons_succ]); go_simp; first | done | with_reducible rfl)
          try simp only [Act.put, List.setIfInBounds_toArray, List.set_cons_zero, List.set_cons_succ]
          refine tkA 24 ?_ (hy := by intro wz hSw; obtain ⟨z0, z1, z2, z3, z4, z5, z6, z7, z8⟩ := HCl.out wz hSw; (try simp only [Act.put, List.setIfInBounds_toArray, List.set_cons_zero, List.set_cons_succ]); go_simp; first | done | with_reducible rfl)
          try simp only [Act.put, List.setIfInBounds_toArray, List.set_cons_zero, List.set_cons_succ]
          refine tkA 25 ?_ (hy := by intro wz hSw; obtain ⟨z0, z1, z2, z3, z4, z5, z6, z7, z8⟩ := HCl.out wz hSw; (try simp only [Act.put, List.setIfInBounds_toArray, List.set_cons_zero, List.set_cons_succ]); go_simp; first | done | with_reducible rfl)
          try simp only [Act.put, List.setIfInBounds_toArray, List.set_cons_zero, List.set_cons_succ]
          refine tkA 26 ?_ (hy := by intro wz hSw; obtain ⟨z0, z1, z2, z3, z4, z5, z6, z7, z8⟩ := HCl.out wz hSw; (try simp only [Act.put, List.setIfInBounds_toArray, List.set_cons_zero, List.set_cons_succ]); go_simp; first | done | with_reducible rfl)
          try simp only [Act.put, List.setIfInBounds_toArray, List.set_cons_zero, List.set_cons_succ]
          refine tkA 27 ?_ (hy := by intro wz hSw; obtain ⟨z0, z1, z2, z3, z4, z5, z6, z7, z8⟩ := HCl.out wz hSw; (try simp only [Act.put, List.setIfInBounds_toArray, List.set_cons_zero, List.set_cons_succ]); go_simp; first | done | with_reducible rfl)
          try simp only [Act.put, List.setIfInBounds_toArray, List.set_cons_zero, List.set_cons_succ]
          refine tkA 28 ?_ (hy := by intro wz hSw; obtain ⟨z0, z1, z2, z3, z4, z5, z6, z7, z8⟩ := HCl.out wz hSw; (try simp only [Act.put, List.setIfInBounds_toArray, List.set_cons_zero, List.set_cons_succ]); go_simp; first | done | with_reducible rfl)
          try simp only [Act.put, List.setIfInBounds_toArray, List.set_cons_zero, List.set_cons_succ]
          refine tkA 29 ?_ (hy := by intro wz hSw; obtain ⟨z0, z1, z2, z3, z4, z5, z6, z7, z8⟩ := HCl.out wz hSw; (try simp only [Act.put, List.setIfInBounds_toArray, List.set_cons_zero, List.set_cons_succ]); go_simp; first | done | with_reducible rfl)
          try simp only [Act.put, List.setIfInBounds_toArray, List.set_cons_zero, List.set_cons_succ]
          refine tkA 30 ?_ (hy := by intro wz hSw; obtain ⟨z0, z1, z2, z3, z4, z5, z6, z7, z8⟩ := HCl.out wz hSw; (try simp only [Act.put, List.setIfInBounds_toArray, List.set_cons_zero, List.set_cons_succ]); go_simp; first | done | with_reducible rfl)
          try simp only [Act.put, List.setIfInBounds_toArray, List.set_cons_zero, List.set_cons_succ]
          refine tkA 31 ?_ (hy := by intro wz hSw; obtain ⟨z0, z1, z2, z3, z4, z5, z6, z7, z8⟩ := HCl.out wz hSw; (try simp only [Act.put, List.setIfInBounds_toArray, List.set_cons_zero, List.set_cons_succ]); go_simp; first | done | with_reducible rfl)
          try simp only [Act.put, List.setIfInBounds_toArray, List.set_cons_zero, List.set_cons_succ]
          refine tkA 32 ?_ (hy := by intro wz hSw; obtain ⟨z0, z1, z2, z3, z4, z5, z6, z7, z8⟩ := HCl.out wz hSw; (try simp only [Act.put, List.setIfInBounds_toArray, List.set_cons_zero, List.set_cons_succ]); go_simp; first | done | with_reducible rfl)
          try simp only [Act.put, List.setIfInBounds_toArray, List.set_cons_zero, List.set_cons_succ]
          refine tkA 33 ?_ (hy := by intro wz hSw; obtain ⟨z0, z1, z2, z3, z4, z5, z6, z7, z8⟩ := HCl.out wz hSw; (try simp only [Act.put, List.setIfInBounds_toArray, List.set_cons_zero, List.set_cons_succ]); go_simp; first | done | with_reducible rfl)
          try simp only [Act.put, List.setIfInBounds_toArray, List.set_cons_zero, List.set_cons_succ]
          refine rd1 34 (fun K hK => ?_)
          go_simp
          go_at_call 18
          refine (HBe.out _ hHeld).mono ?_
          rintro e w8 ⟨rfl, b8⟩
          have hbn := hHeld.trans (b8.mono hHeld.size)
          clear b8 hHeld
          try go_wp2_with fail
          refine hK.out _ _ hbn (fun hHeld => ?_)
          clear hK K hbn
          try simp only [Act.put, List.setIfInBounds_toArray, List.set_cons_zero, List.set_cons_succ]
          refine tkA 35 (v := .bool false) ?_ (hy := by intro wz hSw; obtain ⟨z0, z1, z2, z3, z4, z5, z6, z7, z8⟩ := HCl.out wz hSw; (try simp only [Act.put, List.setIfInBounds_toArray, List.set_cons_zero, List.set_cons_succ]); go_simp; first | done | with_reducible rfl)
          try simp only [Act.put, List.setIfInBounds_toArray, List.set_cons_zero, List.set_cons_succ]
          refine tkA 36 ?_ (hy := by intro wz hSw; obtain ⟨z0, z1, z2, z3, z4, z5, z6, z7, z8⟩ := HCl.out wz hSw; (try simp only [Act.put, List.setIfInBounds_toArray, List.set_cons_zero, List.set_cons_succ]); go_simp; first | done | with_reducible rfl)
          try simp only [Act.put, List.setIfInBounds_toArray, List.set_cons_zero, List.set_cons_succ]
          refine tkA 37 ?_ (hy := by intro wz hSw; obtain ⟨z0, z1, z2, z3, z4, z5, z6, z7, z8⟩ := HCl.out wz hSw; (try simp only [Act.put, List.setIfInBounds_toArray, List.set_cons_zero, List.set_cons_succ]); go_simp; first | done | with_reducible rfl)
          try simp only [Act.put, List.setIfInBounds_toArray, List.set_cons_zero, List.set_cons_succ]
          refine tkA 38 ?_ (hy := by intro wz hSw; obtain ⟨z0, z1, z2, z3, z4, z5, z6, z7, z8⟩ := HCl.out wz hSw; (try simp only [Act.put, List.setIfInBounds_toArray, List.set_cons_zero, List.set_cons_succ]); go_simp; first | done | with_reducible rfl)
          try simp only [Act.put, List.setIfInBounds_toArray, List.set_cons_zero, List.set_cons_succ]
          refine tkA 39 ?_ (hy := by intro wz hSw; obtain ⟨z0, z1, z2, z3, z4, z5, z6, z7, z8⟩ := HCl.out wz hSw; (try simp only [Act.put, List.setIfInBounds_toArray, List.set_cons_zero, List.set_cons_succ]); go_simp; first | done | with_reducible rfl)
          try simp only [Act.put, List.setIfInBounds_toArray, List.set_cons_zero, List.set_cons_succ]
          refine tkA 40 ?_ (hy := by intro wz hSw; obtain ⟨z0, z1, z2, z3, z4, z5, z6, z7, z8⟩ := HCl.out wz hSw; (try simp only [Act.put, List.setIfInBounds_toArray, List.set_cons_zero, List.set_cons_succ]); go_simp; first | done | with_reducible rfl)
          try simp only [Act.put, List.setIfInBounds_toArray, List.set_cons_zero, List.set_cons_succ]
          refine tkA 41 ?_ (hy := by intro wz hSw; obtain ⟨z0, z1, z2, z3, z4, z5, z6, z7, z8⟩ := HCl.out wz hSw; (try simp only [Act.put, List.setIfInBounds_toArray, List.set_cons_zero, List.set_cons_succ]); go_simp; first | done | with_reducible rfl)
          try simp only [Act.put, List.setIfInBounds_toArray, List.set_cons_zero, List.set_cons_succ]
          refine tkA 42 ?_ (hy := by intro wz hSw; obtain ⟨z0, z1, z2, z3, z4, z5, z6, z7, z8⟩ := HCl.out wz hSw; (try simp only [Act.put, List.setIfInBounds_toArray, List.set_cons_zero, List.set_cons_succ]); go_simp; first | done | with_reducible rfl)
          try simp only [Act.put, List.setIfInBounds_toArray, List.set_cons_zero, List.set_cons_succ]
          refine tkA 43 ?_ (hy := by intro wz hSw; obtain ⟨z0, z1, z2, z3, z4, z5, z6, z7, z8⟩ := HCl.out wz hSw; (try simp only [Act.put, List.setIfInBounds_toArray, List.set_cons_zero, List.set_cons_succ]); go_simp; first | done | with_reducible rfl)
          try simp only [Act.put, List.setIfInBounds_toArray, List.set_cons_zero, List.set_cons_succ]
          refine tkA 44 ?_ (hy := by intro wz hSw; obtain ⟨z0, z1, z2, z3, z4, z5, z6, z7, z8⟩ := HCl.out wz hSw; (try simp only [Act.put, List.setIfInBounds_toArray, List.set_cons_zero, List.set_cons_succ]); go_simp; first | done | with_reducible rfl)
          try simp only [Act.put, List.setIfInBounds_toArray, List.set_cons_zero, List.set_cons_succ]
          refine tkA 45 ?_ (hy := by intro wz hSw; obtain ⟨z0, z1, z2, z3, z4, z5, z6, z7, z8⟩ := HCl.out wz hSw; (try simp only [Act.put, List.setIfInBounds_toArray, List.set_cons_zero, List.set_cons_succ]); go_simp; first | done | with_reducible rfl)
          try simp only [Act.put, List.setIfInBounds_toArray, List.set_cons_zero, List.set_cons_succ]
          refine rd1 46 (fun K hK => ?_)
          go_simp
          go_at_call 19
          refine (HBh.out _ hHeld).mono ?_
          rintro e w8 ⟨rfl, b8⟩
          have hbn := hHeld.trans (b8.mono hHeld.size)
          clear b8 hHeld
          try go_wp2_with fail
          refine hK.out _ _ hbn (fun hHeld => ?_)
          clear hK K hbn
          try simp only [Act.put, List.setIfInBounds_toArray, List.set_cons_zero, List.set_cons_succ]
          refine tkA 47 (v := .bool false) ?_ (hy := by intro wz hSw; obtain ⟨z0, z1, z2, z3, z4, z5, z6, z7, z8⟩ := HCl.out wz hSw; (try simp only [Act.put, List.setIfInBounds_toArray, List.set_cons_zero, List.set_cons_succ]); go_simp; first | done | with_reducible rfl)
          try simp only [Act.put, List.setIfInBounds_toArray, List.set_cons_zero, List.set_cons_succ]
          refine tkA 48 ?_ (hy := by intro wz hSw; obtain ⟨z0, z1, z2, z3, z4, z5, z6, z7, z8⟩ := HCl.out wz hSw; (try simp only [Act.put, List.setIfInBounds_toArray, List.set_cons_zero, List.set_cons_succ]); go_simp; first | done | with_reducible rfl)
          try simp only [Act.put, List.setIfInBounds_toArray, List.set_cons_zero, List.set_cons_succ]
          refine wpAnyH_done (by kernel_rfl) ?_ _
          have HR9 := Lib.hid (And.intro (HR.out.1.below hHeld) (HR.out.2.trans (hHeld.mono HR.out.2.size)))
          clear hHeld
          go_wp2_with fail
          go_roundw
          case rel => exact ⟨k + 1, q, i + 1, by go_num, rfl, by go_num, by omega, by omega, by omega, by rw [HE.out.1, List.length_append, HX.out.1]; rfl, by rw [HE.out.2]; exact HX.out.2.1, HR9.out⟩
          case measure => simp [nV]; omega
      · have hn0 : kdF z n x.r = 0 := by simpa using h0
        have HE := Lib.hid (HT0.out hn0)
        clear HT0 HT2 HTN hn0 HAt
        generalize kdF z n x.r = kx at HC h0
        go_wp2_with (go_at_call 14; refine HC.out.mono ?_; rintro e w4 ⟨rfl, b4⟩)
        have HR := Lib.hid (And.intro (HX.out.2.2.1.below b4) (HX.out.2.2.2.trans (b4.mono HX.out.2.2.2.size)))
        clear b4 x0 x1 x2
        go_roundw
        case rel => exact ⟨k, q + 1, i + 1, rfl, by go_num, by go_num, by omega, by omega, by omega, by rw [HE.out.1]; exact HX.out.1, by rw [HE.out.2, HX.out.2.1], HR.out⟩
        case measure => simp [nV]; omega
    · obtain rfl : i = m := by omega
      obtain rfl : p = k := by rw [← Hp.out]; exact HX.out.1
      go_wp2_with fail
      go_ret
      exact ⟨by simp, HX.out.2.2.2⟩
end Go.Proofs.Ytghhjonhmelohaa
