import Derived.Test.YtghhjonhmelohaaYAwk
import Derived.Test.YtghhjonhmelohaaYROf
import Derived.Test.YtghhjonhmelohaaYSame
import Derived.Test.YtghhjonhmelohaaYTexts
import Derived.Test.YtghhjonhmelohaaYRAhead
import Derived.Test.YtghhjonhmelohaaTk
namespace Go.Proofs.Ytghhjonhmelohaa
open Go.RowKit Go.Maps Go.WideElems Go.ChangeMaps Go.MapKept
set_option linter.unusedVariables false
set_option linter.unusedSimpArgs false

set_option maxHeartbeats 2000000 in
set_option maxRecDepth 100000 in
theorem lanesOf_any (n c : Nat) (a : Option Addr) (z : Nat → Int) (m c2 : Nat) (a2 : Option Addr) (A : List Tok) (q : Int) (hA : A.length = m) (hmc : m ≤ c2) (w : World) (hK : ZAt w a n z) (hT : TkAt w a2 A) :
    Calls Try.prog 3 #[.slice a n c, .slice a2 m c2, .int .i64 q] w fun e w' => e = .returned (.bool true) ∧ Below w.heap.size w w' := by
  have H := Lib.hid (And.intro hK (And.intro hT hA))
  have HW := Lib.hid (awake14_any w)
  clear hK hT hA
  go_enter Try.func3, Try.ntmps3
  go_upto_region 3 with (go_at_call 6; refine HW.out.mono ?_; rintro e w1 ⟨rfl, b1⟩)
  have H1 := Lib.hid b1
  have HF := Lib.hid (few14_any m c2 a2 A H.out.2.2 w1 (H.out.2.1.below b1))
  clear b1 HW
  go_wp2_with (go_at_call 7; refine HF.out.mono ?_)
  rintro e w2 ⟨bo, rfl, hbo, b2⟩
  have H2 := Lib.hid (H1.out.trans (b2.mono H1.out.size))
  clear b2 HF H1
  rcases bo with _ | _
  · clear hbo
    go_wp2_with fail
    go_ret
    exact ⟨rfl, H2.out⟩
  have HB := Lib.hid (hbo rfl)
  have hm60 := HB.out.1
  clear hbo
  by_cases h60 : 60 < n
  · have i1 : (60 : Int) < (n : Int) := by omega
    go_wp2_with fail
    go_ret
    exact ⟨rfl, H2.out⟩
  have i1 : ¬ ((60 : Int) < (n : Int)) := by omega
  have HSz : Hid (∀ t ∈ A, t.s.size ≤ 100000) := fun t ht => by have := HB.out.2 t ht; omega
  have HTx : Hid (∀ W, Below w.heap.size w W → Calls Try.prog 8 #[.slice a2 m c2] W (RwP 9 m (tkS A) W)) := fun W h => texts_any m c2 a2 A H.out.2.2 (by omega) HSz.out W (H.out.2.1.below h)
  have HRu : Hid (∀ W, Below w.heap.size w W → Calls Try.prog 9 #[.slice a2 m c2] W (RwP 3 m (tkR A) W)) := fun W h => lrules_any m c2 a2 A H.out.2.2 (by omega) W (H.out.2.1.below h)
  have HOf : Hid (∀ W, Below w.heap.size w W → Calls Try.prog 11 #[.slice a n c, .slice a2 m c2, .int .i64 q] W (OfP (ofF (kdF z n) q A) W)) := fun W h => lof_any n c a z m c2 a2 A q H.out.2.2 (by omega) HSz.out W (H.out.1.below h) (H.out.2.1.below h)
  have HRo : Hid (∀ W, Below w.heap.size w W → Calls Try.prog 12 #[.slice a n c, .slice a2 m c2, .int .i64 q] W (OfP (ofF (kdF z n) q A) W)) := fun W h => rof14_any n c a z m c2 a2 A q H.out.2.2 (by omega) W (H.out.1.below h) (H.out.2.1.below h)
  have hl := ofF_len (kdF z n) q A
  rw [H.out.2.2] at hl
  have Hl := Lib.hid hl
  clear hl h60
  go_upto_region 6 with (first
    | (go_at_call 8; refine (HTx.out _ H2.out).mono ?_; rintro e w3 ⟨g3, rfl, r3, b3⟩
       have H3 := Lib.hid (And.intro r3 (H2.out.trans (b3.mono H2.out.size)))
       clear r3 b3)
    | (go_at_call 9; refine (HRu.out _ H3.out.2).mono ?_; rintro e w4 ⟨g4, rfl, r4, b4⟩
       have H4 := Lib.hid (And.intro (H3.out.1.keep b4) (And.intro r4 (H3.out.2.trans (b4.mono H3.out.2.size))))
       clear r4 b4))
  have i0 : ((m : Int) != (m : Int)) = false := by simp
  go_upto_region 8 with (first
    | (go_at_call 11; refine (HOf.out _ H4.out.2.2).mono ?_; rintro e w5 ⟨a5, c5, rfl, t5, b5, _⟩
       have H5 := Lib.hid (And.intro t5 (And.intro (H4.out.1.keep b5) (And.intro (H4.out.2.1.keep b5) (H4.out.2.2.trans (b5.mono H4.out.2.2.size)))))
       clear t5 b5)
    | (go_at_call 12; refine (HRo.out _ H5.out.2.2.2).mono ?_; rintro e w6 ⟨a6, c6, rfl, t6, b6, _⟩
       have H6 := Lib.hid (And.intro (And.intro (H5.out.1.below b6) t6) (And.intro (H5.out.2.1.keep b6) (And.intro (H5.out.2.2.1.keep b6) (H5.out.2.2.2.trans (b6.mono H5.out.2.2.2.size)))))
       clear t6 b6)
    | (go_at_call 10; refine (same14_yes _ c5 c6 a5 a6 (ofF (kdF z n) q A) rfl (by have := Hl.out; omega) _ H6.out.1.1 H6.out.1.2).mono ?_; rintro e w7 ⟨rfl, b7⟩
       have H7 := Lib.hid (And.intro (H6.out.2.1.keep b7) (And.intro (H6.out.2.2.1.keep b7) (H6.out.2.2.2.trans (b7.mono H6.out.2.2.2.size))))
       clear b7))
  clear H2 H3 H4 H5 H6 HTx HRu HOf HRo Hl
  go_wp2_with fail
  go_loopw [9] (fun v wr => ∃ k : Nat, v = .int .i64 k ∧ k ≤ m ∧ Hid (RwAt wr 9 g3 m m (tkS A) ∧ RwAt wr 3 g4 m m (tkR A) ∧ Below w.heap.size w wr)) (fun v _ => m - (nV v).toNat)
  case atStart => exact ⟨0, rfl, Nat.zero_le _, H7.out⟩
  case round =>
    clear H7
    obtain ⟨k, rfl, hk, HX⟩ := hrel
    by_cases hlt : k < m
    · have hkA : k < A.length := by rw [H.out.2.2]; exact hlt
      have i2 : (k : Int) < (m : Int) := by omega
      obtain ⟨g1, o1, rfl, hg1, x0, x1, x2⟩ := (H.out.2.1.below HX.out.2.2).get k hkA
      have y3 := HX.out.1.cell hlt
      have y4 := HX.out.2.1.cell hlt
      rw [tkS_at hkA] at y3
      rw [tkR_at hkA] at y4
      have hsm := HB.out.2 A[k] (List.getElem_mem hkA)
      have l3 := HX.out.1.lt
      have l4 := HX.out.2.1.lt
      generalize A[k] = x at x0 x1 x2 y3 y4 hsm
      have HCl : Hid (∀ W', Below wr.heap.size wr W' → W'.cell? ⟨g1, o1 + k * 3, none⟩ = some (.int .i64 x.r) ∧ W'.cell? ⟨g1, o1 + k * 3 + 1, none⟩ = some (.string x.s) ∧ W'.cell? ⟨g1, o1 + k * 3 + 2, none⟩ = some (.int .i64 x.p) ∧ W'.cell? ⟨g3, k, none⟩ = some (.string x.s) ∧ W'.cell? ⟨g4, k, none⟩ = some (.int .i64 x.r)) := fun W' h =>
        ⟨(h.cell (p := ⟨g1, o1 + k * 3, none⟩) hg1).trans x0, (h.cell (p := ⟨g1, o1 + k * 3 + 1, none⟩) hg1).trans x1, (h.cell (p := ⟨g1, o1 + k * 3 + 2, none⟩) hg1).trans x2, (h.cell (p := ⟨g3, k, none⟩) l3).trans y3, (h.cell (p := ⟨g4, k, none⟩) l4).trans y4⟩
      have HKi : Hid (∀ W, Below wr.heap.size wr W → Calls Try.prog 13 #[.slice a n c, .agg #[.int .i64 x.r, .string x.s, .int .i64 x.p]] W (fun e w' => e = .returned (.int .i64 (kdF z n x.r)) ∧ Below W.heap.size W w')) := fun W h => lkind_any n c a z x W ((H.out.1.below HX.out.2.2).below h)
      have HKr : Hid (∀ W, Below wr.heap.size wr W → Calls Try.prog 14 #[.slice a n c, .agg #[.int .i64 x.r, .string x.s, .int .i64 x.p]] W (fun e w' => e = .returned (.int .i64 (kdF z n x.r)) ∧ Below W.heap.size W w')) := fun W h => rkind14_any n c a z x W ((H.out.1.below HX.out.2.2).below h)
      have HBr := Lib.hid (fun W => breaks_any x.s W)
      have HBq := Lib.hid (fun W => rbreaks14_any x.s _ rfl (by omega) W)
      clear hkA hg1 x0 x1 x2 y3 y4 hsm l3 l4
      generalize kdF z n x.r = kx at HKi HKr
      generalize bkF x.s = bx at HBr HBq
      go_wp2_with fail
      refine wp_region_held_drew (S := fun W' => Below wr.heap.size wr W') (by kernel_rfl) (Below.refl _ _).drew (fun hHeld => ?_)
      refine tkA 0 ?_ (hy := by intro wz hSw; obtain ⟨z0, z1, z2, z3, z4⟩ := HCl.out wz hSw; (try simp only [Act.put, List.setIfInBounds_toArray, List.set_cons_zero, List.set_cons_succ]); go_simp; first | done | with_reducible rfl)
      try simp only [Act.put, List.setIfInBounds_toArray, List.set_cons_zero, List.set_cons_succ]
      refine tkA 1 ?_ (hy := by intro wz hSw; obtain ⟨z0, z1, z2, z3, z4⟩ := HCl.out wz hSw; (try simp only [Act.put, List.setIfInBounds_toArray, List.set_cons_zero, List.set_cons_succ]); go_simp; first | done | with_reducible rfl)
      try simp only [Act.put, List.setIfInBounds_toArray, List.set_cons_zero, List.set_cons_succ]
      refine tkA 2 ?_ (hy := by intro wz hSw; obtain ⟨z0, z1, z2, z3, z4⟩ := HCl.out wz hSw; (try simp only [Act.put, List.setIfInBounds_toArray, List.set_cons_zero, List.set_cons_succ]); go_simp; first | done | with_reducible rfl)
      try simp only [Act.put, List.setIfInBounds_toArray, List.set_cons_zero, List.set_cons_succ]
      refine tkA 3 ?_ (hy := by intro wz hSw; obtain ⟨z0, z1, z2, z3, z4⟩ := HCl.out wz hSw; (try simp only [Act.put, List.setIfInBounds_toArray, List.set_cons_zero, List.set_cons_succ]); go_simp; first | done | with_reducible rfl)
      try simp only [Act.put, List.setIfInBounds_toArray, List.set_cons_zero, List.set_cons_succ]
      refine tkA 4 ?_ (hy := by intro wz hSw; obtain ⟨z0, z1, z2, z3, z4⟩ := HCl.out wz hSw; (try simp only [Act.put, List.setIfInBounds_toArray, List.set_cons_zero, List.set_cons_succ]); go_simp; first | done | with_reducible rfl)
      try simp only [Act.put, List.setIfInBounds_toArray, List.set_cons_zero, List.set_cons_succ]
      refine tkA 5 ?_ (hy := by intro wz hSw; obtain ⟨z0, z1, z2, z3, z4⟩ := HCl.out wz hSw; (try simp only [Act.put, List.setIfInBounds_toArray, List.set_cons_zero, List.set_cons_succ]); go_simp; first | done | with_reducible rfl)
      try simp only [Act.put, List.setIfInBounds_toArray, List.set_cons_zero, List.set_cons_succ]
      refine tkA 6 ?_ (hy := by intro wz hSw; obtain ⟨z0, z1, z2, z3, z4⟩ := HCl.out wz hSw; (try simp only [Act.put, List.setIfInBounds_toArray, List.set_cons_zero, List.set_cons_succ]); go_simp; first | done | with_reducible rfl)
      try simp only [Act.put, List.setIfInBounds_toArray, List.set_cons_zero, List.set_cons_succ]
      refine tkA 7 ?_ (hy := by intro wz hSw; obtain ⟨z0, z1, z2, z3, z4⟩ := HCl.out wz hSw; (try simp only [Act.put, List.setIfInBounds_toArray, List.set_cons_zero, List.set_cons_succ]); go_simp; first | done | with_reducible rfl)
      try simp only [Act.put, List.setIfInBounds_toArray, List.set_cons_zero, List.set_cons_succ]
      refine tkA 8 ?_ (hy := by intro wz hSw; obtain ⟨z0, z1, z2, z3, z4⟩ := HCl.out wz hSw; (try simp only [Act.put, List.setIfInBounds_toArray, List.set_cons_zero, List.set_cons_succ]); go_simp; first | done | with_reducible rfl)
      try simp only [Act.put, List.setIfInBounds_toArray, List.set_cons_zero, List.set_cons_succ]
      refine tkA 9 (v := .bool false) ?_ (hy := by intro wz hSw; obtain ⟨z0, z1, z2, z3, z4⟩ := HCl.out wz hSw; (try simp only [Act.put, List.setIfInBounds_toArray, List.set_cons_zero, List.set_cons_succ]); go_simp; first | done | with_reducible rfl)
      try simp only [Act.put, List.setIfInBounds_toArray, List.set_cons_zero, List.set_cons_succ]
      refine tkA 10 ?_ (hy := by intro wz hSw; obtain ⟨z0, z1, z2, z3, z4⟩ := HCl.out wz hSw; (try simp only [Act.put, List.setIfInBounds_toArray, List.set_cons_zero, List.set_cons_succ]); go_simp; first | done | with_reducible rfl)
      try simp only [Act.put, List.setIfInBounds_toArray, List.set_cons_zero, List.set_cons_succ]
      refine tkA 11 ?_ (hy := by intro wz hSw; obtain ⟨z0, z1, z2, z3, z4⟩ := HCl.out wz hSw; (try simp only [Act.put, List.setIfInBounds_toArray, List.set_cons_zero, List.set_cons_succ]); go_simp; first | done | with_reducible rfl)
      try simp only [Act.put, List.setIfInBounds_toArray, List.set_cons_zero, List.set_cons_succ]
      refine tkA 12 ?_ (hy := by intro wz hSw; obtain ⟨z0, z1, z2, z3, z4⟩ := HCl.out wz hSw; (try simp only [Act.put, List.setIfInBounds_toArray, List.set_cons_zero, List.set_cons_succ]); go_simp; first | done | with_reducible rfl)
      try simp only [Act.put, List.setIfInBounds_toArray, List.set_cons_zero, List.set_cons_succ]
      refine tkA 13 ?_ (hy := by intro wz hSw; obtain ⟨z0, z1, z2, z3, z4⟩ := HCl.out wz hSw; (try simp only [Act.put, List.setIfInBounds_toArray, List.set_cons_zero, List.set_cons_succ]); go_simp; first | done | with_reducible rfl)
      try simp only [Act.put, List.setIfInBounds_toArray, List.set_cons_zero, List.set_cons_succ]
      refine tkA 14 ?_ (hy := by intro wz hSw; obtain ⟨z0, z1, z2, z3, z4⟩ := HCl.out wz hSw; (try simp only [Act.put, List.setIfInBounds_toArray, List.set_cons_zero, List.set_cons_succ]); go_simp; first | done | with_reducible rfl)
      try simp only [Act.put, List.setIfInBounds_toArray, List.set_cons_zero, List.set_cons_succ]
      refine tkA 15 ?_ (hy := by intro wz hSw; obtain ⟨z0, z1, z2, z3, z4⟩ := HCl.out wz hSw; (try simp only [Act.put, List.setIfInBounds_toArray, List.set_cons_zero, List.set_cons_succ]); go_simp; first | done | with_reducible rfl)
      try simp only [Act.put, List.setIfInBounds_toArray, List.set_cons_zero, List.set_cons_succ]
      refine tkA 16 ?_ (hy := by intro wz hSw; obtain ⟨z0, z1, z2, z3, z4⟩ := HCl.out wz hSw; (try simp only [Act.put, List.setIfInBounds_toArray, List.set_cons_zero, List.set_cons_succ]); go_simp; first | done | with_reducible rfl)
      try simp only [Act.put, List.setIfInBounds_toArray, List.set_cons_zero, List.set_cons_succ]
      refine tkA 17 ?_ (hy := by intro wz hSw; obtain ⟨z0, z1, z2, z3, z4⟩ := HCl.out wz hSw; (try simp only [Act.put, List.setIfInBounds_toArray, List.set_cons_zero, List.set_cons_succ]); go_simp; first | done | with_reducible rfl)
      try simp only [Act.put, List.setIfInBounds_toArray, List.set_cons_zero, List.set_cons_succ]
      refine tkA 18 ?_ (hy := by intro wz hSw; obtain ⟨z0, z1, z2, z3, z4⟩ := HCl.out wz hSw; (try simp only [Act.put, List.setIfInBounds_toArray, List.set_cons_zero, List.set_cons_succ]); go_simp; first | done | with_reducible rfl)
      try simp only [Act.put, List.setIfInBounds_toArray, List.set_cons_zero, List.set_cons_succ]
      refine tkA 19 ?_ (hy := by intro wz hSw; obtain ⟨z0, z1, z2, z3, z4⟩ := HCl.out wz hSw; (try simp only [Act.put, List.setIfInBounds_toArray, List.set_cons_zero, List.set_cons_succ]); go_simp; first | done | with_reducible rfl)
      try simp only [Act.put, List.setIfInBounds_toArray, List.set_cons_zero, List.set_cons_succ]
      refine tkA 20 (v := .bool false) ?_ (hy := by intro wz hSw; obtain ⟨z0, z1, z2, z3, z4⟩ := HCl.out wz hSw; (try simp only [Act.put, List.setIfInBounds_toArray, List.set_cons_zero, List.set_cons_succ]); go_simp; first | done | with_reducible rfl)
      try simp only [Act.put, List.setIfInBounds_toArray, List.set_cons_zero, List.set_cons_succ]
      refine tkA 21 ?_ (hy := by intro wz hSw; obtain ⟨z0, z1, z2, z3, z4⟩ := HCl.out wz hSw; (try simp only [Act.put, List.setIfInBounds_toArray, List.set_cons_zero, List.set_cons_succ]); go_simp; first | done | with_reducible rfl)
      try simp only [Act.put, List.setIfInBounds_toArray, List.set_cons_zero, List.set_cons_succ]
      refine tkA 22 ?_ (hy := by intro wz hSw; obtain ⟨z0, z1, z2, z3, z4⟩ := HCl.out wz hSw; (try simp only [Act.put, List.setIfInBounds_toArray, List.set_cons_zero, List.set_cons_succ]); go_simp; first | done | with_reducible rfl)
      try simp only [Act.put, List.setIfInBounds_toArray, List.set_cons_zero, List.set_cons_succ]
      refine tkA 23 ?_ (hy := by intro wz hSw; obtain ⟨z0, z1, z2, z3, z4⟩ := HCl.out wz hSw; (try simp only [Act.put, List.setIfInBounds_toArray, List.set_cons_zero, List.set_cons_succ]); go_simp; first | done | with_reducible rfl)
      try simp only [Act.put, List.setIfInBounds_toArray, List.set_cons_zero, List.set_cons_succ]
      refine tkA 24 ?_ (hy := by intro wz hSw; obtain ⟨z0, z1, z2, z3, z4⟩ := HCl.out wz hSw; (try simp only [Act.put, List.setIfInBounds_toArray, List.set_cons_zero, List.set_cons_succ]); go_simp; first | done | with_reducible rfl)
      try simp only [Act.put, List.setIfInBounds_toArray, List.set_cons_zero, List.set_cons_succ]
      refine tkA 25 ?_ (hy := by intro wz hSw; obtain ⟨z0, z1, z2, z3, z4⟩ := HCl.out wz hSw; (try simp only [Act.put, List.setIfInBounds_toArray, List.set_cons_zero, List.set_cons_succ]); go_simp; first | done | with_reducible rfl)
      try simp only [Act.put, List.setIfInBounds_toArray, List.set_cons_zero, List.set_cons_succ]
      refine tkA 26 ?_ (hy := by intro wz hSw; obtain ⟨z0, z1, z2, z3, z4⟩ := HCl.out wz hSw; (try simp only [Act.put, List.setIfInBounds_toArray, List.set_cons_zero, List.set_cons_succ]); go_simp; first | done | with_reducible rfl)
      try simp only [Act.put, List.setIfInBounds_toArray, List.set_cons_zero, List.set_cons_succ]
      refine tkA 27 (v := .agg #[.int .i64 x.r, .string x.s, .int .i64 x.p]) ?_ (hy := by intro wz hSw; obtain ⟨z0, z1, z2, z3, z4⟩ := HCl.out wz hSw; (try simp only [Act.put, List.setIfInBounds_toArray, List.set_cons_zero, List.set_cons_succ]); go_simp; first | done | with_reducible rfl)
      try simp only [Act.put, List.setIfInBounds_toArray, List.set_cons_zero, List.set_cons_succ]
      refine tkA 29 ?_ (hy := by intro wz hSw; obtain ⟨z0, z1, z2, z3, z4⟩ := HCl.out wz hSw; (try simp only [Act.put, List.setIfInBounds_toArray, List.set_cons_zero, List.set_cons_succ]); go_simp; first | done | with_reducible rfl)
      try simp only [Act.put, List.setIfInBounds_toArray, List.set_cons_zero, List.set_cons_succ]
      refine tkA 30 ?_ (hy := by intro wz hSw; obtain ⟨z0, z1, z2, z3, z4⟩ := HCl.out wz hSw; (try simp only [Act.put, List.setIfInBounds_toArray, List.set_cons_zero, List.set_cons_succ]); go_simp; first | done | with_reducible rfl)
      try simp only [Act.put, List.setIfInBounds_toArray, List.set_cons_zero, List.set_cons_succ]
      refine tkA 31 ?_ (hy := by intro wz hSw; obtain ⟨z0, z1, z2, z3, z4⟩ := HCl.out wz hSw; (try simp only [Act.put, List.setIfInBounds_toArray, List.set_cons_zero, List.set_cons_succ]); go_simp; first | done | with_reducible rfl)
      try simp only [Act.put, List.setIfInBounds_toArray, List.set_cons_zero, List.set_cons_succ]
      refine tkA 32 ?_ (hy := by intro wz hSw; obtain ⟨z0, z1, z2, z3, z4⟩ := HCl.out wz hSw; (try simp only [Act.put, List.setIfInBounds_toArray, List.set_cons_zero, List.set_cons_succ]); go_simp; first | done | with_reducible rfl)
      try simp only [Act.put, List.setIfInBounds_toArray, List.set_cons_zero, List.set_cons_succ]
      refine tkA 33 (v := .agg #[.int .i64 x.r, .string x.s, .int .i64 x.p]) ?_ (hy := by intro wz hSw; obtain ⟨z0, z1, z2, z3, z4⟩ := HCl.out wz hSw; (try simp only [Act.put, List.setIfInBounds_toArray, List.set_cons_zero, List.set_cons_succ]); go_simp; first | done | with_reducible rfl)
      try simp only [Act.put, List.setIfInBounds_toArray, List.set_cons_zero, List.set_cons_succ]
      refine rd1 28 (fun K hK => ?_)
      go_simp
      go_at_call 13
      refine (HKi.out _ hHeld).mono ?_
      rintro e w8 ⟨rfl, b8⟩
      have hbn := hHeld.trans (b8.mono hHeld.size)
      clear b8 hHeld
      try go_wp2_with fail
      refine hK.out _ _ hbn (fun hHeld => ?_)
      clear hK K hbn
      try simp only [Act.put, List.setIfInBounds_toArray, List.set_cons_zero, List.set_cons_succ]
      refine rd1 34 (fun K hK => ?_)
      go_simp
      go_at_call 14
      refine (HKr.out _ hHeld).mono ?_
      rintro e w8 ⟨rfl, b8⟩
      have hbn := hHeld.trans (b8.mono hHeld.size)
      clear b8 hHeld
      try go_wp2_with fail
      refine hK.out _ _ hbn (fun hHeld => ?_)
      clear hK K hbn
      try simp only [Act.put, List.setIfInBounds_toArray, List.set_cons_zero, List.set_cons_succ]
      refine tkA 35 (v := .bool false) ?_ (hy := by intro wz hSw; obtain ⟨z0, z1, z2, z3, z4⟩ := HCl.out wz hSw; (try simp only [Act.put, List.setIfInBounds_toArray, List.set_cons_zero, List.set_cons_succ]); go_simp; first | done | with_reducible rfl)
      try simp only [Act.put, List.setIfInBounds_toArray, List.set_cons_zero, List.set_cons_succ]
      refine tkA 36 ?_ (hy := by intro wz hSw; obtain ⟨z0, z1, z2, z3, z4⟩ := HCl.out wz hSw; (try simp only [Act.put, List.setIfInBounds_toArray, List.set_cons_zero, List.set_cons_succ]); go_simp; first | done | with_reducible rfl)
      try simp only [Act.put, List.setIfInBounds_toArray, List.set_cons_zero, List.set_cons_succ]
      refine tkA 37 ?_ (hy := by intro wz hSw; obtain ⟨z0, z1, z2, z3, z4⟩ := HCl.out wz hSw; (try simp only [Act.put, List.setIfInBounds_toArray, List.set_cons_zero, List.set_cons_succ]); go_simp; first | done | with_reducible rfl)
      try simp only [Act.put, List.setIfInBounds_toArray, List.set_cons_zero, List.set_cons_succ]
      refine tkA 38 ?_ (hy := by intro wz hSw; obtain ⟨z0, z1, z2, z3, z4⟩ := HCl.out wz hSw; (try simp only [Act.put, List.setIfInBounds_toArray, List.set_cons_zero, List.set_cons_succ]); go_simp; first | done | with_reducible rfl)
      try simp only [Act.put, List.setIfInBounds_toArray, List.set_cons_zero, List.set_cons_succ]
      refine tkA 39 ?_ (hy := by intro wz hSw; obtain ⟨z0, z1, z2, z3, z4⟩ := HCl.out wz hSw; (try simp only [Act.put, List.setIfInBounds_toArray, List.set_cons_zero, List.set_cons_succ]); go_simp; first | done | with_reducible rfl)
      try simp only [Act.put, List.setIfInBounds_toArray, List.set_cons_zero, List.set_cons_succ]
      refine tkA 40 ?_ (hy := by intro wz hSw; obtain ⟨z0, z1, z2, z3, z4⟩ := HCl.out wz hSw; (try simp only [Act.put, List.setIfInBounds_toArray, List.set_cons_zero, List.set_cons_succ]); go_simp; first | done | with_reducible rfl)
      try simp only [Act.put, List.setIfInBounds_toArray, List.set_cons_zero, List.set_cons_succ]
      refine tkA 41 ?_ (hy := by intro wz hSw; obtain ⟨z0, z1, z2, z3, z4⟩ := HCl.out wz hSw; (try simp only [Act.put, List.setIfInBounds_toArray, List.set_cons_zero, List.set_cons_succ]); go_simp; first | done | with_reducible rfl)
      try simp only [Act.put, List.setIfInBounds_toArray, List.set_cons_zero, List.set_cons_succ]
      refine tkA 43 ?_ (hy := by intro wz hSw; obtain ⟨z0, z1, z2, z3, z4⟩ := HCl.out wz hSw; (try simp only [Act.put, List.setIfInBounds_toArray, List.set_cons_zero, List.set_cons_succ]); go_simp; first | done | with_reducible rfl)
      try simp only [Act.put, List.setIfInBounds_toArray, List.set_cons_zero, List.set_cons_succ]
      refine tkA 44 ?_ (hy := by intro wz hSw; obtain ⟨z0, z1, z2, z3, z4⟩ := HCl.out wz hSw; (try simp only [Act.put, List.setIfInBounds_toArray, List.set_cons_zero, List.set_cons_succ]); go_simp; first | done | with_reducible rfl)
      try simp only [Act.put, List.setIfInBounds_toArray, List.set_cons_zero, List.set_cons_succ]
      refine tkA 45 ?_ (hy := by intro wz hSw; obtain ⟨z0, z1, z2, z3, z4⟩ := HCl.out wz hSw; (try simp only [Act.put, List.setIfInBounds_toArray, List.set_cons_zero, List.set_cons_succ]); go_simp; first | done | with_reducible rfl)
      try simp only [Act.put, List.setIfInBounds_toArray, List.set_cons_zero, List.set_cons_succ]
      refine tkA 46 ?_ (hy := by intro wz hSw; obtain ⟨z0, z1, z2, z3, z4⟩ := HCl.out wz hSw; (try simp only [Act.put, List.setIfInBounds_toArray, List.set_cons_zero, List.set_cons_succ]); go_simp; first | done | with_reducible rfl)
      try simp only [Act.put, List.setIfInBounds_toArray, List.set_cons_zero, List.set_cons_succ]
      refine rd1 42 (fun K hK => ?_)
      go_simp
      go_at_call 15
      refine (HBr.out _).mono ?_
      rintro e w8 ⟨rfl, rfl⟩
      try go_wp2_with fail
      refine hK.out _ _ hHeld (fun hHeld => ?_)
      clear hK K
      try simp only [Act.put, List.setIfInBounds_toArray, List.set_cons_zero, List.set_cons_succ]
      refine rd1 47 (fun K hK => ?_)
      go_simp
      go_at_call 16
      refine (HBq.out _).mono ?_
      rintro e w8 ⟨rfl, rfl⟩
      try go_wp2_with fail
      refine hK.out _ _ hHeld (fun hHeld => ?_)
      clear hK K
      try simp only [Act.put, List.setIfInBounds_toArray, List.set_cons_zero, List.set_cons_succ]
      refine tkA 48 (v := .bool false) ?_ (hy := by intro wz hSw; obtain ⟨z0, z1, z2, z3, z4⟩ := HCl.out wz hSw; (try simp only [Act.put, List.setIfInBounds_toArray, List.set_cons_zero, List.set_cons_succ]); go_simp; first | done | with_reducible rfl)
      try simp only [Act.put, List.setIfInBounds_toArray, List.set_cons_zero, List.set_cons_succ]
      refine tkA 49 ?_ (hy := by intro wz hSw; obtain ⟨z0, z1, z2, z3, z4⟩ := HCl.out wz hSw; (try simp only [Act.put, List.setIfInBounds_toArray, List.set_cons_zero, List.set_cons_succ]); go_simp; first | done | with_reducible rfl)
      try simp only [Act.put, List.setIfInBounds_toArray, List.set_cons_zero, List.set_cons_succ]
      refine wpAnyH_done (by kernel_rfl) ?_ _
      have HE := Lib.hid (And.intro (HX.out.1.keep hHeld) (And.intro (HX.out.2.1.keep hHeld) (HX.out.2.2.trans (hHeld.mono HX.out.2.2.size))))
      clear hHeld
      go_wp2_with fail
      go_roundw
      case rel => exact ⟨k + 1, by go_num, by omega, HE.out⟩
      case measure => simp [nV]; omega
    · obtain rfl : k = m := by omega
      go_wp2_with fail
      go_ret
      exact ⟨rfl, HX.out.2.2⟩
end Go.Proofs.Ytghhjonhmelohaa
