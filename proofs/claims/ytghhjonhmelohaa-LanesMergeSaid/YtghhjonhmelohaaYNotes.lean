import Derived.Test.YtghhjonhmelohaaYPart
import Derived.Test.YtghhjonhmelohaaYOf
import Derived.Test.YtghhjonhmelohaaYNtAt
import Derived.Test.YtghhjonhmelohaaTk
namespace Go.Proofs.Ytghhjonhmelohaa
open Go.RowKit Go.Maps Go.WideElems Go.ChangeMaps Go.MapKept
set_option linter.unusedVariables false
set_option linter.unusedSimpArgs false

/-- Notes are told. -/
def NtP (L : List Nt) (w : World) (e : Ending) (w' : World) : Prop := ∃ (a : Option Addr) (c : Nat), e = .returned (.slice a L.length c) ∧ NtAt w' a L ∧ Below w.heap.size w w'
/-- A row's block is no box of another type. -/
theorem bl_ne {W : World} {t g : Nat} {cs : Array Value} (h : Bl W t g cs) {base e size n : Nat} {v : Value} {xs : List Value} (hr : W.ownsRow base e size v n xs) (hte : t ≠ e) : some g ≠ v.ownBlock := by
  rcases hr.2 with ⟨rfl, _⟩ | ⟨g', cap, cur, rfl, _, hgb, _⟩
  · simp [Value.ownBlock]
  · intro e'
    obtain rfl : g = g' := by simpa [Value.ownBlock] using e'
    have := (show W.heap[g]? = _ from h).symm.trans hgb
    simp at this
    exact hte this.2
theorem ntF_succ0 {k : Int → Int} {l : List Tok} {i : Nat} (h : i < l.length) (h0 : k l[i].r = 0) : ntF k l (i + 1) = ntF k l i ∧ ahF k l (i + 1) = ahF k l i + 1 := by
  constructor
  · rw [ntF, dif_pos h, if_neg (by rw [h0]; decide)]
  · rw [ahF, dif_pos h, if_pos h0]
theorem ntF_succ2 {k : Int → Int} {l : List Tok} {i : Nat} (h : i < l.length) (h2 : k l[i].r = 2) : ntF k l (i + 1) = ntF k l i ++ [ntAt k l i l[i] (ahF k l i)] ∧ ahF k l (i + 1) = ahF k l i := by
  constructor
  · rw [ntF, dif_pos h, if_pos h2]
  · rw [ahF, dif_pos h, if_neg (by rw [h2]; decide)]
theorem ntF_succN {k : Int → Int} {l : List Tok} {i : Nat} (h : i < l.length) (h0 : ¬ k l[i].r = 0) (h2 : ¬ k l[i].r = 2) : ntF k l (i + 1) = ntF k l i ∧ ahF k l (i + 1) = ahF k l i := by
  constructor
  · rw [ntF, dif_pos h, if_neg h2]
  · rw [ahF, dif_pos h, if_neg h0]

set_option maxHeartbeats 2000000 in
set_option maxRecDepth 100000 in
theorem notes_any (n c : Nat) (a : Option Addr) (z : Nat → Int) (m c2 : Nat) (a2 : Option Addr) (A : List Tok) (hA : A.length = m) (hm : m ≤ 100000) (hmc : m ≤ c2) (hs : ∀ t ∈ A, t.s.size ≤ 100000) (w : World) (hK : ZAt w a n z) (hT : TkAt w a2 A) :
    Calls Try.prog 17 #[.slice a n c, .slice a2 m c2] w (NtP (ntF (kdF z n) A m) w) := by
  have H := Lib.hid (And.intro hK (And.intro hT (And.intro hA hs)))
  obtain ⟨iT, hiT, hT0, hT1, hT2⟩ := info_parts Try.info_note
  clear hK hT hA hs
  go_enter Try.func17, Try.ntmps17
  go_wp2_with fail
  go_loopw [5, 6, 7, 8, 11] (fun v5 v6 _ _ v11 wr => ∃ (k p q : Nat) (b : Option Addr) (d : Nat), v5 = .slice b p d ∧ v6 = .int .i64 ((q : Nat) : Int) ∧ v11 = .int .i64 k ∧ k ≤ m ∧ p ≤ k ∧ q ≤ k ∧ Hid ((ntF (kdF z n) A k).length = p ∧ ahF (kdF z n) A k = q ∧ wr.ownsRow w.heap.size 39 6 (.slice b p d) p (nts (ntF (kdF z n) A k)) ∧ Below w.heap.size w wr)) (fun _ _ _ _ v _ => m - (nV v).toNat)
  case atStart => exact ⟨0, 0, 0, none, 0, rfl, rfl, rfl, Nat.zero_le _, Nat.zero_le _, Nat.zero_le _, rfl, rfl, World.ownsRow_nil _ _ _ _, Below.refl _ _⟩
  case round =>
    obtain ⟨k, p, q, b, d, rfl, rfl, rfl, hk, hp, hq, HX⟩ := hrel
    by_cases hlt : k < m
    · have hkA : k < A.length := by rw [H.out.2.2.1]; exact hlt
      obtain ⟨g1, o1, rfl, _, x0, x1, x2⟩ := (H.out.2.1.below HX.out.2.2.2).get k hkA
      have HT0 := Lib.hid (ntF_succ0 (k := kdF z n) hkA)
      have HT2 := Lib.hid (ntF_succ2 (k := kdF z n) hkA)
      have HTN := Lib.hid (ntF_succN (k := kdF z n) hkA)
      have hsm := H.out.2.2.2 A[k] (List.getElem_mem hkA)
      have i1 : (k : Int) < (m : Int) := by omega
      generalize A[k] = x at x0 x1 x2 HT0 HT2 HTN hsm
      have HC := Lib.hid (fun W h => lkind_any n c a z x W h)
      have HO := Lib.hid (fun W => own_any x hsm W)
      have k1 := al wr (.cells #[.int .i64 x.r, .string x.s, .int .i64 x.p] 32)
      have hz := HX.out.2.2.2.size
      have H1 : Hid (Bl (wr.alloc (.cells #[.int .i64 x.r, .string x.s, .int .i64 x.p] 32)) 32 wr.heap.size #[.int .i64 x.r, .string x.s, .int .i64 x.p] ∧ (wr.alloc (.cells #[.int .i64 x.r, .string x.s, .int .i64 x.p] 32)).ownsRow w.heap.size 39 6 (.slice b p d) p (nts (ntF (kdF z n) A k)) ∧ Below w.heap.size w (wr.alloc (.cells #[.int .i64 x.r, .string x.s, .int .i64 x.p] 32))) :=
        ⟨Bl.new _ _ _, ownsRow_keep HX.out.2.2.1 k1, HX.out.2.2.2.trans (k1.mono hz)⟩
      have hkz := H.out.1.below H1.out.2.2
      have Hk := Lib.hid hkA
      clear k1 hkA hsm
      rcases h0 : (kdF z n x.r == 0) with _ | _
      · have hn0 : ¬ kdF z n x.r = 0 := by simpa using h0
        rcases h2 : (kdF z n x.r == 2) with _ | _
        · have hn2 : ¬ kdF z n x.r = 2 := by simpa using h2
          have HE := Lib.hid (HTN.out hn0 hn2)
          clear HT0 HT2 HTN hn0 hn2 HO
          generalize kdF z n x.r = kx at HC h0 h2
          go_wp2_with (go_at_call 13; refine (HC.out _ hkz).mono ?_; rintro e w2 ⟨rfl, b2⟩)
          have HR := Lib.hid (And.intro (ownsRow_keep H1.out.2.1 b2) (H1.out.2.2.trans (b2.mono H1.out.2.2.size)))
          clear b2 hkz x0 x1 x2
          go_roundw
          case rel => exact ⟨k + 1, p, q, b, d, rfl, rfl, by go_num, by omega, by omega, by omega, by rw [HE.out.1]; exact HX.out.1, by rw [HE.out.2]; exact HX.out.2.1, by rw [HE.out.1]; exact HR.out.1, HR.out.2⟩
          case measure => simp [nV]; omega
        · have hn2 : kdF z n x.r = 2 := by simpa using h2
          have HE := Lib.hid (HT2.out hn2)
          clear HT0 HT2 HTN hn0 hn2
          generalize kdF z n x.r = kx at HC h0 h2
          go_upto_region 10 with (go_at_call 13; refine (HC.out _ hkz).mono ?_; rintro e w2 ⟨rfl, b2⟩)
          -- REGION 10
          have H2 := Lib.hid (And.intro (H1.out.1.below b2 H1.out.1.lt) (And.intro (ownsRow_keep H1.out.2.1 b2) (H1.out.2.2.trans (b2.mono H1.out.2.2.size))))
          clear b2 hkz x0 x1 x2 HC
          have HSo : Hid (∀ W' : World, Bl W' 32 wr.heap.size #[.int .i64 x.r, .string x.s, .int .i64 x.p] → W'.cell? ⟨wr.heap.size, 0, none⟩ = some (.int .i64 x.r) ∧ W'.cell? ⟨wr.heap.size, 1, none⟩ = some (.string x.s) ∧ W'.cell? ⟨wr.heap.size, 2, none⟩ = some (.int .i64 x.p)) := fun W' h => tk_box h
          have HPa : Hid (∀ W, Below w.heap.size w W → Calls Try.prog 24 #[.slice a n c, .slice (some ⟨g1, o1, none⟩) k c2] W fun e w' => e = .returned (.bool (befF (kdF z n) (A.take k).reverse)) ∧ Below W.heap.size W w') := fun W h => parted_any n c a z k c2 _ (A.take k) (by rw [List.length_take]; have := Hk.out; omega) (by omega) W (H.out.1.below h) ((H.out.2.1.below h).take k)
          have HBr := Lib.hid (fun W => breaks_any x.s W)
          have hkc : k ≤ c2 := by omega
          have hkc1 : k + 1 ≤ c2 := by omega
          have hkm1 : k + 1 ≤ m := by omega
          have ik9 : (k : Int) ≤ (k : Int) + 1 := by omega
          have ik8 : (k : Int) + 1 ≤ (m : Int) := by omega
          have ik7 : (0 : Int) ≤ (k : Int) + 1 := by omega
          have ij : IntKind.i64.wrap ((k : Int) + 1) = (k : Int) + 1 := IntWalk.i64_in _ ⟨by omega, by omega⟩
          rcases hb : bkF x.s with _ | _
          · have hb9 := hb
            rw [hb] at HBr
            obtain ⟨fB, hfB9⟩ : ∃ fB, behF (kdF z n) (A.drop (k + 1)) = fB := ⟨_, rfl⟩
            have hfB := Lib.hid hfB9
            clear hb hfB9
            rcases Nat.eq_or_lt_of_le hkc1 with hcc | hcc
            · subst hcc
              have HFo : Hid (∀ W, Below w.heap.size w W → Calls Try.prog 25 #[.slice a n c, .slice (some ⟨g1, o1, none⟩) 0 0] W fun e w' => e = .returned (.bool fB) ∧ Below W.heap.size W w') := fun W h => by
                have e0 : A.drop (k + 1) = [] := List.drop_of_length_le (by have := H.out.2.2.1; omega)
                have := follows_any n c a z 0 0 (some ⟨g1, o1, none⟩) (A.drop (k + 1)) (by rw [e0]; rfl) (by omega) W (H.out.1.below h) (by rw [e0]; intro h0; simp at h0)
                rw [hfB.out] at this
                exact this
              refine wp_region_held_drew (S := fun W' => W'.cell? ⟨wr.heap.size, 0, none⟩ = some (.int .i64 x.r) ∧ W'.cell? ⟨wr.heap.size, 1, none⟩ = some (.string x.s) ∧ W'.cell? ⟨wr.heap.size, 2, none⟩ = some (.int .i64 x.p)) (by kernel_rfl) (HSo.out w2.drew H2.out.1) (fun hHeld => ?_)
              have HD : Hid (Bl w2.drew 32 wr.heap.size #[.int .i64 x.r, .string x.s, .int .i64 x.p] ∧ w2.drew.ownsRow w.heap.size 39 6 (.slice b p d) p (nts (ntF (kdF z n) A k)) ∧ Below w.heap.size w w2.drew) := ⟨H2.out.1, H2.out.2.1, H2.out.2.2.drew⟩
              generalize w2.drew = wd at HD hHeld ⊢
              refine tkA 0 ?_ (hy := by intro wz hSw; obtain ⟨z0, z1, z2⟩ := hSw; (try simp only [Act.put, List.setIfInBounds_toArray, List.set_cons_zero, List.set_cons_succ]); go_simp; first | done | with_reducible rfl)
              try simp only [Act.put, List.setIfInBounds_toArray, List.set_cons_zero, List.set_cons_succ]
              refine tkA 1 (v := .agg #[.int .i64 x.r, .string x.s, .int .i64 x.p]) ?_ (hy := by intro wz hSw; obtain ⟨z0, z1, z2⟩ := hSw; (try simp only [Act.put, List.setIfInBounds_toArray, List.set_cons_zero, List.set_cons_succ]); go_simp; first | done | with_reducible rfl)
              try simp only [Act.put, List.setIfInBounds_toArray, List.set_cons_zero, List.set_cons_succ]
              refine tkA 3 ?_ (hy := by intro wz hSw; obtain ⟨z0, z1, z2⟩ := hSw; (try simp only [Act.put, List.setIfInBounds_toArray, List.set_cons_zero, List.set_cons_succ]); go_simp; first | done | with_reducible rfl)
              try simp only [Act.put, List.setIfInBounds_toArray, List.set_cons_zero, List.set_cons_succ]
              refine tkA 4 ?_ (hy := by intro wz hSw; obtain ⟨z0, z1, z2⟩ := hSw; (try simp only [Act.put, List.setIfInBounds_toArray, List.set_cons_zero, List.set_cons_succ]); go_simp; first | done | with_reducible rfl)
              try simp only [Act.put, List.setIfInBounds_toArray, List.set_cons_zero, List.set_cons_succ]
              refine tkA 5 ?_ (hy := by intro wz hSw; obtain ⟨z0, z1, z2⟩ := hSw; (try simp only [Act.put, List.setIfInBounds_toArray, List.set_cons_zero, List.set_cons_succ]); go_simp; first | done | with_reducible rfl)
              try simp only [Act.put, List.setIfInBounds_toArray, List.set_cons_zero, List.set_cons_succ]
              refine tkA 6 ?_ (hy := by intro wz hSw; obtain ⟨z0, z1, z2⟩ := hSw; (try simp only [Act.put, List.setIfInBounds_toArray, List.set_cons_zero, List.set_cons_succ]); go_simp; first | done | with_reducible rfl)
              try simp only [Act.put, List.setIfInBounds_toArray, List.set_cons_zero, List.set_cons_succ]
              refine tkA 7 ?_ (hy := by intro wz hSw; obtain ⟨z0, z1, z2⟩ := hSw; (try simp only [Act.put, List.setIfInBounds_toArray, List.set_cons_zero, List.set_cons_succ]); go_simp; first | done | with_reducible rfl)
              try simp only [Act.put, List.setIfInBounds_toArray, List.set_cons_zero, List.set_cons_succ]
              refine tkA 9 ?_ (hy := by intro wz hSw; obtain ⟨z0, z1, z2⟩ := hSw; (try simp only [Act.put, List.setIfInBounds_toArray, List.set_cons_zero, List.set_cons_succ]); go_simp; first | done | with_reducible rfl)
              try simp only [Act.put, List.setIfInBounds_toArray, List.set_cons_zero, List.set_cons_succ]
              refine tkA 10 ?_ (hy := by intro wz hSw; obtain ⟨z0, z1, z2⟩ := hSw; (try simp only [Act.put, List.setIfInBounds_toArray, List.set_cons_zero, List.set_cons_succ]); go_simp; first | done | with_reducible rfl)
              try simp only [Act.put, List.setIfInBounds_toArray, List.set_cons_zero, List.set_cons_succ]
              refine rd1 2 (fun K hK => ?_)
              go_simp
              go_at_call 22
              refine (HO.out _).mono ?_
              rintro e w3 ⟨rfl, b3⟩
              have H3 := Lib.hid (And.intro (HD.out.1.below b3 HD.out.1.lt) (And.intro (ownsRow_keep HD.out.2.1 b3) (HD.out.2.2.trans (b3.mono HD.out.2.2.size))))
              clear b3
              try go_wp2_with fail
              refine hK.out _ _ (HSo.out _ H3.out.1) (fun hHeld => ?_)
              clear hK K
              try simp only [Act.put, List.setIfInBounds_toArray, List.set_cons_zero, List.set_cons_succ]
              refine rd1 8 (fun K hK => ?_)
              go_simp
              go_at_call 24
              refine (HPa.out _ H3.out.2.2).mono ?_
              rintro e w4 ⟨rfl, b4⟩
              have H4 := Lib.hid (And.intro (H3.out.1.below b4 H3.out.1.lt) (And.intro (ownsRow_keep H3.out.2.1 b4) (H3.out.2.2.trans (b4.mono H3.out.2.2.size))))
              clear b4
              try go_wp2_with fail
              refine hK.out _ _ (HSo.out _ H4.out.1) (fun hHeld => ?_)
              clear hK K
              try simp only [Act.put, List.setIfInBounds_toArray, List.set_cons_zero, List.set_cons_succ]
              refine rd1 11 (fun K hK => ?_)
              go_simp
              go_at_call 15
              refine (HBr.out _).mono ?_
              rintro e w5 ⟨rfl, rfl⟩
              try go_wp2_with fail
              refine hK.out _ _ (HSo.out _ H4.out.1) (fun hHeld => ?_)
              clear hK K
              try simp only [Act.put, List.setIfInBounds_toArray, List.set_cons_zero, List.set_cons_succ]
              refine tkA 12 ?_ (hy := by intro wz hSw; obtain ⟨z0, z1, z2⟩ := hSw; (try simp only [Act.put, List.setIfInBounds_toArray, List.set_cons_zero, List.set_cons_succ]); go_simp; first | done | with_reducible rfl)
              try simp only [Act.put, List.setIfInBounds_toArray, List.set_cons_zero, List.set_cons_succ]
              refine tkA 13 ?_ (hy := by intro wz hSw; obtain ⟨z0, z1, z2⟩ := hSw; (try simp only [Act.put, List.setIfInBounds_toArray, List.set_cons_zero, List.set_cons_succ]); go_simp; first | done | with_reducible rfl)
              try simp only [Act.put, List.setIfInBounds_toArray, List.set_cons_zero, List.set_cons_succ]
              refine tkA 14 ?_ (hy := by intro wz hSw; obtain ⟨z0, z1, z2⟩ := hSw; (try simp only [Act.put, List.setIfInBounds_toArray, List.set_cons_zero, List.set_cons_succ]); go_simp; first | done | with_reducible rfl)
              try simp only [Act.put, List.setIfInBounds_toArray, List.set_cons_zero, List.set_cons_succ]
              refine tkA 15 ?_ (hy := by intro wz hSw; obtain ⟨z0, z1, z2⟩ := hSw; (try simp only [Act.put, List.setIfInBounds_toArray, List.set_cons_zero, List.set_cons_succ]); go_simp; first | done | with_reducible rfl)
              try simp only [Act.put, List.setIfInBounds_toArray, List.set_cons_zero, List.set_cons_succ]
              refine tkA 16 ?_ (hy := by intro wz hSw; obtain ⟨z0, z1, z2⟩ := hSw; (try simp only [Act.put, List.setIfInBounds_toArray, List.set_cons_zero, List.set_cons_succ]); go_simp; first | done | with_reducible rfl)
              try simp only [Act.put, List.setIfInBounds_toArray, List.set_cons_zero, List.set_cons_succ]
              refine tkA 17 ?_ (hy := by intro wz hSw; obtain ⟨z0, z1, z2⟩ := hSw; (try simp only [Act.put, List.setIfInBounds_toArray, List.set_cons_zero, List.set_cons_succ]); go_simp; first | done | with_reducible rfl)
              try simp only [Act.put, List.setIfInBounds_toArray, List.set_cons_zero, List.set_cons_succ]
              refine rd1 18 (fun K hK => ?_)
              go_simp
              go_at_call 25
              refine (HFo.out _ H4.out.2.2).mono ?_
              rintro e w6 ⟨rfl, b6⟩
              have H6 := Lib.hid (And.intro (H4.out.1.below b6 H4.out.1.lt) (And.intro (ownsRow_keep H4.out.2.1 b6) (H4.out.2.2.trans (b6.mono H4.out.2.2.size))))
              clear b6
              try go_wp2_with fail
              refine hK.out _ _ (HSo.out _ H6.out.1) (fun hHeld => ?_)
              clear hK K
              try simp only [Act.put, List.setIfInBounds_toArray, List.set_cons_zero, List.set_cons_succ]
              refine tkA 19 ?_ (hy := by intro wz hSw; obtain ⟨z0, z1, z2⟩ := hSw; (try simp only [Act.put, List.setIfInBounds_toArray, List.set_cons_zero, List.set_cons_succ]); go_simp; first | done | with_reducible rfl)
              try simp only [Act.put, List.setIfInBounds_toArray, List.set_cons_zero, List.set_cons_succ]
              refine tkA 20 (v := .agg #[.int .i64 x.r, .string x.s, .int .i64 x.p, .int .i64 ((q : Nat) : Int), .bool (befF (kdF z n) (A.take k).reverse), .bool fB]) ?_ (hy := by intro wz hSw; obtain ⟨z0, z1, z2⟩ := hSw; (try simp only [Act.put, List.setIfInBounds_toArray, List.set_cons_zero, List.set_cons_succ]); go_simp; first | done | with_reducible rfl)
              try simp only [Act.put, List.setIfInBounds_toArray, List.set_cons_zero, List.set_cons_succ]
              refine rd1 21 (fun K hK => ?_)
              go_simp
              have k7 := al w6 (.cells #[.int .i64 x.r, .string x.s, .int .i64 x.p, .int .i64 ((q : Nat) : Int), .bool (befF (kdF z n) (A.take k).reverse), .bool fB] 39)
              have H7 := Lib.hid (And.intro (H6.out.1.below k7 H6.out.1.lt) (And.intro (ownsRow_keep H6.out.2.1 k7) (And.intro (H6.out.2.2.trans (k7.mono H6.out.2.2.size)) (Bl.new w6 39 #[.int .i64 x.r, .string x.s, .int .i64 x.p, .int .i64 ((q : Nat) : Int), .bool (befF (kdF z n) (A.take k).reverse), .bool fB]))))
              generalize w6.alloc (.cells #[.int .i64 x.r, .string x.s, .int .i64 x.p, .int .i64 ((q : Nat) : Int), .bool (befF (kdF z n) (A.take k).reverse), .bool fB] 39) = w7 at H7 ⊢
              clear k7
              refine hK.out _ _ (HSo.out _ H7.out.1) (fun hHeld => ?_)
              clear hK K
              try simp only [Act.put, List.setIfInBounds_toArray, List.set_cons_zero, List.set_cons_succ]
              refine rd1 22 (fun K hK => ?_)
              refine step_append_ownY (by rfl) _ _ _ (by rfl) w.heap.size 39 iT (.agg #[.int .i64 0, .string ⟨#[]⟩, .int .i64 0, .int .i64 0, .bool false, .bool false]) 6 48 Try.underlying36 hiT hT0 hT1 hT2 (by rfl) (by decide) _ p (nts (ntF (kdF z n) A k)) (by rfl) H7.out.2.1 ⟨w6.heap.size, 0, none⟩ 1 1 (#[.int .i64 x.r, .string x.s, .int .i64 x.p, .int .i64 ((q : Nat) : Int), .bool (befF (kdF z n) (A.take k).reverse), .bool fB]).toList (by rfl) (by rfl) (bl_news H7.out.2.2.2) (by simp [Value.oneCell']) (by unfold maxLen; omega) (by omega) H7.out.2.2.1.size ?_
              intro v' w8 hown8 hgrow8
              obtain ⟨a8, c8, rfl⟩ := ownsRow_slice hown8
              have H8 : Hid (Bl w8 32 wr.heap.size #[.int .i64 x.r, .string x.s, .int .i64 x.p] ∧ w8.ownsRow w.heap.size 39 6 (.slice a8 (p + 1) c8) (p + 1) (nts (ntF (kdF z n) A (k + 1))) ∧ Below w.heap.size w w8) := by
                refine ⟨(hgrow8.block _ H7.out.1.lt (bl_ne H7.out.1 H7.out.2.1 (by decide))).trans H7.out.1, ?_, H7.out.2.2.1.grown hgrow8 H7.out.2.2.1.size (fun g e => (H7.out.2.1.lt g e).1)⟩
                rw [HE.out.1, nts_append]
                have e9 : nts [ntAt (kdF z n) A k x (ahF (kdF z n) A k)] = (#[.int .i64 x.r, .string x.s, .int .i64 x.p, .int .i64 ((q : Nat) : Int), .bool (befF (kdF z n) (A.take k).reverse), .bool fB]).toList := by
                  simp [nts, ntCells, ntAt, HX.out.2.1, hb9, hfB.out]
                rw [e9]
                exact hown8
              clear hown8 hgrow8
              refine hK.out _ _ (HSo.out _ H8.out.1) (fun hHeld => ?_)
              clear hK K
              try simp only [Act.put, List.setIfInBounds_toArray, List.set_cons_zero, List.set_cons_succ]
              refine tkA 23 ?_ (hy := by intro wz hSw; obtain ⟨z0, z1, z2⟩ := hSw; (try simp only [Act.put, List.setIfInBounds_toArray, List.set_cons_zero, List.set_cons_succ]); go_simp; first | done | with_reducible rfl)
              try simp only [Act.put, List.setIfInBounds_toArray, List.set_cons_zero, List.set_cons_succ]
              refine wpAnyH_done (by kernel_rfl) ?_ _
              clear hHeld
              go_wp2_with fail
              go_roundw
              case rel => exact ⟨k + 1, p + 1, q, a8, c8, rfl, rfl, by go_num, by omega, by omega, by omega, by rw [HE.out.1, List.length_append, HX.out.1]; rfl, by rw [HE.out.2]; exact HX.out.2.1, H8.out.2.1, H8.out.2.2⟩
              case measure => simp [nV]; omega
            · have hne : ¬ (c2 = k + 1) := by omega
              have HFo : Hid (∀ W, Below w.heap.size w W → Calls Try.prog 25 #[.slice a n c, .slice (some ⟨g1, o1 + (k + 1) * 3, none⟩) (m - (k + 1)) (c2 - (k + 1))] W fun e w' => e = .returned (.bool fB) ∧ Below W.heap.size W w') := fun W h => by
                have := follows_any n c a z (m - (k + 1)) (c2 - (k + 1)) (some ⟨g1, o1 + (k + 1) * 3, none⟩) (A.drop (k + 1)) (by rw [List.length_drop, H.out.2.2.1]) (by omega) W (H.out.1.below h) ((H.out.2.1.below h).drop (k + 1) (by have := H.out.2.2.1; omega))
                rw [hfB.out] at this
                exact this
              refine wp_region_held_drew (S := fun W' => W'.cell? ⟨wr.heap.size, 0, none⟩ = some (.int .i64 x.r) ∧ W'.cell? ⟨wr.heap.size, 1, none⟩ = some (.string x.s) ∧ W'.cell? ⟨wr.heap.size, 2, none⟩ = some (.int .i64 x.p)) (by kernel_rfl) (HSo.out w2.drew H2.out.1) (fun hHeld => ?_)
              have HD : Hid (Bl w2.drew 32 wr.heap.size #[.int .i64 x.r, .string x.s, .int .i64 x.p] ∧ w2.drew.ownsRow w.heap.size 39 6 (.slice b p d) p (nts (ntF (kdF z n) A k)) ∧ Below w.heap.size w w2.drew) := ⟨H2.out.1, H2.out.2.1, H2.out.2.2.drew⟩
              generalize w2.drew = wd at HD hHeld ⊢
              refine tkA 0 ?_ (hy := by intro wz hSw; obtain ⟨z0, z1, z2⟩ := hSw; (try simp only [Act.put, List.setIfInBounds_toArray, List.set_cons_zero, List.set_cons_succ]); go_simp; first | done | with_reducible rfl)
              try simp only [Act.put, List.setIfInBounds_toArray, List.set_cons_zero, List.set_cons_succ]
              refine tkA 1 (v := .agg #[.int .i64 x.r, .string x.s, .int .i64 x.p]) ?_ (hy := by intro wz hSw; obtain ⟨z0, z1, z2⟩ := hSw; (try simp only [Act.put, List.setIfInBounds_toArray, List.set_cons_zero, List.set_cons_succ]); go_simp; first | done | with_reducible rfl)
              try simp only [Act.put, List.setIfInBounds_toArray, List.set_cons_zero, List.set_cons_succ]
              refine tkA 3 ?_ (hy := by intro wz hSw; obtain ⟨z0, z1, z2⟩ := hSw; (try simp only [Act.put, List.setIfInBounds_toArray, List.set_cons_zero, List.set_cons_succ]); go_simp; first | done | with_reducible rfl)
              try simp only [Act.put, List.setIfInBounds_toArray, List.set_cons_zero, List.set_cons_succ]
              refine tkA 4 ?_ (hy := by intro wz hSw; obtain ⟨z0, z1, z2⟩ := hSw; (try simp only [Act.put, List.setIfInBounds_toArray, List.set_cons_zero, List.set_cons_succ]); go_simp; first | done | with_reducible rfl)
              try simp only [Act.put, List.setIfInBounds_toArray, List.set_cons_zero, List.set_cons_succ]
              refine tkA 5 ?_ (hy := by intro wz hSw; obtain ⟨z0, z1, z2⟩ := hSw; (try simp only [Act.put, List.setIfInBounds_toArray, List.set_cons_zero, List.set_cons_succ]); go_simp; first | done | with_reducible rfl)
              try simp only [Act.put, List.setIfInBounds_toArray, List.set_cons_zero, List.set_cons_succ]
              refine tkA 6 ?_ (hy := by intro wz hSw; obtain ⟨z0, z1, z2⟩ := hSw; (try simp only [Act.put, List.setIfInBounds_toArray, List.set_cons_zero, List.set_cons_succ]); go_simp; first | done | with_reducible rfl)
              try simp only [Act.put, List.setIfInBounds_toArray, List.set_cons_zero, List.set_cons_succ]
              refine tkA 7 ?_ (hy := by intro wz hSw; obtain ⟨z0, z1, z2⟩ := hSw; (try simp only [Act.put, List.setIfInBounds_toArray, List.set_cons_zero, List.set_cons_succ]); go_simp; first | done | with_reducible rfl)
              try simp only [Act.put, List.setIfInBounds_toArray, List.set_cons_zero, List.set_cons_succ]
              refine tkA 9 ?_ (hy := by intro wz hSw; obtain ⟨z0, z1, z2⟩ := hSw; (try simp only [Act.put, List.setIfInBounds_toArray, List.set_cons_zero, List.set_cons_succ]); go_simp; first | done | with_reducible rfl)
              try simp only [Act.put, List.setIfInBounds_toArray, List.set_cons_zero, List.set_cons_succ]
              refine tkA 10 ?_ (hy := by intro wz hSw; obtain ⟨z0, z1, z2⟩ := hSw; (try simp only [Act.put, List.setIfInBounds_toArray, List.set_cons_zero, List.set_cons_succ]); go_simp; first | done | with_reducible rfl)
              try simp only [Act.put, List.setIfInBounds_toArray, List.set_cons_zero, List.set_cons_succ]
              refine rd1 2 (fun K hK => ?_)
              go_simp
              go_at_call 22
              refine (HO.out _).mono ?_
              rintro e w3 ⟨rfl, b3⟩
              have H3 := Lib.hid (And.intro (HD.out.1.below b3 HD.out.1.lt) (And.intro (ownsRow_keep HD.out.2.1 b3) (HD.out.2.2.trans (b3.mono HD.out.2.2.size))))
              clear b3
              try go_wp2_with fail
              refine hK.out _ _ (HSo.out _ H3.out.1) (fun hHeld => ?_)
              clear hK K
              try simp only [Act.put, List.setIfInBounds_toArray, List.set_cons_zero, List.set_cons_succ]
              refine rd1 8 (fun K hK => ?_)
              go_simp
              go_at_call 24
              refine (HPa.out _ H3.out.2.2).mono ?_
              rintro e w4 ⟨rfl, b4⟩
              have H4 := Lib.hid (And.intro (H3.out.1.below b4 H3.out.1.lt) (And.intro (ownsRow_keep H3.out.2.1 b4) (H3.out.2.2.trans (b4.mono H3.out.2.2.size))))
              clear b4
              try go_wp2_with fail
              refine hK.out _ _ (HSo.out _ H4.out.1) (fun hHeld => ?_)
              clear hK K
              try simp only [Act.put, List.setIfInBounds_toArray, List.set_cons_zero, List.set_cons_succ]
              refine rd1 11 (fun K hK => ?_)
              go_simp
              go_at_call 15
              refine (HBr.out _).mono ?_
              rintro e w5 ⟨rfl, rfl⟩
              try go_wp2_with fail
              refine hK.out _ _ (HSo.out _ H4.out.1) (fun hHeld => ?_)
              clear hK K
              try simp only [Act.put, List.setIfInBounds_toArray, List.set_cons_zero, List.set_cons_succ]
              refine tkA 12 ?_ (hy := by intro wz hSw; obtain ⟨z0, z1, z2⟩ := hSw; (try simp only [Act.put, List.setIfInBounds_toArray, List.set_cons_zero, List.set_cons_succ]); go_simp; first | done | with_reducible rfl)
              try simp only [Act.put, List.setIfInBounds_toArray, List.set_cons_zero, List.set_cons_succ]
              refine tkA 13 ?_ (hy := by intro wz hSw; obtain ⟨z0, z1, z2⟩ := hSw; (try simp only [Act.put, List.setIfInBounds_toArray, List.set_cons_zero, List.set_cons_succ]); go_simp; first | done | with_reducible rfl)
              try simp only [Act.put, List.setIfInBounds_toArray, List.set_cons_zero, List.set_cons_succ]
              refine tkA 14 ?_ (hy := by intro wz hSw; obtain ⟨z0, z1, z2⟩ := hSw; (try simp only [Act.put, List.setIfInBounds_toArray, List.set_cons_zero, List.set_cons_succ]); go_simp; first | done | with_reducible rfl)
              try simp only [Act.put, List.setIfInBounds_toArray, List.set_cons_zero, List.set_cons_succ]
              refine tkA 15 ?_ (hy := by intro wz hSw; obtain ⟨z0, z1, z2⟩ := hSw; (try simp only [Act.put, List.setIfInBounds_toArray, List.set_cons_zero, List.set_cons_succ]); go_simp; first | done | with_reducible rfl)
              try simp only [Act.put, List.setIfInBounds_toArray, List.set_cons_zero, List.set_cons_succ]
              refine tkA 16 ?_ (hy := by intro wz hSw; obtain ⟨z0, z1, z2⟩ := hSw; (try simp only [Act.put, List.setIfInBounds_toArray, List.set_cons_zero, List.set_cons_succ]); go_simp; first | done | with_reducible rfl)
              try simp only [Act.put, List.setIfInBounds_toArray, List.set_cons_zero, List.set_cons_succ]
              refine tkA 17 ?_ (hy := by intro wz hSw; obtain ⟨z0, z1, z2⟩ := hSw; (try simp only [Act.put, List.setIfInBounds_toArray, List.set_cons_zero, List.set_cons_succ]); go_simp; first | done | with_reducible rfl)
              try simp only [Act.put, List.setIfInBounds_toArray, List.set_cons_zero, List.set_cons_succ]
              refine rd1 18 (fun K hK => ?_)
              go_simp
              go_at_call 25
              refine (HFo.out _ H4.out.2.2).mono ?_
              rintro e w6 ⟨rfl, b6⟩
              have H6 := Lib.hid (And.intro (H4.out.1.below b6 H4.out.1.lt) (And.intro (ownsRow_keep H4.out.2.1 b6) (H4.out.2.2.trans (b6.mono H4.out.2.2.size))))
              clear b6
              try go_wp2_with fail
              refine hK.out _ _ (HSo.out _ H6.out.1) (fun hHeld => ?_)
              clear hK K
              try simp only [Act.put, List.setIfInBounds_toArray, List.set_cons_zero, List.set_cons_succ]
              refine tkA 19 ?_ (hy := by intro wz hSw; obtain ⟨z0, z1, z2⟩ := hSw; (try simp only [Act.put, List.setIfInBounds_toArray, List.set_cons_zero, List.set_cons_succ]); go_simp; first | done | with_reducible rfl)
              try simp only [Act.put, List.setIfInBounds_toArray, List.set_cons_zero, List.set_cons_succ]
              refine tkA 20 (v := .agg #[.int .i64 x.r, .string x.s, .int .i64 x.p, .int .i64 ((q : Nat) : Int), .bool (befF (kdF z n) (A.take k).reverse), .bool fB]) ?_ (hy := by intro wz hSw; obtain ⟨z0, z1, z2⟩ := hSw; (try simp only [Act.put, List.setIfInBounds_toArray, List.set_cons_zero, List.set_cons_succ]); go_simp; first | done | with_reducible rfl)
              try simp only [Act.put, List.setIfInBounds_toArray, List.set_cons_zero, List.set_cons_succ]
              refine rd1 21 (fun K hK => ?_)
              go_simp
              have k7 := al w6 (.cells #[.int .i64 x.r, .string x.s, .int .i64 x.p, .int .i64 ((q : Nat) : Int), .bool (befF (kdF z n) (A.take k).reverse), .bool fB] 39)
              have H7 := Lib.hid (And.intro (H6.out.1.below k7 H6.out.1.lt) (And.intro (ownsRow_keep H6.out.2.1 k7) (And.intro (H6.out.2.2.trans (k7.mono H6.out.2.2.size)) (Bl.new w6 39 #[.int .i64 x.r, .string x.s, .int .i64 x.p, .int .i64 ((q : Nat) : Int), .bool (befF (kdF z n) (A.take k).reverse), .bool fB]))))
              generalize w6.alloc (.cells #[.int .i64 x.r, .string x.s, .int .i64 x.p, .int .i64 ((q : Nat) : Int), .bool (befF (kdF z n) (A.take k).reverse), .bool fB] 39) = w7 at H7 ⊢
              clear k7
              refine hK.out _ _ (HSo.out _ H7.out.1) (fun hHeld => ?_)
              clear hK K
              try simp only [Act.put, List.setIfInBounds_toArray, List.set_cons_zero, List.set_cons_succ]
              refine rd1 22 (fun K hK => ?_)
              refine step_append_ownY (by rfl) _ _ _ (by rfl) w.heap.size 39 iT (.agg #[.int .i64 0, .string ⟨#[]⟩, .int .i64 0, .int .i64 0, .bool false, .bool false]) 6 48 Try.underlying36 hiT hT0 hT1 hT2 (by rfl) (by decide) _ p (nts (ntF (kdF z n) A k)) (by rfl) H7.out.2.1 ⟨w6.heap.size, 0, none⟩ 1 1 (#[.int .i64 x.r, .string x.s, .int .i64 x.p, .int .i64 ((q : Nat) : Int), .bool (befF (kdF z n) (A.take k).reverse), .bool fB]).toList (by rfl) (by rfl) (bl_news H7.out.2.2.2) (by simp [Value.oneCell']) (by unfold maxLen; omega) (by omega) H7.out.2.2.1.size ?_
              intro v' w8 hown8 hgrow8
              obtain ⟨a8, c8, rfl⟩ := ownsRow_slice hown8
              have H8 : Hid (Bl w8 32 wr.heap.size #[.int .i64 x.r, .string x.s, .int .i64 x.p] ∧ w8.ownsRow w.heap.size 39 6 (.slice a8 (p + 1) c8) (p + 1) (nts (ntF (kdF z n) A (k + 1))) ∧ Below w.heap.size w w8) := by
                refine ⟨(hgrow8.block _ H7.out.1.lt (bl_ne H7.out.1 H7.out.2.1 (by decide))).trans H7.out.1, ?_, H7.out.2.2.1.grown hgrow8 H7.out.2.2.1.size (fun g e => (H7.out.2.1.lt g e).1)⟩
                rw [HE.out.1, nts_append]
                have e9 : nts [ntAt (kdF z n) A k x (ahF (kdF z n) A k)] = (#[.int .i64 x.r, .string x.s, .int .i64 x.p, .int .i64 ((q : Nat) : Int), .bool (befF (kdF z n) (A.take k).reverse), .bool fB]).toList := by
                  simp [nts, ntCells, ntAt, HX.out.2.1, hb9, hfB.out]
                rw [e9]
                exact hown8
              clear hown8 hgrow8
              refine hK.out _ _ (HSo.out _ H8.out.1) (fun hHeld => ?_)
              clear hK K
              try simp only [Act.put, List.setIfInBounds_toArray, List.set_cons_zero, List.set_cons_succ]
              refine tkA 23 ?_ (hy := by intro wz hSw; obtain ⟨z0, z1, z2⟩ := hSw; (try simp only [Act.put, List.setIfInBounds_toArray, List.set_cons_zero, List.set_cons_succ]); go_simp; first | done | with_reducible rfl)
              try simp only [Act.put, List.setIfInBounds_toArray, List.set_cons_zero, List.set_cons_succ]
              refine wpAnyH_done (by kernel_rfl) ?_ _
              clear hHeld
              go_wp2_with fail
              go_roundw
              case rel => exact ⟨k + 1, p + 1, q, a8, c8, rfl, rfl, by go_num, by omega, by omega, by omega, by rw [HE.out.1, List.length_append, HX.out.1]; rfl, by rw [HE.out.2]; exact HX.out.2.1, H8.out.2.1, H8.out.2.2⟩
              case measure => simp [nV]; omega
          · have hb9 := hb
            rw [hb] at HBr
            clear hb
            refine wp_region_held_drew (S := fun W' => W'.cell? ⟨wr.heap.size, 0, none⟩ = some (.int .i64 x.r) ∧ W'.cell? ⟨wr.heap.size, 1, none⟩ = some (.string x.s) ∧ W'.cell? ⟨wr.heap.size, 2, none⟩ = some (.int .i64 x.p)) (by kernel_rfl) (HSo.out w2.drew H2.out.1) (fun hHeld => ?_)
            have HD : Hid (Bl w2.drew 32 wr.heap.size #[.int .i64 x.r, .string x.s, .int .i64 x.p] ∧ w2.drew.ownsRow w.heap.size 39 6 (.slice b p d) p (nts (ntF (kdF z n) A k)) ∧ Below w.heap.size w w2.drew) := ⟨H2.out.1, H2.out.2.1, H2.out.2.2.drew⟩
            generalize w2.drew = wd at HD hHeld ⊢
            refine tkA 0 ?_ (hy := by intro wz hSw; obtain ⟨z0, z1, z2⟩ := hSw; (try simp only [Act.put, List.setIfInBounds_toArray, List.set_cons_zero, List.set_cons_succ]); go_simp; first | done | with_reducible rfl)
            try simp only [Act.put, List.setIfInBounds_toArray, List.set_cons_zero, List.set_cons_succ]
            refine tkA 1 (v := .agg #[.int .i64 x.r, .string x.s, .int .i64 x.p]) ?_ (hy := by intro wz hSw; obtain ⟨z0, z1, z2⟩ := hSw; (try simp only [Act.put, List.setIfInBounds_toArray, List.set_cons_zero, List.set_cons_succ]); go_simp; first | done | with_reducible rfl)
            try simp only [Act.put, List.setIfInBounds_toArray, List.set_cons_zero, List.set_cons_succ]
            refine tkA 3 ?_ (hy := by intro wz hSw; obtain ⟨z0, z1, z2⟩ := hSw; (try simp only [Act.put, List.setIfInBounds_toArray, List.set_cons_zero, List.set_cons_succ]); go_simp; first | done | with_reducible rfl)
            try simp only [Act.put, List.setIfInBounds_toArray, List.set_cons_zero, List.set_cons_succ]
            refine tkA 4 ?_ (hy := by intro wz hSw; obtain ⟨z0, z1, z2⟩ := hSw; (try simp only [Act.put, List.setIfInBounds_toArray, List.set_cons_zero, List.set_cons_succ]); go_simp; first | done | with_reducible rfl)
            try simp only [Act.put, List.setIfInBounds_toArray, List.set_cons_zero, List.set_cons_succ]
            refine tkA 5 ?_ (hy := by intro wz hSw; obtain ⟨z0, z1, z2⟩ := hSw; (try simp only [Act.put, List.setIfInBounds_toArray, List.set_cons_zero, List.set_cons_succ]); go_simp; first | done | with_reducible rfl)
            try simp only [Act.put, List.setIfInBounds_toArray, List.set_cons_zero, List.set_cons_succ]
            refine tkA 6 ?_ (hy := by intro wz hSw; obtain ⟨z0, z1, z2⟩ := hSw; (try simp only [Act.put, List.setIfInBounds_toArray, List.set_cons_zero, List.set_cons_succ]); go_simp; first | done | with_reducible rfl)
            try simp only [Act.put, List.setIfInBounds_toArray, List.set_cons_zero, List.set_cons_succ]
            refine tkA 7 ?_ (hy := by intro wz hSw; obtain ⟨z0, z1, z2⟩ := hSw; (try simp only [Act.put, List.setIfInBounds_toArray, List.set_cons_zero, List.set_cons_succ]); go_simp; first | done | with_reducible rfl)
            try simp only [Act.put, List.setIfInBounds_toArray, List.set_cons_zero, List.set_cons_succ]
            refine tkA 9 ?_ (hy := by intro wz hSw; obtain ⟨z0, z1, z2⟩ := hSw; (try simp only [Act.put, List.setIfInBounds_toArray, List.set_cons_zero, List.set_cons_succ]); go_simp; first | done | with_reducible rfl)
            try simp only [Act.put, List.setIfInBounds_toArray, List.set_cons_zero, List.set_cons_succ]
            refine tkA 10 ?_ (hy := by intro wz hSw; obtain ⟨z0, z1, z2⟩ := hSw; (try simp only [Act.put, List.setIfInBounds_toArray, List.set_cons_zero, List.set_cons_succ]); go_simp; first | done | with_reducible rfl)
            try simp only [Act.put, List.setIfInBounds_toArray, List.set_cons_zero, List.set_cons_succ]
            refine rd1 2 (fun K hK => ?_)
            go_simp
            go_at_call 22
            refine (HO.out _).mono ?_
            rintro e w3 ⟨rfl, b3⟩
            have H3 := Lib.hid (And.intro (HD.out.1.below b3 HD.out.1.lt) (And.intro (ownsRow_keep HD.out.2.1 b3) (HD.out.2.2.trans (b3.mono HD.out.2.2.size))))
            clear b3
            try go_wp2_with fail
            refine hK.out _ _ (HSo.out _ H3.out.1) (fun hHeld => ?_)
            clear hK K
            try simp only [Act.put, List.setIfInBounds_toArray, List.set_cons_zero, List.set_cons_succ]
            refine rd1 8 (fun K hK => ?_)
            go_simp
            go_at_call 24
            refine (HPa.out _ H3.out.2.2).mono ?_
            rintro e w4 ⟨rfl, b4⟩
            have H4 := Lib.hid (And.intro (H3.out.1.below b4 H3.out.1.lt) (And.intro (ownsRow_keep H3.out.2.1 b4) (H3.out.2.2.trans (b4.mono H3.out.2.2.size))))
            clear b4
            try go_wp2_with fail
            refine hK.out _ _ (HSo.out _ H4.out.1) (fun hHeld => ?_)
            clear hK K
            try simp only [Act.put, List.setIfInBounds_toArray, List.set_cons_zero, List.set_cons_succ]
            refine rd1 11 (fun K hK => ?_)
            go_simp
            go_at_call 15
            refine (HBr.out _).mono ?_
            rintro e w5 ⟨rfl, rfl⟩
            try go_wp2_with fail
            refine hK.out _ _ (HSo.out _ H4.out.1) (fun hHeld => ?_)
            clear hK K
            try simp only [Act.put, List.setIfInBounds_toArray, List.set_cons_zero, List.set_cons_succ]
            refine tkA 12 ?_ (hy := by intro wz hSw; obtain ⟨z0, z1, z2⟩ := hSw; (try simp only [Act.put, List.setIfInBounds_toArray, List.set_cons_zero, List.set_cons_succ]); go_simp; first | done | with_reducible rfl)
            try simp only [Act.put, List.setIfInBounds_toArray, List.set_cons_zero, List.set_cons_succ]
            refine tkB 13 ?_
            try simp only [Act.put, List.setIfInBounds_toArray, List.set_cons_zero, List.set_cons_succ]
            refine tkB 14 ?_
            try simp only [Act.put, List.setIfInBounds_toArray, List.set_cons_zero, List.set_cons_succ]
            refine tkB 15 ?_
            try simp only [Act.put, List.setIfInBounds_toArray, List.set_cons_zero, List.set_cons_succ]
            refine tkB 16 ?_
            try simp only [Act.put, List.setIfInBounds_toArray, List.set_cons_zero, List.set_cons_succ]
            refine tkB 17 ?_
            try simp only [Act.put, List.setIfInBounds_toArray, List.set_cons_zero, List.set_cons_succ]
            refine tkB 18 ?_
            try simp only [Act.put, List.setIfInBounds_toArray, List.set_cons_zero, List.set_cons_succ]
            refine tkA 19 ?_ (hy := by intro wz hSw; obtain ⟨z0, z1, z2⟩ := hSw; (try simp only [Act.put, List.setIfInBounds_toArray, List.set_cons_zero, List.set_cons_succ]); go_simp; first | done | with_reducible rfl)
            try simp only [Act.put, List.setIfInBounds_toArray, List.set_cons_zero, List.set_cons_succ]
            refine tkA 20 (v := .agg #[.int .i64 x.r, .string x.s, .int .i64 x.p, .int .i64 ((q : Nat) : Int), .bool (befF (kdF z n) (A.take k).reverse), .bool true]) ?_ (hy := by intro wz hSw; obtain ⟨z0, z1, z2⟩ := hSw; (try simp only [Act.put, List.setIfInBounds_toArray, List.set_cons_zero, List.set_cons_succ]); go_simp; first | done | with_reducible rfl)
            try simp only [Act.put, List.setIfInBounds_toArray, List.set_cons_zero, List.set_cons_succ]
            refine rd1 21 (fun K hK => ?_)
            go_simp
            have k7 := al w5 (.cells #[.int .i64 x.r, .string x.s, .int .i64 x.p, .int .i64 ((q : Nat) : Int), .bool (befF (kdF z n) (A.take k).reverse), .bool true] 39)
            have H7 := Lib.hid (And.intro (H4.out.1.below k7 H4.out.1.lt) (And.intro (ownsRow_keep H4.out.2.1 k7) (And.intro (H4.out.2.2.trans (k7.mono H4.out.2.2.size)) (Bl.new w5 39 #[.int .i64 x.r, .string x.s, .int .i64 x.p, .int .i64 ((q : Nat) : Int), .bool (befF (kdF z n) (A.take k).reverse), .bool true]))))
            generalize w5.alloc (.cells #[.int .i64 x.r, .string x.s, .int .i64 x.p, .int .i64 ((q : Nat) : Int), .bool (befF (kdF z n) (A.take k).reverse), .bool true] 39) = w7 at H7 ⊢
            clear k7
            refine hK.out _ _ (HSo.out _ H7.out.1) (fun hHeld => ?_)
            clear hK K
            try simp only [Act.put, List.setIfInBounds_toArray, List.set_cons_zero, List.set_cons_succ]
            refine rd1 22 (fun K hK => ?_)
            refine step_append_ownY (by rfl) _ _ _ (by rfl) w.heap.size 39 iT (.agg #[.int .i64 0, .string ⟨#[]⟩, .int .i64 0, .int .i64 0, .bool false, .bool false]) 6 48 Try.underlying36 hiT hT0 hT1 hT2 (by rfl) (by decide) _ p (nts (ntF (kdF z n) A k)) (by rfl) H7.out.2.1 ⟨w5.heap.size, 0, none⟩ 1 1 (#[.int .i64 x.r, .string x.s, .int .i64 x.p, .int .i64 ((q : Nat) : Int), .bool (befF (kdF z n) (A.take k).reverse), .bool true]).toList (by rfl) (by rfl) (bl_news H7.out.2.2.2) (by simp [Value.oneCell']) (by unfold maxLen; omega) (by omega) H7.out.2.2.1.size ?_
            intro v' w8 hown8 hgrow8
            obtain ⟨a8, c8, rfl⟩ := ownsRow_slice hown8
            have H8 : Hid (Bl w8 32 wr.heap.size #[.int .i64 x.r, .string x.s, .int .i64 x.p] ∧ w8.ownsRow w.heap.size 39 6 (.slice a8 (p + 1) c8) (p + 1) (nts (ntF (kdF z n) A (k + 1))) ∧ Below w.heap.size w w8) := by
              refine ⟨(hgrow8.block _ H7.out.1.lt (bl_ne H7.out.1 H7.out.2.1 (by decide))).trans H7.out.1, ?_, H7.out.2.2.1.grown hgrow8 H7.out.2.2.1.size (fun g e => (H7.out.2.1.lt g e).1)⟩
              rw [HE.out.1, nts_append]
              have e9 : nts [ntAt (kdF z n) A k x (ahF (kdF z n) A k)] = (#[.int .i64 x.r, .string x.s, .int .i64 x.p, .int .i64 ((q : Nat) : Int), .bool (befF (kdF z n) (A.take k).reverse), .bool true]).toList := by
                simp [nts, ntCells, ntAt, HX.out.2.1, hb9]
              rw [e9]
              exact hown8
            clear hown8 hgrow8
            refine hK.out _ _ (HSo.out _ H8.out.1) (fun hHeld => ?_)
            clear hK K
            try simp only [Act.put, List.setIfInBounds_toArray, List.set_cons_zero, List.set_cons_succ]
            refine tkA 23 ?_ (hy := by intro wz hSw; obtain ⟨z0, z1, z2⟩ := hSw; (try simp only [Act.put, List.setIfInBounds_toArray, List.set_cons_zero, List.set_cons_succ]); go_simp; first | done | with_reducible rfl)
            try simp only [Act.put, List.setIfInBounds_toArray, List.set_cons_zero, List.set_cons_succ]
            refine wpAnyH_done (by kernel_rfl) ?_ _
            clear hHeld
            go_wp2_with fail
            go_roundw
            case rel => exact ⟨k + 1, p + 1, q, a8, c8, rfl, rfl, by go_num, by omega, by omega, by omega, by rw [HE.out.1, List.length_append, HX.out.1]; rfl, by rw [HE.out.2]; exact HX.out.2.1, H8.out.2.1, H8.out.2.2⟩
            case measure => simp [nV]; omega
          -- END 10
      · have hn0 : kdF z n x.r = 0 := by simpa using h0
        have HE := Lib.hid (HT0.out hn0)
        clear HT0 HT2 HTN hn0 HO
        generalize kdF z n x.r = kx at HC h0
        go_wp2_with (go_at_call 13; refine (HC.out _ hkz).mono ?_; rintro e w2 ⟨rfl, b2⟩)
        have HR := Lib.hid (And.intro (ownsRow_keep H1.out.2.1 b2) (H1.out.2.2.trans (b2.mono H1.out.2.2.size)))
        clear b2 hkz x0 x1 x2
        go_roundw
        case rel => exact ⟨k + 1, p, q + 1, b, d, rfl, by go_num, by go_num, by omega, by omega, by omega, by rw [HE.out.1]; exact HX.out.1, by rw [HE.out.2, HX.out.2.1], by rw [HE.out.1]; exact HR.out.1, HR.out.2⟩
        case measure => simp [nV]; omega
    · obtain rfl : k = m := by omega
      have HE : Hid (NtP (ntF (kdF z n) A k) w (.returned (.slice b p d)) wr) := ⟨b, d, by rw [HX.out.1], own_nts HX.out.1 HX.out.2.2.1, HX.out.2.2.2⟩
      go_wp2_with fail
      go_ret
      exact HE.out
end Go.Proofs.Ytghhjonhmelohaa
