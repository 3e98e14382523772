import Derived.Test.YtghhjonhmelohaaYAhead
namespace Go.Proofs.Ytghhjonhmelohaa
open Go.RowKit Go.Maps Go.WideElems Go.ChangeMaps Go.MapKept
set_option linter.unusedVariables false
set_option linter.unusedSimpArgs false

set_option maxHeartbeats 2000000 in
set_option maxRecDepth 100000 in
theorem rbefore14_any (n c : Nat) (a : Option Addr) (z : Nat → Int) (m c2 : Nat) (a2 : Option Addr) (A : List Tok) (q : Nat) (hA : A.length = m) (hm : m ≤ 100000) (hs : ∀ t ∈ A, t.s.size ≤ 100000) (hq : q ≤ m) (w : World) (hK : ZAt w a n z) (hT : TkAt w a2 A) :
    Calls Try.prog 18 #[.slice a n c, .slice a2 m c2, .int .i64 (q : Int)] w fun e w' => e = .returned (.bool (befF (kdF z n) (A.take q).reverse)) ∧ Below w.heap.size w w' := by
  have H := Lib.hid (And.intro hK (And.intro hT (And.intro hA hs)))
  have i0 : IntKind.i64.wrap ((q : Int) - 1) = (q : Int) - 1 := IntWalk.i64_in _ ⟨by omega, by omega⟩
  clear hK hT hA hs
  go_enter Try.func18, Try.ntmps18
  go_wp2_with fail
  go_loopw [7] (fun v7 wr => ∃ (i : Int) (k : Nat), v7 = .int .i64 i ∧ (k : Int) - 1 = i ∧ k ≤ q ∧ Hid (befF (kdF z n) (A.take q).reverse = befF (kdF z n) (A.take k).reverse ∧ Below w.heap.size w wr)) (fun v _ => (nV v + 1).toNat)
  case atStart => exact ⟨_, q, rfl, rfl, Nat.le_refl _, rfl, Below.refl _ _⟩
  case round =>
    obtain ⟨i, k, rfl, hi, hk, HX⟩ := hrel
    by_cases h0 : k = 0
    · have i1 : ¬ (0 ≤ i) := by omega
      have h1 := HX.out.1
      rw [h0, List.take_zero, List.reverse_nil, befF] at h1
      have HE := Lib.hid h1
      clear h1 h0 hi
      go_wp2_with fail
      go_ret
      exact ⟨by rw [HE.out]; rfl, HX.out.2⟩
    · obtain ⟨j, rfl⟩ : ∃ j, k = j + 1 := ⟨k - 1, by omega⟩
      obtain rfl : i = (j : Int) := by omega
      have i1 : (0 : Int) ≤ (j : Int) := by omega
      have hjm : j < m := by omega
      have i2 : (j : Int) < (m : Int) := by omega
      have i3 : IntKind.i64.wrap ((j : Int) - 1) = (j : Int) - 1 := IntWalk.i64_in _ ⟨by omega, by omega⟩
      have hkA : j < A.length := by rw [H.out.2.2.1]; exact hjm
      obtain ⟨g1, o1, rfl, hg1, x0, x1, x2⟩ := (H.out.2.1.below HX.out.2).get j hkA
      have HT := Lib.hid (HX.out.1.trans (befF_take hkA))
      have hsm := H.out.2.2.2 A[j] (List.getElem_mem hkA)
      generalize A[j] = x at x0 x1 x2 HT hsm
      have HC := Lib.hid (counts14_any n c a z x wr (H.out.1.below HX.out.2))
      have HQ := Lib.hid (fun W h => rkind14_any n c a z x W h)
      have HK := Lib.hid (fun W => rbreaks14_any x.s _ rfl (by omega) W)
      have Hg := Lib.hid hg1
      clear hkA hi hg1 hsm
      generalize kdF z n x.r = kx at HT HC HQ
      rcases hq0 : (kx == 0) with _ | _
      · have hn0 : ¬ kx = 0 := by simpa using hq0
        rw [if_neg hn0] at HT
        rw [hq0, Bool.false_or] at HC
        rcases hq2 : (kx == 2) with _ | _
        · have hn2 : ¬ kx = 2 := by simpa using hq2
          rw [if_neg hn2] at HT
          rw [hq2] at HC
          clear hn0 hn2
          rcases hb : bkF x.s with _ | _
          · rw [hb, if_neg (by decide)] at HT
            go_wp2_with (first
              | (go_at_call 26; refine HC.out.mono ?_; rintro e w2 ⟨rfl, b2⟩
                 have y1 := (b2.cell (p := ⟨g1, o1 + j * 3 + 1, none⟩) Hg.out).trans x1
                 have H2 := Lib.hid (HX.out.2.trans (b2.mono HX.out.2.size))
                 clear b2)
              | (go_at_call 16; refine (HK.out _).mono ?_; rintro e w3 ⟨rfl, rfl⟩))
            go_roundw
            case rel => exact ⟨_, j, rfl, rfl, by omega, HT.out, H2.out⟩
            case measure => first | omega | (simp [nV]; done) | (simp [nV]; omega)
          · rw [hb, if_pos rfl] at HT
            go_wp2_with (first
              | (go_at_call 26; refine HC.out.mono ?_; rintro e w2 ⟨rfl, b2⟩
                 have y1 := (b2.cell (p := ⟨g1, o1 + j * 3 + 1, none⟩) Hg.out).trans x1
                 have H2 := Lib.hid (HX.out.2.trans (b2.mono HX.out.2.size))
                 clear b2)
              | (go_at_call 16; refine (HK.out _).mono ?_; rintro e w3 ⟨rfl, rfl⟩))
            go_ret
            exact ⟨by rw [HT.out]; rfl, H2.out⟩
        · have hn2 : kx = 2 := by simpa using hq2
          rw [if_pos hn2] at HT
          rw [hq2] at HC
          have HT2 : Hid (befF (kdF z n) (A.take q).reverse = bkF x.s) := by
            show _ = _
            rw [HT.out]
            cases bkF x.s <;> rfl
          clear hn0 hn2 HT
          go_wp2_with (first
            | (go_at_call 26; refine HC.out.mono ?_; rintro e w2 ⟨rfl, b2⟩
               have y0 := (b2.cell (p := ⟨g1, o1 + j * 3, none⟩) Hg.out).trans x0
               have y1 := (b2.cell (p := ⟨g1, o1 + j * 3 + 1, none⟩) Hg.out).trans x1
               have y2 := (b2.cell (p := ⟨g1, o1 + j * 3 + 2, none⟩) Hg.out).trans x2
               have H2 := Lib.hid (And.intro (HX.out.2.trans (b2.mono HX.out.2.size)) (Nat.lt_of_lt_of_le Hg.out b2.size))
               have hkz := H.out.1.below H2.out.1
               clear b2)
            | (go_at_call 14; refine (HQ.out _ hkz).mono ?_; rintro e w4 ⟨rfl, b4⟩
               have y1' := (b4.cell (p := ⟨g1, o1 + j * 3 + 1, none⟩) H2.out.2).trans y1
               have H4 := Lib.hid (H2.out.1.trans (b4.mono H2.out.1.size))
               clear b4)
            | (go_at_call 16; refine (HK.out _).mono ?_; rintro e w3 ⟨rfl, rfl⟩))
          go_ret
          exact ⟨by rw [HT2.out]; rfl, H4.out⟩
      · have hn0 : kx = 0 := by simpa using hq0
        rw [if_pos hn0] at HT
        rw [hq0, Bool.true_or] at HC
        have hq2 : (kx == 2) = false := by rw [hn0]; rfl
        clear hn0
        go_wp2_with (first
            | (go_at_call 26; refine HC.out.mono ?_; rintro e w2 ⟨rfl, b2⟩
               have y0 := (b2.cell (p := ⟨g1, o1 + j * 3, none⟩) Hg.out).trans x0
               have y1 := (b2.cell (p := ⟨g1, o1 + j * 3 + 1, none⟩) Hg.out).trans x1
               have y2 := (b2.cell (p := ⟨g1, o1 + j * 3 + 2, none⟩) Hg.out).trans x2
               have H2 := Lib.hid (HX.out.2.trans (b2.mono HX.out.2.size))
               have hkz := H.out.1.below H2.out
               clear b2)
            | (go_at_call 14; refine (HQ.out _ hkz).mono ?_; rintro e w4 ⟨rfl, b4⟩))
        go_ret
        exact ⟨by rw [HT.out]; rfl, H2.out.trans (b4.mono H2.out.size)⟩

set_option maxHeartbeats 2000000 in
set_option maxRecDepth 100000 in
theorem rbehind14_any (n c : Nat) (a : Option Addr) (z : Nat → Int) (m c2 : Nat) (a2 : Option Addr) (A : List Tok) (q : Nat) (hA : A.length = m) (hm : m ≤ 100000) (hs : ∀ t ∈ A, t.s.size ≤ 100000) (hq : q < A.length) (w : World) (hK : ZAt w a n z) (hT : TkAt w a2 A) :
    Calls Try.prog 19 #[.slice a n c, .slice a2 m c2, .int .i64 (q : Int)] w fun e w' => e = .returned (.bool (bkF A[q].s || behF (kdF z n) (A.drop (q + 1)))) ∧ Below w.heap.size w w' := by
  have hqm : q < m := by rw [← hA]; exact hq
  have H := Lib.hid (And.intro hK (And.intro hT (And.intro hA hs)))
  obtain ⟨g1, o1, rfl, hg1, x0, x1, x2⟩ := hT.get q hq
  have hsm := hs A[q] (List.getElem_mem hq)
  generalize A[q] = x at x0 x1 x2 hsm ⊢
  have HK := Lib.hid (fun W => rbreaks14_any x.s _ rfl (by omega) W)
  have i2 : (q : Int) < (m : Int) := by omega
  clear hK hT hA hs hg1 hsm hq
  go_enter Try.func19, Try.ntmps19
  rcases hb : bkF x.s with _ | _
  · rw [Bool.false_or]
    go_upto_region 3 with (go_at_call 16; refine (HK.out _).mono ?_; rintro e w3 ⟨rfl, rfl⟩)
    clear HK x0 x1 x2
    go_wp2_with fail
    go_loopw [7] (fun v7 wr => ∃ k : Nat, v7 = .int .i64 k ∧ k ≤ m ∧ Hid (behF (kdF z n) (A.drop (q + 1)) = behF (kdF z n) (A.drop k) ∧ Below w3.heap.size w3 wr)) (fun v _ => m - (nV v).toNat)
    case atStart => exact ⟨q + 1, by go_num, by omega, rfl, Below.refl _ _⟩
    case round =>
      obtain ⟨k, rfl, hk, HX⟩ := hrel
      by_cases hlt : k < m
      · have i3 : (k : Int) < (m : Int) := by omega
        have hkA : k < A.length := by rw [H.out.2.2.1]; exact hlt
        obtain ⟨g2, o2, e9, hg2, y0, y1, y2⟩ := (H.out.2.1.below HX.out.2).get k hkA
        injection e9 with e9; injection e9 with e9 e10
        subst e9 e10
        have HT := Lib.hid (HX.out.1.trans (behF_drop hkA))
        have hsm := H.out.2.2.2 A[k] (List.getElem_mem hkA)
        generalize A[k] = x at y0 y1 y2 HT hsm
        have HC := Lib.hid (counts14_any n c a z x wr (H.out.1.below HX.out.2))
        have HK := Lib.hid (fun W => rbreaks14_any x.s _ rfl (by omega) W)
        have Hg := Lib.hid hg2
        clear hkA hg2 hsm
        generalize kdF z n x.r = kx at HT HC
        rcases hq0 : (kx == 0) with _ | _
        · have hn0 : ¬ kx = 0 := by simpa using hq0
          rw [if_neg hn0] at HT
          rw [hq0, Bool.false_or] at HC
          rcases hq2 : (kx == 2) with _ | _
          · have hn2 : ¬ kx = 2 := by simpa using hq2
            rw [if_neg hn2] at HT
            rw [hq2] at HC
            clear hn0 hn2
            rcases hb2 : bkF x.s with _ | _
            · rw [hb2, if_neg (by decide)] at HT
              go_wp2_with (first
                | (go_at_call 26; refine HC.out.mono ?_; rintro e w2 ⟨rfl, b2⟩
                   have v1 := (b2.cell (p := ⟨g1, o1 + k * 3 + 1, none⟩) Hg.out).trans y1
                   have H2 := Lib.hid (HX.out.2.trans (b2.mono HX.out.2.size))
                   clear b2)
                | (go_at_call 16; refine (HK.out _).mono ?_; rintro e w5 ⟨rfl, rfl⟩))
              go_roundw
              case rel => exact ⟨k + 1, by go_num, by omega, HT.out, H2.out⟩
              case measure => simp [nV]; omega
            · rw [hb2, if_pos rfl] at HT
              go_wp2_with (first
                | (go_at_call 26; refine HC.out.mono ?_; rintro e w2 ⟨rfl, b2⟩
                   have v1 := (b2.cell (p := ⟨g1, o1 + k * 3 + 1, none⟩) Hg.out).trans y1
                   have H2 := Lib.hid (HX.out.2.trans (b2.mono HX.out.2.size))
                   clear b2)
                | (go_at_call 16; refine (HK.out _).mono ?_; rintro e w5 ⟨rfl, rfl⟩))
              go_ret
              exact ⟨by rw [HT.out]; rfl, H2.out⟩
          · have hn2 : kx = 2 := by simpa using hq2
            rw [if_pos hn2] at HT
            rw [hq2] at HC
            clear hn0 hn2
            go_wp2_with (go_at_call 26; refine HC.out.mono ?_; rintro e w2 ⟨rfl, b2⟩)
            go_ret
            exact ⟨by rw [HT.out]; rfl, HX.out.2.trans (b2.mono HX.out.2.size)⟩
        · have hn0 : kx = 0 := by simpa using hq0
          rw [if_pos hn0] at HT
          rw [hq0, Bool.true_or] at HC
          clear hn0
          go_wp2_with (go_at_call 26; refine HC.out.mono ?_; rintro e w2 ⟨rfl, b2⟩)
          go_ret
          exact ⟨by rw [HT.out]; rfl, HX.out.2.trans (b2.mono HX.out.2.size)⟩
      · obtain rfl : k = m := by omega
        have h1 := HX.out.1
        have h0 : A.drop k = [] := List.drop_of_length_le (by rw [H.out.2.2.1]; exact Nat.le_refl _)
        rw [h0] at h1
        clear h0
        have HE := Lib.hid h1
        clear h1
        go_wp2_with fail
        go_ret
        exact ⟨by rw [HE.out]; rfl, HX.out.2⟩
  · rw [Bool.true_or]
    go_wp2_with (go_at_call 16; refine (HK.out _).mono ?_; rintro e w3 ⟨rfl, rfl⟩)
    go_ret
    exact ⟨rfl, Below.refl _ _⟩
end Go.Proofs.Ytghhjonhmelohaa
