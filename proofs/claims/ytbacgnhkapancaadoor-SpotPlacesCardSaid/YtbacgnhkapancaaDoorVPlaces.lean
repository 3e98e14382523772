import Derived.Test.YtbacgnhkapancaaDoorVAwk
import Derived.Test.YtbacgnhkapancaaDoorVROf
import Derived.Test.YtbacgnhkapancaaDoorVAt
namespace Go.Proofs.YtbacgnhkapancaaDoor
open Go.RowKit Go.Maps Go.WideElems Go.ChangeMaps Go.MapKept
set_option linter.unusedVariables false
set_option linter.unusedSimpArgs false

/-- A place that is asked for. -/
def Pl (s : ByteArray) (L C : Int) (i : Nat) : Prop := ((lnF (bz s) i : Nat) : Int) = L ∧ (i : Int) - ((frF (bz s) i : Nat) : Int) + 1 = C
theorem Pl.uniq {s : ByteArray} {L C : Int} {i j : Nat} (h : Pl s L C i) (k : Pl s L C j) : i = j := by
  have h1 := frF_le (bz s) i
  have h2 := frF_le (bz s) j
  exact place_uniq (z := bz s) (by have := h.1; have := k.1; omega) (by have := h.2; have := k.2; omega)
def Wnt (s : ByteArray) (m : Nat) (L C : Int) (k : Nat) (v : Int) : Prop := (v = -1 ∧ ∀ i, i < k → ¬ Pl s L C i) ∨ ∃ i : Nat, i < k ∧ i ≤ m ∧ v = (i : Int) ∧ Pl s L C i

set_option maxHeartbeats 2000000 in
set_option maxRecDepth 100000 in
theorem spotPlaces_law (s : ByteArray) (x L C : Int) (hC : C ≤ 9223372036854775807) (hs9 : s.size ≤ 9223372036854775807) (w : World) :
    Calls Tryd.prog 3 #[.string s, .int .i64 x, .agg #[.int .i64 L, .int .i64 C]] w fun e w' => e = .returned (.bool true) ∧ Below w.heap.size w w' := by
  obtain ⟨m, hs⟩ : ∃ m, s.size = m := ⟨_, rfl⟩
  have HS := Lib.hid hs
  go_enter Tryd.func3, Tryd.ntmps3
  go_upto_region 1 with fail
  have k0 := al w (.cells #[.int .i64 L, .int .i64 C] 23)
  have s0 := Bl.new w 23 #[.int .i64 L, .int .i64 C]
  have z0 : (w.alloc (.cells #[.int .i64 L, .int .i64 C] 23)).heap.size = w.heap.size + 1 := by simp
  generalize w.alloc (.cells #[.int .i64 L, .int .i64 C] 23) = W0 at k0 s0 z0 ⊢
  have H0 := Lib.hid (And.intro k0 (And.intro s0 z0))
  clear k0 s0 z0
  have HA := Lib.hid (awake13_any W0)
  go_wp2_with (go_at_call 6; refine HA.out.mono ?_; rintro e W1 ⟨rfl, kb⟩; refine Hid.out ?_)
  refine Lib.hid ?_
  have H1 : Hid (Below w.heap.size w W1 ∧ Bl W1 23 w.heap.size #[.int .i64 L, .int .i64 C] ∧ w.heap.size < W1.heap.size) := ⟨H0.out.1.trans (kb.mono H0.out.1.size), H0.out.2.1.below kb (by have := H0.out.2.2; omega), by have := H0.out.2.2; have := kb.size; omega⟩
  clear kb HA H0
  by_cases hm : 300 < m
  · have i0 : (300 : Int) < (m : Int) := by omega
    go_wp2_with fail
    go_ret
    exact ⟨rfl, H1.out.1⟩
  · have i0 : ¬ ((300 : Int) < (m : Int)) := by omega
    have HC := Lib.hid (clp_min m x)
    have hcl := clp_le m x
    have HO := Lib.hid (rof13_any s x m HS.out (by omega) W1)
    have HP := Lib.hid (sof13_any s x m HS.out (by omega) W1)
    generalize clp m x = n at HC hcl HO HP
    go_wp2_with (go_at_call 7; refine HO.out.mono ?_; rintro e W9 ⟨rfl, rfl⟩; refine Hid.out ?_)
    refine Lib.hid ?_
    clear HO
    go_wp2_with (go_at_call 8; refine HP.out.mono ?_; rintro e W2 ⟨rfl, kb⟩; refine Hid.out ?_)
    refine Lib.hid ?_
    have hl := lnF_le (bz s) n
    have hf := frF_le (bz s) n
    have H2 : Hid (Below w.heap.size w W2 ∧ Bl W2 23 w.heap.size #[.int .i64 L, .int .i64 C] ∧ w.heap.size < W2.heap.size) := ⟨H1.out.1.trans (kb.mono H1.out.1.size), H1.out.2.1.below kb H1.out.2.2, by have := H1.out.2.2; have := kb.size; omega⟩
    clear kb HP H1
    generalize hA : lnF (bz s) n = A at hl ⊢
    generalize hB : (n : Int) - ((frF (bz s) n : Nat) : Int) + 1 = B
    have hBu : B ≤ 9223372036854775807 := by omega
    have HAB := Lib.hid (And.intro hA hB)
    clear hA hB
    go_upto_region 7 with fail
    have kb := al W2 (.cells #[.int .i64 (A : Int), .int .i64 B] 23)
    have s9 := Bl.new W2 23 #[.int .i64 (A : Int), .int .i64 B]
    have z9 : (W2.alloc (.cells #[.int .i64 (A : Int), .int .i64 B] 23)).heap.size = W2.heap.size + 1 := by simp
    obtain ⟨b9, hb9⟩ : ∃ b9, W2.heap.size = b9 := ⟨_, rfl⟩
    have H3 : Hid (Below w.heap.size w (W2.alloc (.cells #[.int .i64 (A : Int), .int .i64 B] 23)) ∧ Bl (W2.alloc (.cells #[.int .i64 (A : Int), .int .i64 B] 23)) 23 w.heap.size #[.int .i64 L, .int .i64 C] ∧ Bl (W2.alloc (.cells #[.int .i64 (A : Int), .int .i64 B] 23)) 23 b9 #[.int .i64 (A : Int), .int .i64 B]) := ⟨H2.out.1.trans (kb.mono H2.out.1.size), H2.out.2.1.below kb H2.out.2.2, hb9 ▸ s9⟩
    rw [hb9]
    generalize W2.alloc (.cells #[.int .i64 (A : Int), .int .i64 B] 23) = W3 at H3 ⊢
    clear kb s9 z9 H2 hb9
    obtain ⟨c0, c1, _, _⟩ := H3.out.2.2.row2
    have HT := Lib.hid (at13_any s (A : Int) B hBu m HS.out (by omega) W3)
    go_wp2_with (go_at_call 9; refine HT.out.mono ?_; rintro e W4 ⟨v, k, rfl, hP, kb⟩; refine Hid.out ?_)
    refine Lib.hid ?_
    have hvk : v = (n : Int) ∧ k = 0 := by
      rcases hP with ⟨hk0, i, hi, hv, h1, h2⟩ | ⟨_, _, h9⟩
      · have hu := Pl.uniq (s := s) (L := (A : Int)) (C := B) (i := i) (j := n) ⟨h1, h2⟩ ⟨by rw [HAB.out.1], HAB.out.2⟩
        exact ⟨by rw [hv, hu], hk0⟩
      · exact absurd HAB.out.2 (h9 n hcl (by rw [HAB.out.1]))
    obtain ⟨rfl, rfl⟩ := hvk
    have H4 : Hid (Below w.heap.size w W4 ∧ Bl W4 23 w.heap.size #[.int .i64 L, .int .i64 C] ∧ Bl W4 23 b9 #[.int .i64 (A : Int), .int .i64 B]) := ⟨H3.out.1.trans (kb.mono H3.out.1.size), H3.out.2.1.below kb H3.out.2.1.lt, H3.out.2.2.below kb H3.out.2.2.lt⟩
    clear hP kb HT H3 c0 c1
    obtain ⟨c0, c1, _, _⟩ := H4.out.2.2.row2
    have e1 : ((A : Int) != (A : Int)) = false := by simp
    have e2 : (B != B) = false := by simp
    have e3 : ((n : Int) != (n : Int)) = false := by simp
    have hc := HC.out
    go_upto_region 10 with fail
    clear hc c0 c1 e1 e2 e3
    go_wp2_with fail
    have hW0 : Hid (Wnt s m L C 0 (-1)) := Or.inl ⟨rfl, fun i h => by omega⟩
    go_loopw [12, 13, 14, 15] (fun v12 v13 _ _ wr => ∃ (k : Nat) (wv : Int), k ≤ m + 1 ∧ v12 = .int .i64 wv ∧ v13 = .int .i64 (k : Int) ∧ Hid (Wnt s m L C k wv ∧ Below w.heap.size w wr ∧ Bl wr 23 w.heap.size #[.int .i64 L, .int .i64 C])) (fun _ v _ _ _ => m + 1 - (nV v).toNat)
    case atStart => exact ⟨0, -1, Nat.zero_le _, rfl, rfl, hW0.out, H4.out.1, H4.out.2.1⟩
    case round =>
      obtain ⟨k, wv, hk, rfl, rfl, HX⟩ := hrel
      by_cases hlt : k ≤ m
      · have i1 : (k : Int) ≤ (m : Int) := by omega
        have HO : Hid (Calls Tryd.prog 7 #[.string s, .int .i64 (k : Int)] wr fun e w' => e = .returned (.tuple #[.int .i64 ((lnF (bz s) k : Nat) : Int), .int .i64 ((k : Int) - ((frF (bz s) k : Nat) : Int) + 1)]) ∧ w' = wr) := by
          have := rof13_any s (k : Int) m HS.out (by omega) wr
          rw [clp_nat hlt] at this
          exact this
        obtain ⟨c0, c1, _, _⟩ := HX.out.2.2.row2
        go_wp2_with (go_at_call 7; refine HO.out.mono ?_; rintro e W9 ⟨rfl, rfl⟩; refine Hid.out ?_)
        refine Lib.hid ?_
        clear HO
        have HPl : Hid (Pl s L C k ↔ ((lnF (bz s) k : Nat) : Int) = L ∧ (k : Int) - ((frF (bz s) k : Nat) : Int) + 1 = C) := Iff.rfl
        generalize ((lnF (bz s) k : Nat) : Int) = l9 at HPl ⊢
        generalize (k : Int) - ((frF (bz s) k : Nat) : Int) + 1 = q9 at HPl ⊢
        by_cases hL : l9 = L
        · have hL9 : (l9 == L) = true := by simp [hL]
          have HL := Lib.hid hL
          clear hL
          by_cases hQ : q9 = C
          · have hQ9 : (q9 == C) = true := by simp [hQ]
            have HQ := Lib.hid hQ
            clear hQ
            go_wp2_with fail
            go_roundw
            case rel => exact ⟨k + 1, k, by omega, rfl, by go_num, Or.inr ⟨k, by omega, hlt, rfl, HPl.out.2 ⟨HL.out, HQ.out⟩⟩, HX.out.2⟩
            case measure => simp [nV]; omega
          · have hQ9 : (q9 == C) = false := by simp [hQ]
            have HQ := Lib.hid hQ
            clear hQ
            go_wp2_with fail
            go_roundw
            case rel =>
              refine ⟨k + 1, wv, by omega, rfl, by go_num, ?_, HX.out.2⟩
              rcases HX.out.1 with ⟨h1, h2⟩ | ⟨i, h1, h2⟩
              · refine Or.inl ⟨h1, fun i hi => ?_⟩
                by_cases e : i < k
                · exact h2 i e
                · rw [show i = k by omega]; exact fun h => HQ.out (HPl.out.1 h).2
              · exact Or.inr ⟨i, by omega, h2⟩
            case measure => simp [nV]; omega
        · have hL9 : (l9 == L) = false := by simp [hL]
          have HL := Lib.hid hL
          clear hL
          go_wp2_with fail
          go_roundw
          case rel =>
            refine ⟨k + 1, wv, by omega, rfl, by go_num, ?_, HX.out.2⟩
            rcases HX.out.1 with ⟨h1, h2⟩ | ⟨i, h1, h2⟩
            · refine Or.inl ⟨h1, fun i hi => ?_⟩
              by_cases e : i < k
              · exact h2 i e
              · rw [show i = k by omega]; exact fun h => HL.out (HPl.out.1 h).1
            · exact Or.inr ⟨i, by omega, h2⟩
          case measure => simp [nV]; omega
      · have i1 : ¬ ((k : Int) ≤ (m : Int)) := by omega
        have HW : Hid ((wv = -1 ∧ ∀ i, i ≤ m → ¬ Pl s L C i) ∨ ∃ i : Nat, i ≤ m ∧ wv = (i : Int) ∧ Pl s L C i) := by
          rcases HX.out.1 with ⟨h1, h2⟩ | ⟨i, _, h2⟩
          · exact Or.inl ⟨h1, fun i hi => h2 i (by omega)⟩
          · exact Or.inr ⟨i, h2⟩
        obtain ⟨c0, c1, _, _⟩ := HX.out.2.2.row2
        have HT := Lib.hid (at13_any s L C hC m HS.out (by omega) wr)
        go_wp2_with (go_at_call 9; refine HT.out.mono ?_; rintro e W5 ⟨v, k5, rfl, hP, kb⟩; refine Hid.out ?_)
        refine Lib.hid ?_
        have HF := Lib.hid (HX.out.2.1.trans (kb.mono HX.out.2.1.size))
        clear kb c0 c1 HT
        have hres : (0 ≤ wv ∧ v = wv ∧ k5 = 0) ∨ (wv = -1 ∧ v = 0 ∧ k5 = 1) := by
          rcases HW.out with ⟨h1, h2⟩ | ⟨i, hi, h1, h2⟩
          · rcases hP with ⟨_, j, hj, _, e1, e2⟩ | ⟨h3, h4, _⟩
            · exact absurd ⟨e1, e2⟩ (h2 j hj)
            · exact Or.inr ⟨h1, h4, h3⟩
          · rcases hP with ⟨h3, j, hj, hv, e1, e2⟩ | ⟨_, _, h9⟩
            · have := Pl.uniq (s := s) ⟨e1, e2⟩ h2
              exact Or.inl ⟨by omega, by omega, h3⟩
            · exact absurd h2.2 (h9 i hi h2.1)
        clear hP
        rcases hres with ⟨h1, rfl, rfl⟩ | ⟨rfl, rfl, rfl⟩
        · have e1 : (v == v) = true := by simp
          go_wp2_with fail
          go_ret
          exact ⟨rfl, HF.out⟩
        · go_wp2_with fail
          go_ret
          exact ⟨rfl, HF.out⟩
end Go.Proofs.YtbacgnhkapancaaDoor
