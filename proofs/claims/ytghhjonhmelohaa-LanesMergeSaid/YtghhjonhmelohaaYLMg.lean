import Derived.Test.YtghhjonhmelohaaYAwk
import Derived.Test.YtghhjonhmelohaaYROf
import Derived.Test.YtghhjonhmelohaaYSame
import Derived.Test.YtghhjonhmelohaaYMerge
import Derived.Test.YtghhjonhmelohaaTk
namespace Go.Proofs.Ytghhjonhmelohaa
open Go.RowKit Go.Maps Go.WideElems Go.ChangeMaps Go.MapKept
set_option linter.unusedVariables false
set_option linter.unusedSimpArgs false

theorem below_drewY {B n : Nat} {w w' : World} (h : Below B w w') : Below B w (w'.drewN n) := ⟨h.os, h.tape, h.output, h.size, h.block⟩
theorem mg_stepA {A B pre : List Tok} {i k : Nat} (h : mgF A B = pre ++ mgF (A.drop i) (B.drop k)) (hi : i < A.length) (hc : B.length ≤ k ∨ ∃ hk : k < B.length, ¬ (B[k].p < A[i].p)) : mgF A B = (pre ++ [A[i]]) ++ mgF (A.drop (i + 1)) (B.drop k) := by
  rw [h, List.drop_eq_getElem_cons hi, mg_takeA, List.append_assoc]
  · rfl
  · rcases hc with hc | ⟨hk, hc⟩
    · exact Or.inl (List.drop_of_length_le hc)
    · exact Or.inr ⟨B[k], B.drop (k + 1), List.drop_eq_getElem_cons hk, hc⟩
theorem mg_stepB {A B pre : List Tok} {i k : Nat} (h : mgF A B = pre ++ mgF (A.drop i) (B.drop k)) (hk : k < B.length) (hc : A.length ≤ i ∨ ∃ hi : i < A.length, B[k].p < A[i].p) : mgF A B = (pre ++ [B[k]]) ++ mgF (A.drop i) (B.drop (k + 1)) := by
  rw [h, List.drop_eq_getElem_cons hk, mg_takeB, List.append_assoc]
  · rfl
  · rcases hc with hc | ⟨hi, hc⟩
    · exact Or.inl (List.drop_of_length_le hc)
    · exact Or.inr ⟨A[i], A.drop (i + 1), List.drop_eq_getElem_cons hi, hc⟩
theorem at_snoc {α : Type} {L pre r : List α} {x : α} {n : Nat} (h : L = (pre ++ [x]) ++ r) (hn : pre.length = n) : ∃ h : n < L.length, L[n] = x := by
  subst h
  subst hn
  refine ⟨by simp, ?_⟩
  simp
theorem rise_of {A : List Tok} (h : ∀ j (hj : j + 1 < A.length), A[j].p < A[j + 1].p) : RiseF A := by
  unfold RiseF
  rw [List.pairwise_iff_getElem]
  intro i j hi hj hij
  obtain ⟨d, rfl⟩ : ∃ d, j = i + 1 + d := ⟨j - (i + 1), by omega⟩
  induction d with
  | zero => exact h i hj
  | succ d ih =>
    have h1 := ih (by omega) (by omega)
    have h2 := h (i + 1 + d) (by omega)
    have e : A[i + 1 + (d + 1)] = A[i + 1 + d + 1] := rfl
    rw [e]
    omega
/-- Those of the first tokens that are no main ones. -/
def noF (k : Int → Int) (l : List Tok) : List Tok := l.filter (fun t => !(k t.r == 0))
theorem noF_take {k : Int → Int} {l : List Tok} {i : Nat} (h : i < l.length) : noF k (l.take (i + 1)) = noF k (l.take i) ++ (if k l[i].r == 0 then [] else [l[i]]) := by
  unfold noF
  rw [List.take_succ_eq_append_getElem h, List.filter_append]
  cases hk : k l[i].r == 0 <;> simp [hk]

set_option maxHeartbeats 2000000 in
set_option maxRecDepth 100000 in
theorem lanesMerge_any (n c : Nat) (a : Option Addr) (z : Nat → Int) (m c2 : Nat) (a2 : Option Addr) (A : List Tok) (m3 c3 : Nat) (a3 : Option Addr) (B : List Tok) (hA : A.length = m) (hB : B.length = m3) (hmc : m ≤ c2) (hmc3 : m3 ≤ c3) (w : World) (hK : ZAt w a n z) (hT : TkAt w a2 A) (hU : TkAt w a3 B) :
    Calls Try.prog 5 #[.slice a n c, .slice a2 m c2, .slice a3 m3 c3] w fun e w' => e = .returned (.bool true) ∧ Below w.heap.size w w' := by
  have H := Lib.hid (And.intro hK (And.intro hT (And.intro hU (And.intro hA hB))))
  have HW := Lib.hid (awake14_any w)
  clear hK hT hU hA hB
  go_enter Try.func5, Try.ntmps5
  go_upto_region 3 with (go_at_call 6; refine HW.out.mono ?_; rintro e w1 ⟨rfl, b1⟩)
  have H1 := Lib.hid b1
  have HF := Lib.hid (few14_any m c2 a2 A H.out.2.2.2.1 w1 (H.out.2.1.below b1))
  clear b1 HW
  go_wp2_with (go_at_call 7; refine HF.out.mono ?_)
  rintro e w2 ⟨bo, rfl, hbo, b2⟩
  have H2 := Lib.hid (H1.out.trans (b2.mono H1.out.size))
  clear b2 HF H1
  rcases bo with _ | _
  · clear hbo
    go_wp2_with fail
    go_ret
    exact ⟨rfl, H2.out⟩
  have HB := Lib.hid (hbo rfl)
  clear hbo
  have HF := Lib.hid (few14_any m3 c3 a3 B H.out.2.2.2.2 w2 (H.out.2.2.1.below H2.out))
  go_wp2_with (go_at_call 7; refine HF.out.mono ?_)
  rintro e w3 ⟨bo, rfl, hbo, b3⟩
  have H3 := Lib.hid (H2.out.trans (b3.mono H2.out.size))
  clear b3 HF H2
  rcases bo with _ | _
  · clear hbo
    go_wp2_with fail
    go_ret
    exact ⟨rfl, H3.out⟩
  have HB3 := Lib.hid (hbo rfl)
  clear hbo
  have hm60 := HB.out.1
  have hm360 := HB3.out.1
  by_cases h60 : 60 < n
  · have i1 : (60 : Int) < (n : Int) := by omega
    go_wp2_with fail
    go_ret
    exact ⟨rfl, H3.out⟩
  have i1 : ¬ ((60 : Int) < (n : Int)) := by omega
  have HSz : Hid (∀ t ∈ A, t.s.size ≤ 100000) := fun t ht => by have := HB.out.2 t ht; omega
  have HSz3 : Hid (∀ t ∈ B, t.s.size ≤ 100000) := fun t ht => by have := HB3.out.2 t ht; omega
  have HMe := Lib.hid (merge_any m c2 a2 A m3 c3 a3 B H.out.2.2.2.1 H.out.2.2.2.2 (by omega) (by omega) hmc hmc3 HSz.out HSz3.out w3 (H.out.2.1.below H3.out) (H.out.2.2.1.below H3.out))
  clear h60
  go_upto_region 5 with fail
  go_wp2_with (go_at_call 20; refine HMe.out.mono ?_)
  rintro e w4 ⟨ab, cb, rfl, tb4, b4, _⟩
  have HLn : Hid ((mgF A B).length = m + m3) := by show _ = _; rw [mgF_len, H.out.2.2.2.1, H.out.2.2.2.2]
  rw [HLn.out]
  have H4 := Lib.hid (And.intro tb4 (H3.out.trans (b4.mono H3.out.size)))
  clear tb4 b4 HMe H3
  have iw : IntKind.i64.wrap ((m : Int) + (m3 : Int)) = (m : Int) + (m3 : Int) := IntWalk.i64_in _ ⟨by omega, by omega⟩
  go_upto_region 8 with fail
  go_wp2_with fail
  go_loopw [8, 9, 10, 11] (fun v8 v9 v10 _ wr => ∃ (i k t : Nat) (pre : List Tok), v8 = .int .i64 ((i : Nat) : Int) ∧ v9 = .int .i64 ((k : Nat) : Int) ∧ v10 = .int .i64 ((t : Nat) : Int) ∧ i ≤ m ∧ k ≤ m3 ∧ Hid (t = i + k ∧ mgF A B = pre ++ mgF (A.drop i) (B.drop k) ∧ pre.length = t ∧ TkAt wr ab (mgF A B) ∧ Below w.heap.size w wr)) (fun v8 v9 _ _ _ => m + m3 - ((nV v8).toNat + (nV v9).toNat))
  case atStart => exact ⟨0, 0, 0, [], rfl, rfl, rfl, Nat.zero_le _, Nat.zero_le _, rfl, rfl, rfl, H4.out⟩
  case round =>
    clear H4 iw
    obtain ⟨i, k, t, pre, rfl, rfl, rfl, hi, hk, HX⟩ := hrel
    by_cases hlt : t < m + m3
    · have i2 : (t : Int) < (m : Int) + (m3 : Int) := by omega
      have ht9 := HX.out.1
      by_cases hkm : k < m3
      · have hkB : k < B.length := by rw [H.out.2.2.2.2]; exact hkm
        obtain ⟨g3, o3, rfl, hg3, y0, y1, y2⟩ := (H.out.2.2.1.below HX.out.2.2.2.2).get k hkB
        have k1 : ¬ ((m3 : Int) ≤ (k : Int)) := by omega
        have k1d : decide ((m3 : Int) ≤ (k : Int)) = false := by simp; omega
        have k2 : (k : Int) < (m3 : Int) := by omega
        by_cases him : i < m
        · have hiA : i < A.length := by rw [H.out.2.2.2.1]; exact him
          obtain ⟨g1, o1, rfl, hg1, x0, x1, x2⟩ := (H.out.2.1.below HX.out.2.2.2.2).get i hiA
          have k3 : (i : Int) < (m : Int) := by omega
          have k3d : decide ((i : Int) < (m : Int)) = true := by simp; omega
          clear hg1 hg3 ht9
          by_cases hxy : B[k].p < A[i].p
          · have k4 : ¬ (A[i].p ≤ B[k].p) := by omega
            have HS9 := mg_stepB HX.out.2.1 hkB (Or.inr ⟨hiA, hxy⟩)
            obtain ⟨hLt, hLe⟩ := at_snoc HS9 HX.out.2.2.1
            obtain ⟨g4, o4, rfl, hg4, v0, v1, v2⟩ := HX.out.2.2.2.1.get t hLt
            rw [hLe] at v0 v1 v2
            have HS := Lib.hid HS9
            clear HS9 hLe hLt hg4
            go_wp2_with fail
            go_quiet (fail)
            go_wp2_with fail
            go_quiet (fail)
            go_wp2_with fail
            go_roundw
            case rel => exact ⟨i, k + 1, t + 1, _, rfl, by go_num, by go_num, by omega, by omega, by have := HX.out.1; omega, HS.out, by rw [List.length_append, HX.out.2.2.1]; rfl, HX.out.2.2.2.1, below_drewY HX.out.2.2.2.2⟩
            case measure => simp [nV]; omega
          · have k4 : A[i].p ≤ B[k].p := by omega
            have HS9 := mg_stepA HX.out.2.1 hiA (Or.inr ⟨hkB, hxy⟩)
            obtain ⟨hLt, hLe⟩ := at_snoc HS9 HX.out.2.2.1
            obtain ⟨g4, o4, rfl, hg4, v0, v1, v2⟩ := HX.out.2.2.2.1.get t hLt
            rw [hLe] at v0 v1 v2
            have HS := Lib.hid HS9
            clear HS9 hLe hLt hg4
            go_wp2_with fail
            go_quiet (fail)
            go_wp2_with fail
            go_quiet (fail)
            go_wp2_with fail
            go_roundw
            case rel => exact ⟨i + 1, k, t + 1, _, by go_num, rfl, by go_num, by omega, by omega, by have := HX.out.1; omega, HS.out, by rw [List.length_append, HX.out.2.2.1]; rfl, HX.out.2.2.2.1, below_drewY HX.out.2.2.2.2⟩
            case measure => simp [nV]; omega
        · have k3 : ¬ ((i : Int) < (m : Int)) := by omega
          clear hg3 ht9
          have HS9 := mg_stepB HX.out.2.1 hkB (Or.inl (by rw [H.out.2.2.2.1]; omega))
          obtain ⟨hLt, hLe⟩ := at_snoc HS9 HX.out.2.2.1
          obtain ⟨g4, o4, rfl, hg4, v0, v1, v2⟩ := HX.out.2.2.2.1.get t hLt
          rw [hLe] at v0 v1 v2
          have HS := Lib.hid HS9
          clear HS9 hLe hLt hg4
          go_wp2_with fail
          refine wp_region_held_drew (S := fun _ => True) (by kernel_rfl) trivial (fun hHeld => ?_)
          refine tkA 0 ?_
          try simp only [Act.put, List.setIfInBounds_toArray, List.set_cons_zero, List.set_cons_succ]
          refine tkA 1 ?_
          try simp only [Act.put, List.setIfInBounds_toArray, List.set_cons_zero, List.set_cons_succ]
          refine tkA 2 ?_
          try simp only [Act.put, List.setIfInBounds_toArray, List.set_cons_zero, List.set_cons_succ]
          refine tkA 3 (v := .bool false) ?_
          try simp only [Act.put, List.setIfInBounds_toArray, List.set_cons_zero, List.set_cons_succ]
          refine tkA 4 ?_
          try simp only [Act.put, List.setIfInBounds_toArray, List.set_cons_zero, List.set_cons_succ]
          refine tkA 5 ?_
          try simp only [Act.put, List.setIfInBounds_toArray, List.set_cons_zero, List.set_cons_succ]
          refine tkA 6 ?_
          try simp only [Act.put, List.setIfInBounds_toArray, List.set_cons_zero, List.set_cons_succ]
          refine tkA 7 ?_
          try simp only [Act.put, List.setIfInBounds_toArray, List.set_cons_zero, List.set_cons_succ]
          refine tkA 8 (v := .bool false) ?_
          try simp only [Act.put, List.setIfInBounds_toArray, List.set_cons_zero, List.set_cons_succ]
          refine tkA 9 ?_
          try simp only [Act.put, List.setIfInBounds_toArray, List.set_cons_zero, List.set_cons_succ]
          refine tkB 10 ?_
          try simp only [Act.put, List.setIfInBounds_toArray, List.set_cons_zero, List.set_cons_succ]
          refine tkB 11 ?_
          try simp only [Act.put, List.setIfInBounds_toArray, List.set_cons_zero, List.set_cons_succ]
          refine tkB 12 ?_
          try simp only [Act.put, List.setIfInBounds_toArray, List.set_cons_zero, List.set_cons_succ]
          refine tkB 13 ?_
          try simp only [Act.put, List.setIfInBounds_toArray, List.set_cons_zero, List.set_cons_succ]
          refine tkB 14 ?_
          try simp only [Act.put, List.setIfInBounds_toArray, List.set_cons_zero, List.set_cons_succ]
          refine tkB 15 ?_
          try simp only [Act.put, List.setIfInBounds_toArray, List.set_cons_zero, List.set_cons_succ]
          refine tkB 16 ?_
          try simp only [Act.put, List.setIfInBounds_toArray, List.set_cons_zero, List.set_cons_succ]
          refine tkB 17 ?_
          try simp only [Act.put, List.setIfInBounds_toArray, List.set_cons_zero, List.set_cons_succ]
          refine tkB 18 ?_
          try simp only [Act.put, List.setIfInBounds_toArray, List.set_cons_zero, List.set_cons_succ]
          refine tkB 19 ?_
          try simp only [Act.put, List.setIfInBounds_toArray, List.set_cons_zero, List.set_cons_succ]
          refine tkB 20 ?_
          try simp only [Act.put, List.setIfInBounds_toArray, List.set_cons_zero, List.set_cons_succ]
          refine tkA 21 (v := .bool false) ?_
          try simp only [Act.put, List.setIfInBounds_toArray, List.set_cons_zero, List.set_cons_succ]
          refine tkA 22 (v := .bool false) ?_
          try simp only [Act.put, List.setIfInBounds_toArray, List.set_cons_zero, List.set_cons_succ]
          refine tkA 23 ?_
          try simp only [Act.put, List.setIfInBounds_toArray, List.set_cons_zero, List.set_cons_succ]
          refine wpAnyH_done (by kernel_rfl) ?_ _
          clear hHeld
          generalize hwd : wr.drew = wd
          have HD : Hid (TkAt wd (some ⟨g4, o4, none⟩) (mgF A B) ∧ Below w.heap.size w wd) := by
            subst hwd
            exact ⟨HX.out.2.2.2.1, HX.out.2.2.2.2.drew⟩
          have y0 : wd.cell? ⟨g3, o3 + k * 3, none⟩ = some (.int .i64 B[k].r) := by subst hwd; exact y0
          have y1 : wd.cell? ⟨g3, o3 + k * 3 + 1, none⟩ = some (.string B[k].s) := by subst hwd; exact y1
          have y2 : wd.cell? ⟨g3, o3 + k * 3 + 2, none⟩ = some (.int .i64 B[k].p) := by subst hwd; exact y2
          have v0 : wd.cell? ⟨g4, o4 + t * 3, none⟩ = some (.int .i64 B[k].r) := by subst hwd; exact v0
          have v1 : wd.cell? ⟨g4, o4 + t * 3 + 1, none⟩ = some (.string B[k].s) := by subst hwd; exact v1
          have v2 : wd.cell? ⟨g4, o4 + t * 3 + 2, none⟩ = some (.int .i64 B[k].p) := by subst hwd; exact v2
          clear hwd
          go_wp2_with fail
          go_quiet (fail)
          go_wp2_with fail
          go_roundw
          case rel => exact ⟨i, k + 1, t + 1, _, rfl, by go_num, by go_num, by omega, by omega, by have := HX.out.1; omega, HS.out, by rw [List.length_append, HX.out.2.2.1]; rfl, HD.out.1, below_drewY HD.out.2⟩
          case measure => simp [nV]; omega
      · have k1 : (m3 : Int) ≤ (k : Int) := by omega
        have him : i < m := by omega
        have hiA : i < A.length := by rw [H.out.2.2.2.1]; exact him
        obtain ⟨g1, o1, rfl, hg1, x0, x1, x2⟩ := (H.out.2.1.below HX.out.2.2.2.2).get i hiA
        have k3 : (i : Int) < (m : Int) := by omega
        clear hg1 ht9
        have HS9 := mg_stepA HX.out.2.1 hiA (Or.inl (by rw [H.out.2.2.2.2]; omega))
        obtain ⟨hLt, hLe⟩ := at_snoc HS9 HX.out.2.2.1
        obtain ⟨g4, o4, rfl, hg4, v0, v1, v2⟩ := HX.out.2.2.2.1.get t hLt
        rw [hLe] at v0 v1 v2
        have HS := Lib.hid HS9
        clear HS9 hLe hLt hg4
        go_wp2_with fail
        refine wp_region_held_drew (S := fun _ => True) (by kernel_rfl) trivial (fun hHeld => ?_)
        refine tkA 0 ?_
        try simp only [Act.put, List.setIfInBounds_toArray, List.set_cons_zero, List.set_cons_succ]
        refine tkA 1 ?_
        try simp only [Act.put, List.setIfInBounds_toArray, List.set_cons_zero, List.set_cons_succ]
        refine tkA 2 ?_
        try simp only [Act.put, List.setIfInBounds_toArray, List.set_cons_zero, List.set_cons_succ]
        refine tkA 3 (v := .bool true) ?_
        try simp only [Act.put, List.setIfInBounds_toArray, List.set_cons_zero, List.set_cons_succ]
        refine tkA 4 ?_
        try simp only [Act.put, List.setIfInBounds_toArray, List.set_cons_zero, List.set_cons_succ]
        refine tkB 5 ?_
        try simp only [Act.put, List.setIfInBounds_toArray, List.set_cons_zero, List.set_cons_succ]
        refine tkB 6 ?_
        try simp only [Act.put, List.setIfInBounds_toArray, List.set_cons_zero, List.set_cons_succ]
        refine tkB 7 ?_
        try simp only [Act.put, List.setIfInBounds_toArray, List.set_cons_zero, List.set_cons_succ]
        refine tkB 8 ?_
        try simp only [Act.put, List.setIfInBounds_toArray, List.set_cons_zero, List.set_cons_succ]
        refine tkB 9 ?_
        try simp only [Act.put, List.setIfInBounds_toArray, List.set_cons_zero, List.set_cons_succ]
        refine tkB 10 ?_
        try simp only [Act.put, List.setIfInBounds_toArray, List.set_cons_zero, List.set_cons_succ]
        refine tkB 11 ?_
        try simp only [Act.put, List.setIfInBounds_toArray, List.set_cons_zero, List.set_cons_succ]
        refine tkB 12 ?_
        try simp only [Act.put, List.setIfInBounds_toArray, List.set_cons_zero, List.set_cons_succ]
        refine tkB 13 ?_
        try simp only [Act.put, List.setIfInBounds_toArray, List.set_cons_zero, List.set_cons_succ]
        refine tkB 14 ?_
        try simp only [Act.put, List.setIfInBounds_toArray, List.set_cons_zero, List.set_cons_succ]
        refine tkB 15 ?_
        try simp only [Act.put, List.setIfInBounds_toArray, List.set_cons_zero, List.set_cons_succ]
        refine tkB 16 ?_
        try simp only [Act.put, List.setIfInBounds_toArray, List.set_cons_zero, List.set_cons_succ]
        refine tkB 17 ?_
        try simp only [Act.put, List.setIfInBounds_toArray, List.set_cons_zero, List.set_cons_succ]
        refine tkB 18 ?_
        try simp only [Act.put, List.setIfInBounds_toArray, List.set_cons_zero, List.set_cons_succ]
        refine tkB 19 ?_
        try simp only [Act.put, List.setIfInBounds_toArray, List.set_cons_zero, List.set_cons_succ]
        refine tkB 20 ?_
        try simp only [Act.put, List.setIfInBounds_toArray, List.set_cons_zero, List.set_cons_succ]
        refine tkB 21 ?_
        try simp only [Act.put, List.setIfInBounds_toArray, List.set_cons_zero, List.set_cons_succ]
        refine tkA 22 (v := .bool true) ?_
        try simp only [Act.put, List.setIfInBounds_toArray, List.set_cons_zero, List.set_cons_succ]
        refine tkA 23 ?_
        try simp only [Act.put, List.setIfInBounds_toArray, List.set_cons_zero, List.set_cons_succ]
        refine wpAnyH_done (by kernel_rfl) ?_ _
        clear hHeld
        generalize hwd : wr.drew = wd
        have HD : Hid (TkAt wd (some ⟨g4, o4, none⟩) (mgF A B) ∧ Below w.heap.size w wd) := by
          subst hwd
          exact ⟨HX.out.2.2.2.1, HX.out.2.2.2.2.drew⟩
        have x0 : wd.cell? ⟨g1, o1 + i * 3, none⟩ = some (.int .i64 A[i].r) := by subst hwd; exact x0
        have x1 : wd.cell? ⟨g1, o1 + i * 3 + 1, none⟩ = some (.string A[i].s) := by subst hwd; exact x1
        have x2 : wd.cell? ⟨g1, o1 + i * 3 + 2, none⟩ = some (.int .i64 A[i].p) := by subst hwd; exact x2
        have v0 : wd.cell? ⟨g4, o4 + t * 3, none⟩ = some (.int .i64 A[i].r) := by subst hwd; exact v0
        have v1 : wd.cell? ⟨g4, o4 + t * 3 + 1, none⟩ = some (.string A[i].s) := by subst hwd; exact v1
        have v2 : wd.cell? ⟨g4, o4 + t * 3 + 2, none⟩ = some (.int .i64 A[i].p) := by subst hwd; exact v2
        clear hwd
        go_wp2_with fail
        go_quiet (fail)
        go_wp2_with fail
        go_roundw
        case rel => exact ⟨i + 1, k, t + 1, _, by go_num, rfl, by go_num, by omega, by omega, by have := HX.out.1; omega, HS.out, by rw [List.length_append, HX.out.2.2.1]; rfl, HD.out.1, below_drewY HD.out.2⟩
        case measure => simp [nV]; omega
    · have i2 : ¬ ((t : Int) < (m : Int) + (m3 : Int)) := by omega
      have H5 := Lib.hid HX.out.2.2.2.2
      clear HX HLn
      go_wp2_with fail
      clear hlt i2
      have HRo : Hid (∀ W, Below w.heap.size w W → Calls Try.prog 12 #[.slice a n c, .slice a2 m c2, .int .i64 0] W (OfP (ofF (kdF z n) 0 A) W)) := fun W h => rof14_any n c a z m c2 a2 A 0 H.out.2.2.2.1 (by omega) W (H.out.1.below h) (H.out.2.1.below h)
      go_loopw [12] (fun v wx => ∃ t q : Nat, v = .int .i64 ((t : Nat) : Int) ∧ t ≤ m + 1 ∧ Hid (t = q + 1 ∧ (∀ j (hj : j + 1 < A.length), j + 1 < t → A[j].p < A[j + 1].p) ∧ Below w.heap.size w wx)) (fun v _ => m - (nV v).toNat)
      case atStart => exact ⟨1, 0, rfl, by omega, rfl, fun j _ h => absurd h (by omega), H5.out⟩
      case round =>
        clear H5
        obtain ⟨t, q, rfl, ht, HY⟩ := hrel
        by_cases htm : t < m
        · have htA : t < A.length := by rw [H.out.2.2.2.1]; exact htm
          have hqA : q < A.length := by have := HY.out.1; omega
          have i2 : (t : Int) < (m : Int) := by omega
          have i3 : (q : Int) < (m : Int) := by have := HY.out.1; omega
          have i4 : IntKind.i64.wrap ((t : Int) - 1) = (q : Int) := by rw [IntWalk.i64_in _ ⟨by omega, by have := HY.out.1; omega⟩]; have := HY.out.1; omega
          obtain ⟨g1, o1, e9, _, x0, x1, x2⟩ := (H.out.2.1.below HY.out.2.2).get t htA
          obtain ⟨g9, o9, e8, _, y0, y1, y2⟩ := (H.out.2.1.below HY.out.2.2).get q hqA
          subst e9
          injection e8 with e8; injection e8 with e8 e7
          subst e8 e7
          have HN : Hid (¬ (A[t].p ≤ A[q].p) → ∀ j (hj : j + 1 < A.length), j + 1 < t + 1 → A[j].p < A[j + 1].p) := fun hn j hj hlt => by
            by_cases e : j + 1 = t
            · have hjq : j = q := by have := HY.out.1; omega
              subst hjq
              have e2 : A[j + 1] = A[t] := by simp [e]
              rw [e2]
              omega
            · exact HY.out.2.1 j hj (by omega)
          generalize A[t].p = pt at x2 HN
          generalize A[q].p = pq at y2 HN
          clear x0 x1 y0 y1 htA hqA
          by_cases hp : pt ≤ pq
          · go_wp2_with fail
            go_quiet (fail)
            go_wp2_with fail
            go_ret
            exact ⟨rfl, below_drewY HY.out.2.2⟩
          · have HE := Lib.hid (HN.out hp)
            go_wp2_with fail
            go_quiet (fail)
            go_wp2_with fail
            go_roundw
            case rel => exact ⟨t + 1, t, by go_num, by omega, rfl, HE.out, below_drewY HY.out.2.2⟩
            case measure => simp [nV]; omega
        · have HRi : Hid (RiseF A) := rise_of (fun j hj => HY.out.2.1 j hj (by have := H.out.2.2.2.1; omega))
          have H6 := Lib.hid HY.out.2.2
          clear HY
          go_upto_region 26 with (go_at_call 12; refine (HRo.out _ H6.out).mono ?_; rintro e w5 ⟨aA, cA, rfl, tA, b5, hcA⟩)
          have H7 : Hid ((w5.alloc (.cells #[] 32)).ownsRow w5.heap.size 32 3 (.slice (some ⟨w5.heap.size, 0, none⟩) 0 0) 0 (tks (noF (kdF z n) (A.take 0))) ∧ Below w5.heap.size w5 (w5.alloc (.cells #[] 32))) := ⟨⟨rfl, Or.inr ⟨_, _, _, rfl, Nat.le_refl _, Bl.new _ _ _, Nat.le_refl _, Nat.zero_le _, rfl, rfl⟩⟩, al w5 _⟩
          have H5w := Lib.hid (And.intro tA (And.intro (H6.out.trans (b5.mono H6.out.size)) hcA))
          have hpA9 := ofF_len (kdF z n) 0 A
          obtain ⟨pA, hpA⟩ : ∃ pA, (ofF (kdF z n) 0 A).length = pA := ⟨_, rfl⟩
          rw [hpA, H.out.2.2.2.1] at hpA9
          have HpA := Lib.hid hpA
          rw [hpA]
          generalize w5.alloc (.cells #[] 32) = w6 at H7 ⊢
          obtain ⟨iT, hiT, hT0, hT1, hT2⟩ := info_parts Try.info_tok
          clear tA b5 hcA hpA HRo H6 htm
          go_wp2_with fail
          go_loopw [14, 15] (fun v14 v15 wy => ∃ (k p : Nat) (b : Option Addr) (d : Nat), v14 = .slice b p d ∧ v15 = .int .i64 ((k : Nat) : Int) ∧ k ≤ m ∧ p ≤ k ∧ Hid ((noF (kdF z n) (A.take k)).length = p ∧ wy.ownsRow w5.heap.size 32 3 (.slice b p d) p (tks (noF (kdF z n) (A.take k))) ∧ Below w5.heap.size w5 wy)) (fun _ v _ => m - (nV v).toNat)
          case atStart => exact ⟨0, 0, _, _, rfl, rfl, Nat.zero_le _, Nat.zero_le _, rfl, H7.out⟩
          case round =>
            clear H7
            obtain ⟨k, p, b, d, rfl, rfl, hk, hp, HZ⟩ := hrel
            have HBw : Hid (Below w.heap.size w wr) := H5w.out.2.1.trans (HZ.out.2.2.mono H5w.out.2.1.size)
            by_cases hlt : k < m
            · have hkA : k < A.length := by rw [H.out.2.2.2.1]; exact hlt
              obtain ⟨g1, o1, rfl, hg1, x0, x1, x2⟩ := (H.out.2.1.below HBw.out).get k hkA
              have HT := Lib.hid (noF_take (k := kdF z n) hkA)
              have i2 : (k : Int) < (m : Int) := by omega
              generalize A[k] = x at x0 x1 x2 HT
              have HC := Lib.hid (rkind14_any n c a z x wr (H.out.1.below HBw.out))
              have Hg := Lib.hid hg1
              clear hkA hg1
              rcases hq : (kdF z n x.r == 0) with _ | _
              · have hq2 : (kdF z n x.r != 0) = true := by unfold bne; rw [hq]; rfl
                rw [hq, if_neg (by decide)] at HT
                have hp9 : p + 1 ≤ m := by omega
                generalize kdF z n x.r = kx at HC hq hq2
                go_wp2_with (first
                  | (go_at_call 14; refine HC.out.mono ?_; rintro e w3 ⟨rfl, b3⟩
                     have H3 := Lib.hid (And.intro (ownsRow_keep HZ.out.2.1 b3) (HZ.out.2.2.trans (b3.mono HZ.out.2.2.size)))
                     have y0 := (b3.cell (p := ⟨g1, o1 + k * 3, none⟩) Hg.out).trans x0
                     have y1 := (b3.cell (p := ⟨g1, o1 + k * 3 + 1, none⟩) Hg.out).trans x1
                     have y2 := (b3.cell (p := ⟨g1, o1 + k * 3 + 2, none⟩) Hg.out).trans x2
                     clear b3 x0 x1 x2 HC
                     have hO := H3.out.1
                     have hsv := H3.out.2.size)
                  | (at_builtin; refine wpList_append_own _ rfl _ _ 23 rfl w5.heap.size 32 iT (.agg #[.int .i64 0, .string ⟨#[]⟩, .int .i64 0]) 3 32 Try.underlying23 hiT hT0 hT1 hT2 rfl (by decide) _ _ _ rfl (hO.alloc _) ⟨w3.heap.size, 0, none⟩ 1 1 (#[.int .i64 x.r, .string x.s, .int .i64 x.p]).toList rfl rfl (bl_news (Bl.new _ _ _)) ?_ ?_ ?_ ?_ ?_))
                · exact ⟨rfl, rfl, rfl⟩
                · unfold maxLen; omega
                · omega
                · first | omega | (simp; omega)
                intro v' w9 hown5 hgrow5 _
                obtain ⟨a5, c5, rfl⟩ := ownsRow_slice hown5
                have hb5 : Below w5.heap.size w5 w9 := (H3.out.2.trans ((al w3 _).mono hsv)).grown hgrow5 (by simp; omega) (fun g e => (hO.lt g e).1)
                have HX5 := Lib.hid (And.intro hown5 hb5)
                clear hown5 hgrow5 hb5 hO H3 hsv
                go_wp2_with fail
                go_roundw
                case rel => exact ⟨k + 1, p + 1, a5, c5, rfl, by go_num, by omega, by omega, by rw [HT.out, List.length_append, HZ.out.1]; rfl, by rw [HT.out, tks_append]; exact HX5.out.1, HX5.out.2⟩
                case measure => simp [nV]; omega
              · have hq2 : (kdF z n x.r != 0) = false := by unfold bne; rw [hq]; rfl
                rw [hq, if_pos rfl, List.append_nil] at HT
                generalize kdF z n x.r = kx at HC hq hq2
                go_wp2_with (go_at_call 14; refine HC.out.mono ?_; rintro e w9 ⟨rfl, b9⟩)
                have HE := Lib.hid (And.intro (ownsRow_keep HZ.out.2.1 b9) (HZ.out.2.2.trans (b9.mono HZ.out.2.2.size)))
                clear b9 x0 x1 x2
                go_roundw
                case rel => exact ⟨k + 1, p, b, d, rfl, by go_num, by omega, by omega, by rw [HT.out]; exact HZ.out.1, by rw [HT.out]; exact HE.out.1, HE.out.2⟩
                case measure => simp [nV]; omega
            · have hkm : k = m := by omega
              have h1 := HZ.out.1
              have h2 := HZ.out.2.1
              rw [List.take_of_length_le (by rw [H.out.2.2.2.1, hkm]; exact Nat.le_refl _)] at h1 h2
              have HP := Lib.hid (mg_parts (fun t => kdF z n t.r == 0) A HRi.out)
              have HtB := Lib.hid (own_tks h1 h2)
              have Hcd := Lib.hid (own_cap h2)
              have Hlb := Lib.hid h1
              have HtA := Lib.hid (H5w.out.1.below HZ.out.2.2)
              have HcA : Hid (pA ≤ cA) := by have := H5w.out.2.2; rw [HpA.out] at this; exact this
              have HsA : Hid (∀ t ∈ ofF (kdF z n) 0 A, t.s.size ≤ 100000) := fun t ht => HSz.out t (List.mem_filter.1 ht).1
              have HsB : Hid (∀ t ∈ noF (kdF z n) A, t.s.size ≤ 100000) := fun t ht => HSz.out t (List.mem_filter.1 ht).1
              have HM1 : Hid (∀ W, Below wr.heap.size wr W → Calls Try.prog 20 #[.slice aA pA cA, .slice b p d] W fun e w' => ∃ am cm, e = .returned (.slice am m cm) ∧ TkAt w' am A ∧ Below W.heap.size W w') := fun W h => by
                refine (merge_any pA cA aA (ofF (kdF z n) 0 A) p d b (noF (kdF z n) A) HpA.out Hlb.out (by omega) (by omega) HcA.out Hcd.out HsA.out HsB.out W (HtA.out.below h) (HtB.out.below h)).mono ?_
                rintro e w' ⟨am, cm, rfl, h3, h4, _⟩
                have e9 : mgF (ofF (kdF z n) 0 A) (noF (kdF z n) A) = A := HP.out.1
                rw [e9] at h3 ⊢
                exact ⟨am, cm, by rw [H.out.2.2.2.1], h3, h4⟩
              have HM2 : Hid (∀ W, Below wr.heap.size wr W → Calls Try.prog 20 #[.slice b p d, .slice aA pA cA] W fun e w' => ∃ am cm, e = .returned (.slice am m cm) ∧ TkAt w' am A ∧ Below W.heap.size W w') := fun W h => by
                refine (merge_any p d b (noF (kdF z n) A) pA cA aA (ofF (kdF z n) 0 A) Hlb.out HpA.out (by omega) (by omega) Hcd.out HcA.out HsB.out HsA.out W (HtB.out.below h) (HtA.out.below h)).mono ?_
                rintro e w' ⟨am, cm, rfl, h3, h4, _⟩
                have e9 : mgF (noF (kdF z n) A) (ofF (kdF z n) 0 A) = A := HP.out.2
                rw [e9] at h3 ⊢
                exact ⟨am, cm, by rw [H.out.2.2.2.1], h3, h4⟩
              have HSm : Hid (∀ W am cm, Below wr.heap.size wr W → TkAt W am A → Calls Try.prog 10 #[.slice am m cm, .slice a2 m c2] W fun e w' => e = .returned (.bool true) ∧ Below W.heap.size W w') := fun W am cm h h3 => same14_yes m cm c2 am a2 A H.out.2.2.2.1 (by omega) W h3 (H.out.2.1.below (HBw.out.trans (h.mono HBw.out.size)))
              clear h1 h2 hkm HZ HtA HtB
              go_upto_region 31 with fail
              go_wp2_with (go_at_call 20; refine (HM1.out _ (Below.refl _ _)).mono ?_)
              rintro e wa ⟨am, cm, rfl, tm, ba⟩
              have Ha := Lib.hid (And.intro tm ba)
              clear tm ba HM1
              go_wp2_with (go_at_call 10; refine (HSm.out _ am cm Ha.out.2 Ha.out.1).mono ?_)
              rintro e wb ⟨rfl, bb⟩
              have Hb := Lib.hid (Ha.out.2.trans (bb.mono Ha.out.2.size))
              clear bb Ha
              go_wp2_with (go_at_call 20; refine (HM2.out _ Hb.out).mono ?_)
              rintro e wc ⟨am2, cm2, rfl, tm, ba⟩
              have Hc := Lib.hid (And.intro tm (Hb.out.trans (ba.mono Hb.out.size)))
              clear tm ba HM2 Hb
              go_wp2_with (go_at_call 10; refine (HSm.out _ am2 cm2 Hc.out.2 Hc.out.1).mono ?_)
              rintro e wd ⟨rfl, bb⟩
              have Hd := Lib.hid (HBw.out.trans ((Hc.out.2.trans (bb.mono Hc.out.2.size)).mono HBw.out.size))
              clear bb Hc HSm
              go_wp2_with fail
              go_ret
              exact ⟨rfl, Hd.out⟩
end Go.Proofs.Ytghhjonhmelohaa
