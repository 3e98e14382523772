/-
  What is proved: for every list of pieces, every two texts and every number, the law DerivThrough returns true and leaves its arguments as they were. No condition.
-/
import Derived.Test.YtkdhdlokilgccaaZDFirstProof
namespace Go.Proofs.Ytkdhdlokilgccaa
open Go.RowKit Go.Maps Go.WideElems Go.ChangeMaps Go.MapKept
set_option linter.unusedVariables false

set_option maxHeartbeats 1000000 in
set_option maxRecDepth 100000 in
/-- Of what is no expression nothing is left. -/
theorem thru_bad (l : List Pc) (hck : chkT l ≠ 0) (a : Option Addr) (n c : Nat) (w : World) (hL : RxAt w a l) (hn : l.length = n) (hmax : n ≤ maxLen) (s : ByteArray) (most : Int) :
    Calls Try.prog 14 #[.slice a n c, .string s, .int .i64 most] w fun e w' => e = .returned (.tuple #[.agg #[.bool true, .slice none 0 0], .int .i64 0]) ∧ Below w.heap.size w w' := by
  have hres := St.new w 34 #[.bool false, .slice none 0 0]
  have hA : Below w.heap.size w (w.alloc (.cells #[.bool false, .slice none 0 0] 34)) := (Below.refl _ _).alloc (Nat.le_refl _) _
  have hsz : (w.alloc (.cells #[.bool false, .slice none 0 0] 34)).heap.size = w.heap.size + 1 := by simp
  have HC := Lib.hid (check_any l a n c _ (hL.below hA) hn hmax)
  have H0 := Lib.hid (And.intro hres (And.intro hA hsz))
  clear hres hA hL hn hsz hmax
  have hck2 : (((chkT l : Nat) : Int) == 0) = false := by simp; omega
  have hck3 : (((chkT l : Nat) : Int) != 0) = true := by simp; omega
  generalize chkT l = ck at HC hck hck2 hck3
  go_enter Try.func14, Try.ntmps14
  go_wp2_with fail
  refine HC.out.mono ?_
  rintro e w2 ⟨rfl, b2⟩
  have hr2 := H0.out.1.keep b2
  have hb2 := H0.out.2.1.trans (b2.mono (by rw [H0.out.2.2]; omega))
  obtain ⟨c0, c1, z0, z1⟩ := left_cells hr2
  obtain ⟨s0, s1, _, _⟩ := left_cells (left_set hr2 (.bool true) (.slice none 0 0))
  have H2 := Lib.hid hb2
  clear b2 hr2 hb2
  go_wp2_with fail
  refine bodyPost_ret (v := .tuple #[.agg #[.bool true, .slice none 0 0], .int .i64 0]) (by simp [results, Try.results14, go_sem, s0, s1]) rfl ⟨rfl, (H2.out.setCell (p := ⟨w.heap.size, 0, none⟩) (Nat.le_refl _) _).setCell (p := ⟨w.heap.size, 1, none⟩) (Nat.le_refl _) _⟩

set_option maxHeartbeats 1000000 in
set_option maxRecDepth 100000 in
/-- Behind the empty text an expression is what it was. -/
theorem thru_empty (t : Rx) (hw : t.wf) (hck : chkT t.flat = 0) (a : Option Addr) (n c : Nat) (w : World) (hL : RxAt w a t.flat) (hn : t.flat.length = n) (hmax : n ≤ 400) (s : ByteArray) (hs : s.size = 0) (most : Int) :
    Calls Try.prog 14 #[.slice a n c, .string s, .int .i64 most] w fun e w' => Below w.heap.size w w' ∧ ∃ v, e = .returned (.tuple #[.agg #[.bool false, v], .int .i64 0]) ∧ ThR w.heap.size w' t n [] v n := by
  have hres := St.new w 34 #[.bool false, .slice none 0 0]
  have hA : Below w.heap.size w (w.alloc (.cells #[.bool false, .slice none 0 0] 34)) := (Below.refl _ _).alloc (Nat.le_refl _) _
  have hsz : (w.alloc (.cells #[.bool false, .slice none 0 0] 34)).heap.size = w.heap.size + 1 := by simp
  have HC := Lib.hid (check_any t.flat a n c _ (hL.below hA) hn (by unfold maxLen; omega))
  rw [hck] at HC
  have hp := t.flat_pos
  obtain ⟨g, off, rfl, _, _⟩ := hL hp
  have hn1 : 1 ≤ n := by omega
  have H0 := Lib.hid (And.intro hres (And.intro hA (And.intro hsz (And.intro hL (And.intro hn hw)))))
  have hse : s.toList.isEmpty = true := by
    rw [ByteArray.toList_eq]
    have h0 : s.data.size = 0 := hs
    have : s.data = #[] := Array.eq_empty_of_size_eq_zero h0
    rw [this]; rfl
  clear hres hA hL hn hsz hck hs hp hw
  go_enter Try.func14, Try.ntmps14
  go_wp2_with fail
  refine HC.out.mono ?_
  rintro e w2 ⟨rfl, b2⟩
  have hb2 := H0.out.2.1.trans (b2.mono (by rw [H0.out.2.2.1]; omega))
  have H2 := Lib.hid (And.intro hb2 (And.intro (H0.out.1.keep b2) (H0.out.2.2.2.1.below hb2)))
  clear b2 hb2
  go_wp2_with fail
  refine (clone_any t.flat g off n c w2 H2.out.2.2 H0.out.2.2.2.2.1 hn1 (by omega)).mono ?_
  rintro e w3 ⟨a3, c3, rfl, hrow, b3⟩
  have hr3 := H2.out.2.1.keep b3
  obtain ⟨c0, c1, z0, z1⟩ := left_cells hr3
  obtain ⟨s0, s1, _, _⟩ := left_cells (left_set hr3 (.bool false) (.slice a3 n c3))
  have hw2 : w.heap.size < w2.heap.size := H2.out.2.1.lt
  have hR : ThR w2.heap.size w3 t n [] (.slice a3 n c3) n := by
    obtain ⟨h1, h2⟩ := row_cap hrow
    refine ⟨t, a3, c3, rfl, fun g o x e => ?_, H0.out.2.2.2.2.2, H0.out.2.2.2.2.1, row_rx hrow H0.out.2.2.2.2.1, h1, h2, Nat.le_refl _, fun s => Iff.rfl⟩
    subst e
    rcases hrow.2 with ⟨e1, _⟩ | ⟨g', cap, cu, e1, h3, _⟩
    · cases e1
    · injection e1 with e2
      injection e2 with e3
      injection e3 with e4
      omega
  have H3 := Lib.hid (And.intro hR (H2.out.1.trans (b3.mono (by omega))))
  clear hr3 hrow b3 hR
  go_wp2_with fail
  refine bodyPost_ret (v := .tuple #[.agg #[.bool false, .slice a3 n c3], .int .i64 0]) (by simp [results, Try.results14, go_sem, s0, s1]) rfl ⟨(H3.out.2.setCell (p := ⟨w.heap.size, 0, none⟩) (Nat.le_refl _) _).setCell (p := ⟨w.heap.size, 1, none⟩) (Nat.le_refl _) _, _, rfl, ((H3.out.1.set (p := ⟨w.heap.size, 0, none⟩) hw2 _).set (p := ⟨w.heap.size, 1, none⟩) hw2 _).more (Nat.le_refl _) (by omega)⟩
end Go.Proofs.Ytkdhdlokilgccaa

namespace Go.Proofs.Ytkdhdlokilgccaa
open Go.RowKit Go.Maps Go.WideElems Go.ChangeMaps Go.MapKept
set_option linter.unusedVariables false

theorem bytesL_app (a b : ByteArray) : bytesL (a ++ b) = bytesL a ++ bytesL b := by
  unfold bytesL
  rw [ByteArray.data_append, Array.toList_append, List.map_append]
theorem bytesL_ext (s : ByteArray) (j : Nat) : bytesL (s.extract 0 j) = (bytesL s).take j := by
  unfold bytesL
  rw [ByteArray.data_extract, Array.toList_extract, List.extract_eq_take_drop, List.drop_zero, Nat.sub_zero, List.map_take]
theorem bytesL_at (s : ByteArray) : ∀ i (h : i < (bytesL s).length), (bytesL s)[i] = (s.get! i).toNat := by
  intro i h
  have h' : i < s.data.size := by rw [bytesL_len] at h; exact h
  have e : (bytesL s)[i] = (s.data.toList[i]'(by rw [Array.length_toList]; exact h')).toNat := List.getElem_map _
  rw [e, Array.getElem_toList]
  show _ = (s.data[i]!).toNat
  rw [getElem!_pos s.data i h']
/-- Has, in words. -/
theorem has_lan (t : Rx) (hw : t.wf) (s : ByteArray) (hN : s.size ≤ 99998) (a : Option Addr) (n cap : Nat) (w : World) (hL : RxAt w a t.flat) (hn : t.flat.length = n) (hmax : n ≤ 1000000) (hcap : n ≤ cap ∧ cap ≤ maxLen) :
    Calls Try.prog 15 #[.slice a n cap, .string s] w fun e w' => ∃ x : Bool, e = .returned (.bool x) ∧ (x = true ↔ Lan t (bytesL s)) ∧ Below w.heap.size w w' := by
  obtain ⟨g, off, rfl, _, _⟩ := hL t.flat_pos
  refine (rhasT_any t hw s s.size rfl hN g off n cap w hL hn hmax hcap).mono ?_
  rintro e w' ⟨rfl, b⟩
  exact ⟨_, rfl, endF_has s (bytesL s) s.size (bytesL_len s) (bytesL_at s) t hw, b⟩
/-- What Through gives of a valid expression, whatever the text. -/
def ThU (t : Rx) (s : ByteArray) (M : Int) (w : World) (e : Ending) (w' : World) : Prop :=
  Below w.heap.size w w' ∧ ∃ (vd : Bool) (a : Option Addr) (n c k : Nat), e = .returned (.tuple #[.agg #[.bool vd, .slice a n c], .int .i64 ((k : Nat) : Int)]) ∧ k ≤ s.size ∧ n ≤ 1000000 ∧
    ((vd = true ∧ k < s.size ∧ ∀ q, ¬ Lan t ((bytesL s).take (k + 1) ++ q)) ∨ (vd = false ∧ k < s.size ∧ M < (n : Int)) ∨ (vd = false ∧ k = s.size ∧ ThR w.heap.size w' t 1000000 (bytesL s) (.slice a n c) n))
theorem thru_all (t : Rx) (hw : t.wf) (hck : chkT t.flat = 0) (hen : EnterOk t) (a : Option Addr) (n c : Nat) (w : World) (hL : RxAt w a t.flat) (hn : t.flat.length = n) (hmax : n ≤ 30) (hcap : n ≤ c ∧ c ≤ maxLen) (s : ByteArray) (hs : s.size ≤ 6) (M : Int) (hM : 0 ≤ M ∧ M < 400) :
    Calls Try.prog 14 #[.slice a n c, .string s, .int .i64 M] w (ThU t s M w) := by
  rcases Nat.eq_zero_or_pos s.size with h0 | h0
  · refine (thru_empty t hw hck a n c w hL hn (by omega) s h0 M).mono ?_
    rintro e w' ⟨hb, v, rfl, hR⟩
    obtain ⟨u, a', c', rfl, h2⟩ := id hR
    have hz : bytesL s = [] := List.length_eq_zero_iff.1 (by rw [bytesL_len]; exact h0)
    refine ⟨hb, false, a', n, c', 0, rfl, by omega, by omega, Or.inr (Or.inr ⟨rfl, h0.symm, ?_⟩)⟩
    rw [hz]
    exact hR.more (by omega) (Nat.le_refl _)
  · refine (thru_any t hck hen a n c w hL hn (by omega) hcap s s.size rfl h0 (by omega) M (by omega) (by omega)).mono ?_
    rintro e w' ⟨hb, vd, v, k, rfl, hc⟩
    have hK : (2 * n) * (n + 1) * 402 ≤ 1000000 := by
      have h1 : (2 * n) * (n + 1) ≤ 60 * 31 := Nat.mul_le_mul (by omega) (by omega)
      omega
    have hlen := bytesL_len s
    rcases hc with ⟨h1, rfl, h2, h3⟩ | ⟨h1, n', hR, h2⟩
    · exact ⟨hb, vd, none, 0, 0, k, rfl, by omega, by omega, Or.inl ⟨h1, by omega, h3⟩⟩
    · obtain ⟨u, a', c', rfl, h3, h4, h5, h6, h7, h8, h9, h10⟩ := id hR
      rcases h2 with ⟨h2, h11⟩ | h2
      · exact ⟨hb, vd, a', n', c', k, rfl, by omega, by omega, Or.inr (Or.inl ⟨h1, by omega, h11⟩)⟩
      · refine ⟨hb, vd, a', n', c', k, rfl, by omega, by omega, Or.inr (Or.inr ⟨h1, by omega, ?_⟩)⟩
        have := hR.more hK (Nat.le_refl _)
        rw [List.take_of_length_le (by omega)] at this
        exact this
end Go.Proofs.Ytkdhdlokilgccaa

namespace Go.Proofs.Ytkdhdlokilgccaa
open Go.RowKit Go.Maps Go.WideElems Go.ChangeMaps Go.MapKept
set_option linter.unusedVariables false

set_option maxHeartbeats 4000000 in
set_option maxRecDepth 100000 in
theorem derivThrough_can (l : List Pc) (hcan : ∀ x ∈ l, x.can) (a : Option Addr) (n cap : Nat) (s1 s2 : ByteArray) (N1 N2 : Nat) (h1 : s1.size = N1) (h2 : s2.size = N2) (hN1 : N1 ≤ 9223372036854775807) (hN2 : N2 ≤ 9223372036854775807) (m : Nat) (hm : m < 65536) (w : World) (hL : RxAt w a l) (hn : l.length = n) (hcap : n ≤ cap ∧ cap ≤ maxLen) :
    Calls Try.prog 4 #[.slice a n cap, .agg #[.string s1, .string s2], .int .u16 m] w fun e w' => e = .returned (.bool true) ∧ Below w.heap.size w w' := by
  have hn9 : n ≤ 9223372036854775807 := by have := hcap.1; have := hcap.2; unfold maxLen at this; omega
  have H0 := Lib.hid (And.intro hL (And.intro hn (And.intro hcan hcap)))
  clear hL hn hcan hcap
  have hX := St.new w 38 #[.string s1, .string s2]
  have hB0 : Below w.heap.size w (w.alloc (.cells #[.string s1, .string s2] 38)) := (Below.refl _ _).alloc (Nat.le_refl _) _
  have HX := Lib.hid (And.intro hX hB0)
  have hsz0 : (w.alloc (.cells #[.string s1, .string s2] 38)).heap.size = w.heap.size + 1 := by simp
  clear hX hB0
  go_enter Try.func4, Try.ntmps4
  go_wp2_with fail
  refine (awk_any _).mono ?_
  rintro e w1 ⟨rfl, b1⟩
  have hX1 := HX.out.1.keep b1
  have c0 : w1.cell? ⟨w.heap.size, 0, none⟩ = some (.string s1) := hX1.cell 0
  have c1 : w1.cell? ⟨w.heap.size, 1, none⟩ = some (.string s2) := hX1.cell 1
  have hb1 := HX.out.2.trans (b1.mono (by rw [hsz0]; omega))
  have H1 := Lib.hid (And.intro hb1.drew (H0.out.1.below hb1.drew))
  clear hX1 b1 hb1 hsz0
  go_wp2_with fail
  go_region
  clear c0 c1
  generalize w1.drew = W at H1 ⊢
  by_cases hbig : 30 < n
  · go_wp2_with fail
    go_ret
    exact ⟨rfl, H1.out.1⟩
  by_cases hb1 : 6 < N1
  · go_wp2_with fail
    go_ret
    exact ⟨rfl, H1.out.1⟩
  by_cases hb2 : 6 < N2
  · go_wp2_with fail
    go_ret
    exact ⟨rfl, H1.out.1⟩
  obtain ⟨M, hMe, hM⟩ : ∃ M : Int, (m : Int) % 400 = M ∧ 0 ≤ M ∧ M < 400 := ⟨_, rfl, by omega, by omega⟩
  by_cases hck : chkT l = 0
  · obtain ⟨hl4, t, hw, rfl⟩ := chk_tree l hck
    have hen : EnterOk t := by
      refine enter_any t hw ?_ H0.out.2.2.1
      have := chkT_of t.flat (by omega) _ rfl
      rw [hck] at this
      by_cases h : chkGo t.flat 0 = some 1
      · exact h
      · rw [if_neg h] at this; cases this
    have HC := Lib.hid (thru_all t hw hck hen a n cap W H1.out.2 H0.out.2.1 (by omega) H0.out.2.2.2 s1 (by omega) M hM)
    have HCk := Lib.hid (fun V (hb : Below W.heap.size W V) => rcheck_any t.flat a n cap V (H1.out.2.below hb) H0.out.2.1 (by omega))
    rw [hck] at HCk
    have HW := Lib.hid hw
    clear hck hw hen hl4
    go_wp2_with fail
    refine HC.out.mono ?_
    rintro e w2 ⟨b2, vd, a', n', c', k, rfl, hk, hn', hcase⟩
    have hN := St.new w2 34 #[.bool vd, .slice a' n' c']
    have hbN : Below w2.heap.size w2 (w2.alloc (.cells #[.bool vd, .slice a' n' c'] 34)) := (Below.refl _ _).alloc (Nat.le_refl _) _
    have hbW := b2.trans (hbN.mono b2.size)
    have hcase2 : (vd = true ∧ k < s1.size ∧ ∀ q, ¬ Lan t ((bytesL s1).take (k + 1) ++ q)) ∨ (vd = false ∧ k < s1.size ∧ M < (n' : Int)) ∨ (vd = false ∧ k = s1.size ∧ ThR W.heap.size (w2.alloc (.cells #[.bool vd, .slice a' n' c'] 34)) t 1000000 (bytesL s1) (.slice a' n' c') n') := by
      rcases hcase with h | h | ⟨g1, g2, g3⟩
      · exact Or.inl h
      · exact Or.inr (Or.inl h)
      · exact Or.inr (Or.inr ⟨g1, g2, g3.below hbN⟩)
    have H2 := Lib.hid (And.intro hN (And.intro hbW hcase2))
    clear hN hbN hbW hcase2 hcase b2
    rw [h1] at hk
    go_wp2_with fail
    generalize w2.alloc (.cells #[.bool vd, .slice a' n' c'] 34) = V at H2 ⊢
    generalize w2.heap.size = gl at H2 ⊢
    refine (HCk.out V H2.out.2.1).mono ?_
    rintro e w3 ⟨rfl, b3⟩
    obtain ⟨c0, c1, _, _⟩ := left_cells (H2.out.1.keep b3)
    have hW3 := H2.out.2.1.trans (b3.mono H2.out.2.1.size)
    have H3 := Lib.hid (And.intro (H1.out.1.trans (hW3.mono H1.out.1.size)) (And.intro (H1.out.2.below hW3) b3))
    clear hW3 b3
    rcases H2.out.2.2 with ⟨rfl, hk1, hno⟩ | ⟨rfl, hk1, hbig2⟩ | ⟨rfl, hk1, hR⟩
    · rw [h1] at hk1
      have hsz : (s1.extract 0 (k + 1) ++ s2).size = k + 1 + N2 := by
        rw [ByteArray.size_append, ByteArray.size_extract]; omega
      have HH := Lib.hid (has_lan t HW.out (s1.extract 0 (k + 1) ++ s2) (by omega) a n cap w3 H3.out.2.1 H0.out.2.1 (by omega) H0.out.2.2.2)
      have hki : (k : Int) < (N1 : Int) := by omega
      have HNO := Lib.hid (hno (bytesL s2))
      clear hno
      go_wp2_with fail
      refine HH.out.mono ?_
      rintro e w4 ⟨x, rfl, hx, b4⟩
      have hxf : x = false := by
        cases x
        · rfl
        · have := hx.1 rfl
          rw [bytesL_app, bytesL_ext] at this
          exact absurd this HNO.out
      subst hxf
      obtain ⟨c0, c1, _, _⟩ := left_cells ((H2.out.1.keep H3.out.2.2).keep b4)
      have H4 := Lib.hid (H3.out.1.trans (b4.mono H3.out.1.size))
      clear b4 hx
      go_wp2_with fail
      go_ret
      exact ⟨rfl, H4.out⟩
    · rw [h1] at hk1
      have hki : (k : Int) < (N1 : Int) := by omega
      go_wp2_with fail
      go_ret
      exact ⟨rfl, H3.out.1⟩
    · rw [h1] at hk1
      subst hk1
      obtain ⟨u, a9, c9, e1, hlo, huw, hun, hux, hc1, hc2, hnK, hul⟩ := hR
      injection e1 with e1 _ e3
      subst e1 e3
      have HU := Lib.hid (And.intro huw (And.intro hun (And.intro (hux.below H3.out.2.2) (And.intro hul (And.intro hc1 hc2)))))
      clear hlo huw hun hux hc1 hc2 hul
      go_wp2_with fail
      refine (rfits_any u.flat a' n' c' w3 HU.out.2.2.1 HU.out.2.1 (by omega)).mono ?_
      rintro e w4 ⟨rfl, b4⟩
      rw [fit_tree u HU.out.1]
      obtain ⟨c0, c1, _, _⟩ := left_cells ((H2.out.1.keep H3.out.2.2).keep b4)
      have H4 := Lib.hid (And.intro (H3.out.1.trans (b4.mono H3.out.1.size)) (And.intro (H3.out.2.1.below b4) (HU.out.2.2.1.below b4)))
      clear b4
      have HH1 := Lib.hid (has_lan u HU.out.1 s2 (by omega) a' n' c' w4 H4.out.2.2 HU.out.2.1 (by omega) HU.out.2.2.2.2)
      go_wp2_with fail
      refine HH1.out.mono ?_
      rintro e w5 ⟨x, rfl, hx, b5⟩
      have hsz : (s1 ++ s2).size = k + N2 := by rw [ByteArray.size_append]; omega
      have HH2 := Lib.hid (has_lan t HW.out (s1 ++ s2) (by omega) a n cap w5 (H4.out.2.1.below b5) H0.out.2.1 (by omega) H0.out.2.2.2)
      have HX := Lib.hid (hx.trans (HU.out.2.2.2.1 (bytesL s2)))
      have H5 := Lib.hid (H4.out.1.trans (b5.mono H4.out.1.size))
      clear hx b5
      go_wp2_with fail
      refine HH2.out.mono ?_
      rintro e w6 ⟨y, rfl, hy, b6⟩
      rw [bytesL_app] at hy
      have hxy : x = y := by
        have h := HX.out.trans hy.symm
        cases x <;> cases y <;> simp at h ⊢
      subst hxy
      have H6 := Lib.hid (H5.out.trans (b6.mono H5.out.size))
      clear b6 hy
      go_wp2_with fail
      go_ret
      exact ⟨by simp, H6.out⟩
  · have HC := Lib.hid (thru_bad l hck a n cap W H1.out.2 H0.out.2.1 (by unfold maxLen; omega) s1 M)
    have HCk := Lib.hid (fun V (hb : Below W.heap.size W V) => rcheck_any l a n cap V (H1.out.2.below hb) H0.out.2.1 (by omega))
    have hck2 : (((chkT l : Nat) : Int) == 0) = false := by simp; omega
    have hck3 : (((chkT l : Nat) : Int) != 0) = true := by simp; omega
    generalize chkT l = ck at HCk hck hck2 hck3
    go_wp2_with fail
    refine HC.out.mono ?_
    rintro e w2 ⟨rfl, b2⟩
    have hN := St.new w2 34 #[.bool true, .slice none 0 0]
    have hbN : Below w2.heap.size w2 (w2.alloc (.cells #[.bool true, .slice none 0 0] 34)) := (Below.refl _ _).alloc (Nat.le_refl _) _
    have H2 := Lib.hid (And.intro hN (b2.trans (hbN.mono b2.size)))
    clear hN hbN b2
    go_wp2_with fail
    generalize w2.alloc (.cells #[.bool true, .slice none 0 0] 34) = V at H2 ⊢
    generalize w2.heap.size = gl at H2 ⊢
    refine (HCk.out V H2.out.2).mono ?_
    rintro e w3 ⟨rfl, b3⟩
    obtain ⟨c0, c1, _, _⟩ := left_cells (H2.out.1.keep b3)
    have hW3 := H2.out.2.trans (b3.mono H2.out.2.size)
    have H3 := Lib.hid (H1.out.1.trans (hW3.mono H1.out.1.size))
    clear hW3 b3
    go_wp2_with fail
    go_ret
    exact ⟨rfl, H3.out⟩
end Go.Proofs.Ytkdhdlokilgccaa

namespace Go.Proofs.Ytkdhdlokilgccaa.derivThrough
open Go.ChangeShapes Go.WideShapes Go.ChangeAt Go.RowKit Go.Deep
set_option linter.unusedVariables false

set_option maxRecDepth 100000 in
/-- Two strings in an array. -/
theorem open_two {H : Type} {enc : TypeId × Value → H} {w : World} {base b0 : Nat} {r : Reach} {spare : Nat → Bool} {held : Bool} {v : Value} (hk : Value.okWide Try.prog w r b0 38 v)
    (h : ∃ (fuel : Nat) (x : DataW H × List MemPlace), DataW.trod enc Try.prog w base spare held fuel 38 v.cells.toList = some x) : ∃ s1 s2 : ByteArray, v = .agg #[.string s1, .string s2] ∧ s1.size ≤ maxLen ∧ s2.size ≤ maxLen := by
  obtain ⟨xs, rfl⟩ : ∃ xs : Array Value, v = .agg xs := by
    simp only [Value.okWide, Try.underlying38] at hk
    obtain ⟨cs, h1, _⟩ := hk
    exact ⟨cs, h1⟩
  obtain ⟨fuel, x, hf⟩ := h
  have h4 : Try.prog.cellsOf 38 = 2 := by kernel_rfl
  have h1 : Try.prog.cellsOf 9 = 1 := by kernel_rfl
  obtain ⟨ys, m, _, _, hl, hxl, hi⟩ := DataW.trod_array Try.underlying38 hf
  rw [h4] at hl
  have hcs : (Value.agg xs).cells.toList = xs.toList := rfl
  rw [hcs] at hl hi
  obtain ⟨c0, c1, hc⟩ : ∃ c0 c1, xs.toList = [c0, c1] := by
    generalize xs.toList = L at hl
    match L, hl with
    | [c0, c1], _ => exact ⟨c0, c1, rfl⟩
  have hx : xs = #[c0, c1] := Array.toList_inj.1 (by rw [hc])
  rw [hc] at hi
  match ys, hxl with
  | [y0, y1], _ =>
    have i0 := hi 0 (by omega)
    have i1 := hi 1 (by omega)
    simp [h1] at i0 i1
    obtain ⟨s1, e0, _, f0⟩ := DataW.trod_string Try.underlying9 i0
    obtain ⟨s2, e1, _, f1⟩ := DataW.trod_string Try.underlying9 i1
    simp at e0 e1
    subst e0 e1
    exact ⟨s1, s2, by rw [hx], f0, f1⟩

theorem walk (l : List Pc) (a : Option Addr) (len cap : Nat) (s1 s2 : ByteArray) (y : Int) (w : World) (hL : RxAt w a l) (hn : l.length = len) (hcap : len ≤ cap ∧ cap ≤ maxLen) (h1 : s1.size ≤ maxLen) (h2 : s2.size ≤ maxLen) (w1 : (Lit.int .u16 y).wf = true) :
    Calls Try.prog 4 #[.slice a len cap, .agg #[.string s1, .string s2], .int .u16 y] w fun e w' => e = .returned (.bool true) ∧ Below w.heap.size w w' := by
  have h3 := bounds_u16 w1
  obtain ⟨m, rfl⟩ := Int.eq_ofNat_of_zero_le h3.1
  unfold maxLen at h1 h2
  exact derivThrough_can (l.map canP) (fun x hx => by
    obtain ⟨z, _, rfl⟩ := List.mem_map.1 hx
    exact canP_can z) a len cap s1 s2 s1.size s2.size rfl rfl (by omega) (by omega) m (by omega) w (can_rx hL) (by simpa using hn) hcap

set_option maxRecDepth 100000 in
theorem lifted (os : Os) (started : os.Started) (H : Type) (enc : TypeId × Value → H) :
    ReturnsInHanded {} Try.checked os 4 .any (Rows.derivThroughSpec.pre6 enc Try.prog Try.f4 Rows.derivThroughRow.domain false) (Rows.derivThroughSpec.post enc Try.prog Try.f4 false true false false) := by
  refine returnsInHanded_of_change (C := Try.checked) own started (by kernel_rfl) Try.func4
    (ChangeSpec.witness6 (enc := enc) (C := Try.checked) false ⟨#[], #[.slice none 0 0, .agg #[.string ⟨#[]⟩, .string ⟨#[]⟩], .int .u16 0], []⟩ 8 (by kernel_rfl) (by kernel_rfl) (by kernel_rfl) (by kernel_rfl)) ?_
  intro W base args ds gs before hval0 hW hcnd _
  have hval : ∀ (j : Nat) t v, Try.f4.params[j]? = some t → args[j]? = some v → Value.okWide Try.prog W .any base t v := hval0
  have hW' := hW
  obtain ⟨p, q, hA0, hV, rfl, hfz, hnd⟩ := hW
  have hA : DataW.TrodAll enc Try.prog W 0 (fun _ => true) true Try.f4.params.toList args.toList ds p := hA0
  rw [Try.params4] at hA hval
  obtain ⟨v0, vs0, d0, ds0, p0, q0, hargs, rfl, rfl, h0, r0⟩ := trodAll_cons hA
  obtain ⟨v1, vs1, d1, ds1, p1, q1, rfl, rfl, rfl, h1, r1⟩ := trodAll_cons r0
  obtain ⟨v2, vs2, d2, ds2, p2, q2, rfl, rfl, rfl, h2, r2⟩ := trodAll_cons r1
  obtain ⟨rfl, rfl, rfl⟩ := trodAll_nil r2
  obtain rfl : args = #[v0, v1, v2] := by cases args; simp_all
  obtain ⟨rfl, rfl⟩ := trodVars_none hV
  obtain ⟨a0, len0, cap0, rfl⟩ := okWide_slice Try.underlying23 (hval 0 23 v0 rfl rfl)
  obtain ⟨a2, rfl, rfl, rfl, w2⟩ := open_int Try.underlying39 (hval 2 39 v2 rfl rfl) h2
  have k1 := h1
  have lt1 : ∀ x ∈ p1, x.block < W.heap.size := by obtain ⟨m, hm⟩ := k1; exact DataW.trod_lt m _ _ _ hm
  obtain ⟨s1, s2, rfl, z1, z2⟩ := open_two (hval 1 38 v1 rfl rfl) (by obtain ⟨fuel, hf⟩ := h1; exact ⟨fuel, _, hf⟩)
  have k0 := h0
  have lt0 : ∀ x ∈ p0, x.block < W.heap.size := by obtain ⟨m, hm⟩ := k0; exact DataW.trod_lt m _ _ _ hm
  have hs : ∃ l : List Pc, l.length = len0 ∧ RxAt W a0 l ∧ len0 ≤ cap0 ∧ cap0 ≤ maxLen := by
    obtain ⟨fuel, hf⟩ := h0
    exact open_pieces (by simpa [Value.cells] using hf)
  obtain ⟨l, hl1, hl2, hl3, hl4⟩ := hs
  clear hA0 hval0
  refine (walk l a0 len0 cap0 s1 s2 a2 W hl2 hl1 ⟨hl3, hl4⟩ z1 z2 w2).mono fun e W' ⟨he, bel⟩ => ?_
  subst he
  exact ⟨_, rfl, _, _, _, [], _, [], hW', trodAll_mk1 (shut_bool Try.underlying4 _), (trodAll_cons_mk (Below.trod laidOut (by kernel_rfl) (of_decide_eq_true (by kernel_rfl)) k0 bel lt0) (trodAll_cons_mk (Below.trod laidOut (by kernel_rfl) (of_decide_eq_true (by kernel_rfl)) k1 bel lt1) (trodAll_cons_mk (shut_int Try.underlying39 w2) trodAll_mk0))), rfl, bel.frame _, fun h => by cases h⟩

theorem over : Rows.derivThroughRow.holds Try.pinned (OpenSpec.ofChange Rows.derivThroughSpec) :=
  OpenClaim.holds_of_wide 4 Try.f4 rfl rfl rfl rfl rfl rfl rfl ⟨rfl, rfl, rfl, rfl, rfl⟩ rfl rfl rfl rfl rfl (by kernel_rfl) Try.func4 (by kernel_rfl)
    (of_decide_eq_true (by kernel_rfl)) (by unfold Func.isWrapper; first | (rw [if_pos (by decide +kernel)]; kernel_rfl) | (rw [if_neg (by decide +kernel)]; exact ⟨rfl, rfl⟩))
    (fun os started H enc _ => lifted os started H enc)

/-- The statement. -/
theorem proved : Rows.DerivThroughSaid := over
end Go.Proofs.Ytkdhdlokilgccaa.derivThrough
