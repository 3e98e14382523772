import Derived.Test.YtghhjonhmelohaaYOf
namespace Go.Proofs.Ytghhjonhmelohaa
open Go.RowKit Go.Maps Go.WideElems Go.ChangeMaps Go.MapKept
set_option linter.unusedVariables false
set_option linter.unusedSimpArgs false

set_option maxHeartbeats 2000000 in
set_option maxRecDepth 100000 in
theorem rof14_any (n c : Nat) (a : Option Addr) (z : Nat → Int) (m c2 : Nat) (a2 : Option Addr) (A : List Tok) (q : Int) (hA : A.length = m) (hm : m ≤ 100000) (w : World) (hK : ZAt w a n z) (hT : TkAt w a2 A) :
    Calls Try.prog 12 #[.slice a n c, .slice a2 m c2, .int .i64 q] w (OfP (ofF (kdF z n) q A) w) := by
  have H := Lib.hid (And.intro hK (And.intro hT hA))
  obtain ⟨iT, hiT, hT0, hT1, hT2⟩ := info_parts Try.info_tok
  clear hK hT hA
  go_enter Try.func12, Try.ntmps12
  go_wp2_with fail
  go_loopw [7, 8] (fun v7 v8 wr => ∃ (k p : Nat) (b : Option Addr) (d : Nat), v7 = .slice b p d ∧ v8 = .int .i64 k ∧ k ≤ m ∧ p ≤ k ∧ Hid ((ofF (kdF z n) q (A.take k)).length = p ∧ wr.ownsRow w.heap.size 32 3 (.slice b p d) p (tks (ofF (kdF z n) q (A.take k))) ∧ Below w.heap.size w wr)) (fun _ v _ => m - (nV v).toNat)
  case atStart => exact ⟨0, 0, none, 0, rfl, rfl, Nat.zero_le _, Nat.zero_le _, rfl, World.ownsRow_nil _ _ _ _, Below.refl _ _⟩
  case round =>
    obtain ⟨k, p, b, d, rfl, rfl, hk, hp, HX⟩ := hrel
    by_cases hlt : k < m
    · have hkA : k < A.length := by rw [H.out.2.2]; exact hlt
      obtain ⟨g1, o1, rfl, hg1, x0, x1, x2⟩ := (H.out.2.1.below HX.out.2.2).get k hkA
      have HT := Lib.hid (ofF_take (k := kdF z n) (q := q) hkA)
      have i1 : (k : Int) < (m : Int) := by omega
      generalize A[k] = x at x0 x1 x2 HT
      have HC := Lib.hid (rkind14_any n c a z x wr (H.out.1.below HX.out.2.2))
      have Hg := Lib.hid hg1
      clear hkA hg1
      rcases hq : (kdF z n x.r == q) with _ | _
      · rw [hq, if_neg (by decide), List.append_nil] at HT
        go_wp2_with (go_at_call 14; refine HC.out.mono ?_; rintro e w2 ⟨rfl, b2⟩)
        have HE := Lib.hid (And.intro (ownsRow_keep HX.out.2.1 b2) (HX.out.2.2.trans (b2.mono HX.out.2.2.size)))
        clear b2 x0 x1 x2
        go_roundw
        case rel => exact ⟨k + 1, p, b, d, rfl, by go_num, by omega, by omega, by rw [HT.out]; exact HX.out.1, by rw [HT.out]; exact HE.out.1, HE.out.2⟩
        case measure => simp [nV]; omega
      · rw [hq, if_pos rfl] at HT
        have hp9 : p + 1 ≤ m := by omega
        go_wp2_with (first
          | (go_at_call 14; refine HC.out.mono ?_; rintro e w3 ⟨rfl, b3⟩
             have H3 := Lib.hid (And.intro (ownsRow_keep HX.out.2.1 b3) (HX.out.2.2.trans (b3.mono HX.out.2.2.size)))
             have y0 := (b3.cell (p := ⟨g1, o1 + k * 3, none⟩) Hg.out).trans x0
             have y1 := (b3.cell (p := ⟨g1, o1 + k * 3 + 1, none⟩) Hg.out).trans x1
             have y2 := (b3.cell (p := ⟨g1, o1 + k * 3 + 2, none⟩) Hg.out).trans x2
             clear b3 x0 x1 x2 HC
             have hO := H3.out.1
             have hsv := H3.out.2.size)
          | (at_builtin; refine wpList_append_own _ rfl _ _ 23 rfl w.heap.size 32 iT (.agg #[.int .i64 0, .string ⟨#[]⟩, .int .i64 0]) 3 32 Try.underlying23 hiT hT0 hT1 hT2 rfl (by decide) _ _ _ rfl (hO.alloc _) ⟨w3.heap.size, 0, none⟩ 1 1 (#[.int .i64 x.r, .string x.s, .int .i64 x.p]).toList rfl rfl (bl_news (Bl.new _ _ _)) ?_ ?_ ?_ ?_ ?_))
        · exact ⟨rfl, rfl, rfl⟩
        · unfold maxLen; omega
        · omega
        · first | omega | (simp; omega)
        intro v' w5 hown5 hgrow5 _
        obtain ⟨a5, c5, rfl⟩ := ownsRow_slice hown5
        have hb5 : Below w.heap.size w w5 := (H3.out.2.trans ((al w3 _).mono hsv)).grown hgrow5 (by simp; omega) (fun g e => (hO.lt g e).1)
        have HX5 := Lib.hid (And.intro hown5 hb5)
        clear hown5 hgrow5 hb5 hO H3 hsv
        go_wp2_with fail
        go_roundw
        case rel => exact ⟨k + 1, p + 1, a5, c5, rfl, by go_num, by omega, by omega, by rw [HT.out, List.length_append, HX.out.1]; rfl, by rw [HT.out, tks_append]; exact HX5.out.1, HX5.out.2⟩
        case measure => simp [nV]; omega
    · obtain rfl : k = m := by omega
      have HE : Hid (OfP (ofF (kdF z n) q A) w (.returned (.slice b p d)) wr) := by
        have h1 := HX.out.1
        have h2 := HX.out.2.1
        rw [List.take_of_length_le (by rw [H.out.2.2]; exact Nat.le_refl _)] at h1 h2
        exact ⟨b, d, by rw [h1], own_tks h1 h2, HX.out.2.2, by rw [h1]; exact own_cap h2⟩
      go_wp2_with fail
      go_ret
      exact HE.out
end Go.Proofs.Ytghhjonhmelohaa
