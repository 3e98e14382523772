import Derived.Test.YthidhkaeebakjaaNOf
namespace Go.Proofs.Ythidhkaeebakjaa
open Go.RowKit Go.Maps Go.WideElems Go.ChangeMaps Go.MapKept
set_option linter.unusedVariables false
set_option linter.unusedSimpArgs false

def OfPost (w : World) (e : Ending) (w' : World) : Prop :=
  ∃ a c, e = .returned (.tuple #[.agg #[.int .i64 2, .slice a 1 c, .int .i64 0, .int .i64 1], .int .i64 0]) ∧ w'.ownsRow w.heap.size 35 7 (.slice a 1 c) 1 (egs ([exE].map En.z)) ∧ Below w.heap.size w w'

set_option maxHeartbeats 1000000 in
set_option maxRecDepth 100000 in
theorem of_ex (g : Nat) (w : World) (hL : St w 67 g #[.int .i64 1, .int .u64 0, .int .u64 8589934592, .int .u64 0, .int .u64 0]) : Calls Try.prog 29 #[.slice (some ⟨g, 0, none⟩) 1 1] w (OfPost w) := by
  have hX : RxAt w (some ⟨g, 0, none⟩) exL := by
    intro _
    refine ⟨g, 0, rfl, hL.lt, fun j hj => ?_⟩
    rw [Nat.zero_add, hL.at_, exL_pcs]
    simp only [List.getElem?_toArray]
  have hB0 : Below w.heap.size w (w.alloc (.cells #[.int .i64 0, .slice none 0 0, .int .i64 0, .int .i64 0] 24)) := al _ _
  have HC := Lib.hid (check_any exL (some ⟨g, 0, none⟩) 1 1 _ (hX.below hB0) rfl (by unfold maxLen; omega))
  rw [exL_chk] at HC
  have H := Lib.hid (And.intro hL (And.intro hB0 (St.new w 24 #[.int .i64 0, .slice none 0 0, .int .i64 0, .int .i64 0])))
  clear hL hX hB0
  go_enter Try.func29, Try.ntmps29
  go_wp2_with fail
  generalize w.alloc (.cells #[.int .i64 0, .slice none 0 0, .int .i64 0, .int .i64 0] 24) = W0 at HC H ⊢
  refine HC.out.mono ?_
  rintro e w2 ⟨rfl, v2⟩
  have H2 := Lib.hid (And.intro (H.out.1.keep (H.out.2.1.trans (v2.mono H.out.2.1.size))) (And.intro (H.out.2.2.keep v2) (H.out.2.1.trans (v2.mono H.out.2.1.size))))
  clear v2
  go_wp2_with fail
  refine (begin_any 0 (by omega) _).mono ?_
  rintro e w3 ⟨rfl, rfl⟩
  go_wp2_with fail
  refine (end_any 0 (by omega) _).mono ?_
  rintro e w3 ⟨rfl, rfl⟩
  go_wp2_with fail
  have hal := al w2 (.cells #[.int .i64 2, .slice none 0 0, .int .i64 0, .int .i64 1] 24)
  have H3 := Lib.hid (And.intro (St.new w2 24 #[.int .i64 2, .slice none 0 0, .int .i64 0, .int .i64 1]) (And.intro (H2.out.2.1.keep hal) (And.intro (H2.out.1.keep hal) (H2.out.2.2.trans (hal.mono H2.out.2.2.size)))))
  have hbn : w.heap.size ≠ w2.heap.size := Nat.ne_of_lt H2.out.2.1.lt
  have hbl : w.heap.size ≤ w2.heap.size := H2.out.2.2.size
  clear hal H2 HC H
  generalize w2.alloc (.cells #[.int .i64 2, .slice none 0 0, .int .i64 0, .int .i64 1] 24) = W1 at H3 ⊢
  generalize w2.heap.size = bn at H3 hbn hbl ⊢
  go_loopw [7, 27] (fun _ v wr => ∃ (k : Nat) (vE : Value), v = .int .i64 k ∧ k ≤ 1 ∧ Hid (St wr 24 bn #[.int .i64 2, vE, .int .i64 0, .int .i64 1] ∧ wr.ownsRow w.heap.size 35 7 vE k (egs (([exE].take k).map En.z)) ∧ St wr 24 w.heap.size #[.int .i64 0, .slice none 0 0, .int .i64 0, .int .i64 0] ∧ St wr 67 g #[.int .i64 1, .int .u64 0, .int .u64 8589934592, .int .u64 0, .int .u64 0] ∧ Below w.heap.size w wr)) (fun _ v _ => 1 - (intOf v).toNat)
  case atStart => exact ⟨0, _, rfl, by omega, H3.out.1, World.ownsRow_nil _ _ _ _, H3.out.2.1, H3.out.2.2.1, H3.out.2.2.2⟩
  case round =>
    obtain ⟨k, vE, rfl, hk, HA⟩ := hrel
    obtain ⟨aE, cE, rfl⟩ := ownsRow_slice HA.out.2.1
    by_cases hlt : k < 1
    · obtain ⟨i0, hi, hz0, hz1, hz2⟩ := info_parts Try.info_edge9
      have p1 := HA.out.1.at_ 1
      simp only [List.getElem?_toArray, List.getElem?_cons_succ, List.getElem?_cons_zero] at p1
      have ex : egs (([exE].take k).map En.z) = [] := by rw [show k = 0 by omega]; rfl
      have HEX := Lib.hid ex
      have hsz := HA.out.2.2.2.2.size
      have hki : (k : Int) = 0 := by omega
      have HK := Lib.hid hki
      clear ex hki
      go_wp2_with fail
      rw [show (Value.int IntKind.i64 ((k : Nat) : Int)) = .int .i64 0 by rw [HK.out]]
      go_region_law (first
        | (refine step_append_lies _ (by rfl) _ _ _ (by rfl) w.heap.size 35 i0 (.agg #[.int .i64 0, .int .i64 0, .int .u64 0, .int .u64 0, .int .u64 0, .int .u64 0, .bool false]) 7 56 Try.underlying22 hi hz0 hz1 hz2 (by rfl) (by decide) _ k (egs (([exE].take k).map En.z)) (by rfl) H4.out.2.1 ⟨g2, 0, none⟩ 1 1 (#[.int .i64 0, .int .i64 1, .int .u64 0, .int .u64 8589934592, .int .u64 0, .int .u64 0, .bool false]).toList (by rfl) (by rfl) (World.news_of_block (cs := #[.int .i64 0, .int .i64 1, .int .u64 0, .int .u64 8589934592, .int .u64 0, .int .u64 0, .bool false]) (t := 35) (fr := (0, 0)) H4.out.2.2.2.2.2) (by simp [Value.oneCell']) (by omega) (by unfold maxLen; omega) (by omega) hH4 _ (by rfl) ?_
           intro gg cap6 w6 hown6 hgrow6 hat6 hlt6
           have q1 := (H4.out.1.grown_own H4.out.2.1 (by decide) hgrow6).at_ 1
           simp only [List.getElem?_toArray, List.getElem?_cons_succ, List.getElem?_cons_zero] at q1
           have q2 := (H4.out.1.grown_own H4.out.2.1 (by decide) hgrow6).thaw_ 1)
        | (go_simp
           go_at_call 48
           refine (edgesOf_ex g wr.drew HA.out.2.2.2.1.drew).mono ?_
           rintro e w4 ⟨g2, rfl, hS2, hg2, v4⟩
           have hd : Below wr.heap.size wr w4 := ⟨v4.os, v4.tape, v4.output, v4.size, v4.block⟩
           have H4 := Lib.hid (And.intro (HA.out.1.keep hd) (And.intro (ownsRow_keep HA.out.2.1 hd) (And.intro (HA.out.2.2.1.keep hd) (And.intro (HA.out.2.2.2.1.keep hd) (And.intro (HA.out.2.2.2.2.trans (hd.mono hsz)) hS2)))))
           have hH4 : w.heap.size ≤ w4.heap.size := H4.out.2.2.2.2.1.size
           have p2 := H4.out.1.at_ 1
           simp only [List.getElem?_toArray, List.getElem?_cons_succ, List.getElem?_cons_zero] at p2
           clear hS2 hg2 v4 hd))
      all_goals
        have HF : Hid (St (w6.setCell ⟨bn, 1, none⟩ (.slice (some ⟨gg, 0, none⟩) (k + 1) cap6)) 24 bn #[.int .i64 2, .slice (some ⟨gg, 0, none⟩) (k + 1) cap6, .int .i64 0, .int .i64 1] ∧ (w6.setCell ⟨bn, 1, none⟩ (.slice (some ⟨gg, 0, none⟩) (k + 1) cap6)).ownsRow w.heap.size 35 7 (.slice (some ⟨gg, 0, none⟩) (k + 1) cap6) (k + 1) (egs (([exE].take (k + 1)).map En.z)) ∧ St (w6.setCell ⟨bn, 1, none⟩ (.slice (some ⟨gg, 0, none⟩) (k + 1) cap6)) 24 w.heap.size #[.int .i64 0, .slice none 0 0, .int .i64 0, .int .i64 0] ∧ St (w6.setCell ⟨bn, 1, none⟩ (.slice (some ⟨gg, 0, none⟩) (k + 1) cap6)) 67 g #[.int .i64 1, .int .u64 0, .int .u64 8589934592, .int .u64 0, .int .u64 0] ∧ Below w.heap.size w (w6.setCell ⟨bn, 1, none⟩ (.slice (some ⟨gg, 0, none⟩) (k + 1) cap6))) := by
          have h1 := H4.out.1.grown_own H4.out.2.1 (by decide) hgrow6
          refine ⟨?_, ?_, (H4.out.2.2.1.grown_own H4.out.2.1 (by decide) hgrow6).far (p := ⟨bn, 1, none⟩) hbn _, (H4.out.2.2.2.1.grown_own H4.out.2.1 (by decide) hgrow6).set_far h1 (by decide) _ _, (below_grown_own H4.out.2.2.2.2.1 H4.out.2.1 hH4 hgrow6).setCell (p := ⟨bn, 1, none⟩) hbl _⟩
          · have := h1.set 1 (.slice (some ⟨gg, 0, none⟩) (k + 1) cap6)
            simpa using this
          · have h2 := own_set hown6 h1 (by decide) 1 (.slice (some ⟨gg, 0, none⟩) (k + 1) cap6)
            have e : egs (([exE].take (k + 1)).map En.z) = egs (([exE].take k).map En.z) ++ (#[.int .i64 0, .int .i64 1, .int .u64 0, .int .u64 8589934592, .int .u64 0, .int .u64 0, .bool false] : Array Value).toList := by
              rw [HEX.out, exE_cells, show k = 0 by omega]
              rfl
            rw [e]
            exact h2
        clear hown6 hgrow6 hat6 hlt6 q1 q2 p1 p2
        go_wp2_with fail
        go_roundw
        case rel => exact ⟨k + 1, _, by rw [show k = 0 by omega]; rfl, by omega, HF⟩
        case measure => simp [intOf]; omega
    · obtain rfl : k = 1 := by omega
      obtain ⟨p0, p1, p2, p3⟩ := HA.out.1.cells4
      obtain ⟨q0, q1, q2, q3, g0, g1, g2, g3⟩ := row4 HA.out.2.2.1
      have HF : Hid (OfPost w (.returned (.tuple #[.agg #[.int .i64 2, .slice aE 1 cE, .int .i64 0, .int .i64 1], .int .i64 0])) ((((wr.setCell ⟨w.heap.size, 0, none⟩ (.int .i64 2)).setCell ⟨w.heap.size, 1, none⟩ (.slice aE 1 cE)).setCell ⟨w.heap.size, 2, none⟩ (.int .i64 0)).setCell ⟨w.heap.size, 3, none⟩ (.int .i64 1))) :=
        ⟨aE, cE, rfl, own_set4n HA.out.2.1 HA.out.2.2.1 (by decide) _ _ _ _, below4 HA.out.2.2.2.2 (Nat.le_refl _) _ _ _ _⟩
      have HSf : Hid (St ((((wr.setCell ⟨w.heap.size, 0, none⟩ (.int .i64 2)).setCell ⟨w.heap.size, 1, none⟩ (.slice aE 1 cE)).setCell ⟨w.heap.size, 2, none⟩ (.int .i64 0)).setCell ⟨w.heap.size, 3, none⟩ (.int .i64 1)) 24 w.heap.size #[.int .i64 2, .slice aE 1 cE, .int .i64 0, .int .i64 1]) := HA.out.2.2.1.set4 _ _ _ _
      go_wp2_with fail
      generalize (((wr.setCell ⟨w.heap.size, 0, none⟩ (.int .i64 2)).setCell ⟨w.heap.size, 1, none⟩ (.slice aE 1 cE)).setCell ⟨w.heap.size, 2, none⟩ (.int .i64 0)).setCell ⟨w.heap.size, 3, none⟩ (.int .i64 1) = Wf at HF HSf ⊢
      obtain ⟨v0, v1, v2, v3⟩ := HSf.out.cells4
      exact bodyPost_ret (v := .tuple #[.agg #[.int .i64 2, .slice aE 1 cE, .int .i64 0, .int .i64 1], .int .i64 0]) (by simp [results, Try.results29, go_sem, v0, v1, v2, v3]) rfl HF.out
end Go.Proofs.Ythidhkaeebakjaa
