import Derived.Test.YtjhfgiflcenjpaaDoorZEmpty
import Derived.Test.YtjhfgiflcenjpaaDoorZPShow2
import Derived.Test.YtjhfgiflcenjpaaDoorZPrBack
import Derived.Test.YtjhfgiflcenjpaaDoorZRChk
import Derived.Test.YtjhfgiflcenjpaaDoorZRxKids
import Derived.Test.YtjhfgiflcenjpaaDoorZRxSame
import Derived.BigQuiet
import Derived.WalkSmall
import Derived.Deep.QuietTactic
import Derived.Deep.RegionHeld3
namespace Go.Proofs.YtjhfgiflcenjpaaDoor
open Go.RowKit
set_option linter.unusedVariables false

theorem ones_append (a b : List Pc) : ones (a ++ b) = ones a ++ ones b := by unfold ones; rw [List.filter_append, List.map_append]
/-- The set of a One piece, where it stands among the sets. -/
theorem ones_at (l : List Pc) (k : Nat) (h : k < l.length) (h1 : l[k].k = 1) : ∃ hm : (ones (l.take k)).length < (ones l).length, (ones l)[(ones (l.take k)).length] = l[k].p := by
  have e : ones l = ones (l.take k) ++ (l[k].p :: ones (l.drop (k + 1))) := by
    conv => lhs; rw [← List.take_append_drop (k + 1) l]
    rw [ones_append, ones_take_yes l k h h1, List.append_assoc]; rfl
  have hm : (ones (l.take k)).length < (ones l).length := by rw [e]; simp
  refine ⟨hm, ?_⟩
  simp only [e]
  rw [List.getElem_append_right (by omega)]
  simp
/-- Sets of a new block, read. -/
def SetsAt (w : World) (a : Option Addr) (S : List (Nat → Bool)) : Prop :=
  ∀ i (h : i < S.length), ∃ b, a = some ⟨b, 0, none⟩ ∧ b < w.heap.size ∧ w.cell? ⟨b, i * 4, none⟩ = some (.int .u64 ((wd S[i] 0 : Nat) : Int)) ∧ w.cell? ⟨b, i * 4 + 1, none⟩ = some (.int .u64 ((wd S[i] 1 : Nat) : Int)) ∧ w.cell? ⟨b, i * 4 + 2, none⟩ = some (.int .u64 ((wd S[i] 2 : Nat) : Int)) ∧ w.cell? ⟨b, i * 4 + 3, none⟩ = some (.int .u64 ((wd S[i] 3 : Nat) : Int))
theorem SetsAt.below {w w' : World} {a : Option Addr} {S : List (Nat → Bool)} (h : SetsAt w a S) (k : Below w.heap.size w w') : SetsAt w' a S := by
  intro i hi
  obtain ⟨b, e, hb, c0, c1, c2, c3⟩ := h i hi
  have := k.size
  exact ⟨b, e, by omega, (k.cell (p := ⟨b, i * 4, none⟩) hb).trans c0, (k.cell (p := ⟨b, i * 4 + 1, none⟩) hb).trans c1, (k.cell (p := ⟨b, i * 4 + 2, none⟩) hb).trans c2, (k.cell (p := ⟨b, i * 4 + 3, none⟩) hb).trans c3⟩
theorem sets_own {w : World} {base : Nat} {a : Option Addr} {n cap : Nat} {S : List (Nat → Bool)} (h : w.ownsRow base 33 4 (.slice a n cap) n (stc S)) (hn : S.length = n) : SetsAt w a S := by
  intro i hi
  obtain ⟨g, ha, _, hg, hc⟩ := ownsRow_read h (by omega)
  have hl := stc_length S
  have hr : ∀ j, j < 4 → w.cell? ⟨g, i * 4 + j, none⟩ = (#[.int .u64 ((wd ((S[i])) 0 : Nat) : Int), .int .u64 ((wd ((S[i])) 1 : Nat) : Int), .int .u64 ((wd ((S[i])) 2 : Nat) : Int), .int .u64 ((wd ((S[i])) 3 : Nat) : Int)]).toList[j]? := fun j hj => by
    rw [(hc (i * 4 + j) (by omega)).1, stc_get S i hi j hj]
  exact ⟨g, ha, hg, hr 0 (by decide), hr 1 (by decide), hr 2 (by decide), hr 3 (by decide)⟩

set_option maxRecDepth 100000 in
theorem pc_emp (z : Int) : pcCells ⟨z, emp⟩ = [.int .i64 z, .int .u64 0, .int .u64 0, .int .u64 0, .int .u64 0] := by
  have h0 : wd emp 0 = 0 := by decide +kernel
  have h1 : wd emp 1 = 0 := by decide +kernel
  have h2 : wd emp 2 = 0 := by decide +kernel
  have h3 : wd emp 3 = 0 := by decide +kernel
  simp [pcCells, h0, h1, h2, h3]
theorem top_ok (t : Rx) (hw : t.wf) : okSet t.top = true := by
  cases t
  · exact hw.2
  · exact hw.2.1
  · exact hw.2.1

set_option maxHeartbeats 2000000 in
set_option maxRecDepth 100000 in
theorem rexChecks_law (l : List Pc) (a : Option Addr) (n cap : Nat) (at_ : Nat) (w : World) (hat : at_ < 65536) (hT : TabAt w) (hg : 0 < w.heap.size) (hL : RxAt w a l) (hn : l.length = n) (hcap : n ≤ cap ∧ cap ≤ maxLen) :
    Calls Tryd.prog 3 #[.slice a n cap, .int .u16 at_] w fun e w' => e = .returned (.bool true) ∧ Below w.heap.size w w' := by
  have HL := Lib.hid hL
  have HN := Lib.hid hn
  have HC := Lib.hid hcap
  have hnm : n ≤ 9223372036854775807 := by have := hcap.1; have := hcap.2; unfold maxLen at this; omega
  clear hL hn hcap
  go_enter Tryd.func3, Tryd.ntmps3
  go_wp2_with fail
  refine (awake_any _ hT hg).mono ?_
  rintro e w1 ⟨rfl, b1⟩
  by_cases h60 : 60 < n
  · go_wp2_with fail
    go_ret
    exact ⟨rfl, b1⟩
  obtain ⟨c, hc⟩ : ∃ c, chkT l = c := ⟨_, rfl⟩
  have HCC := Lib.hid hc
  have hs1 := b1.size
  have e60 : ¬ 60 < n := h60
  go_wp2_with fail
  refine (rcheck_any l a n cap _ (HL.out.below b1) HN.out (by omega)).mono ?_
  rintro e w2 ⟨rfl, b2⟩
  rw [HCC.out]
  have hb2 := b1.trans (b2.mono hs1)
  have hs2 := hb2.size
  go_wp2_with fail
  refine (check_any l a n cap _ (HL.out.below hb2) HN.out (by unfold maxLen; omega)).mono ?_
  rintro e w3 ⟨rfl, b3⟩
  rw [HCC.out]
  have hb3 := hb2.trans (b3.mono hs2)
  have hs3 := hb3.size
  clear b1 b2 b3 hb2 hs1 hs2
  go_wp2_with fail
  refine (sets_any l a n cap _ (HL.out.below hb3) HN.out (by omega)).mono ?_
  rintro e w4 ⟨aS, cS, rfl, hO4, b4⟩
  have HS4 := Lib.hid (sets_own hO4 rfl)
  have HB4 := Lib.hid (hb3.trans (b4.mono hs3))
  have hones := ones_len l n
  have HTk : Hid (l.take n = l) := by show _ = _; rw [← HN.out, List.take_length]
  rw [HTk.out] at hones
  obtain ⟨N, hNN⟩ : ∃ N, (ones l).length = N := ⟨_, rfl⟩
  rw [hNN] at hones ⊢
  have HNN := Lib.hid hNN
  clear hO4 b4 hb3 hs3 hNN
  go_wp2_with fail
  go_loopw [7, 8] (fun v i wr => ∃ k : Nat, i = .int .i64 k ∧ k ≤ n ∧ v = .int .i64 (ones (l.take k)).length ∧ Hid (Below w4.heap.size w4 wr)) (fun _ i _ => n - (intOf i).toNat)
  case atStart => exact ⟨0, rfl, Nat.zero_le _, rfl, Below.refl _ _⟩
  case round =>
    obtain ⟨k, rfl, hk, rfl, HBr⟩ := hrel
    have hol := ones_len l k
    by_cases hlt : k < n
    · have hkl : k < l.length := by rw [HN.out]; exact hlt
      obtain ⟨g, off, rfl, hgl, c0, c1, c2, c3, c4⟩ := ((HL.out.below HB4.out).below HBr.out).get k hkl
      have HY := Lib.hid (ones_take_yes l k hkl)
      have HNo := Lib.hid (ones_take_no l k hkl)
      have HAt := Lib.hid (ones_at l k hkl)
      obtain ⟨x, hx⟩ : ∃ x, l[k] = x := ⟨_, rfl⟩
      rw [hx] at c0 c1 c2 c3 c4 HY HNo HAt
      obtain ⟨m, hm⟩ : ∃ m, (ones (l.take k)).length = m := ⟨_, rfl⟩
      by_cases h1 : x.k = 1
      · obtain ⟨hmN, hgt⟩ := HAt.out h1
        obtain ⟨b, rfl, hbS, d0, d1, d2, d3⟩ := (HS4.out.below HBr.out) _ hmN
        rw [hgt] at d0 d1 d2 d3
        rw [HNN.out] at hmN
        have HZ : Hid ((ones (l.take (k + 1))).length = m + 1) := by show _ = _; rw [HY.out h1, List.length_append, hm]; rfl
        rw [hm] at d0 d1 d2 d3 hmN hol ⊢
        have heq := run_eq_set
        have g1 : decide (N ≤ m) = false := by simp; omega
        have e1 : (x.k != 1) = false := by simp [h1]
        clear hx hm hkl HY HNo HAt hgt
        go_wp2_with fail
        go_quiet (fail)
        go_wp2_with fail
        go_roundw
        case rel => exact ⟨k + 1, by go_num, by omega, by rw [HZ.out]; go_num, below_drewN HBr.out _⟩
        case measure => simp [intOf]; omega
      · have HZ : Hid ((ones (l.take (k + 1))).length = m) := by show _ = _; rw [HNo.out h1, hm]
        rw [hm] at hol ⊢
        have e1 : (x.k != 1) = true := by simpa using h1
        clear hx hm hkl HY HNo HAt
        go_wp2_with fail
        go_roundw
        case rel => exact ⟨k + 1, by go_num, by omega, by rw [HZ.out], HBr⟩
        case measure => simp [intOf]; omega
    · obtain rfl : k = n := by omega
      rw [HTk.out, HNN.out]
      have hbr := HB4.out.trans (HBr.out.mono HB4.out.size)
      have hsr := hbr.size
      by_cases hc0 : c = 0
      rotate_left
      · have e1 : ((c : Int) != 0) = true := by simp; omega
        have e2 : (c == 0) = false := by simp; omega
        have HCne : Hid (chkT l ≠ 0) := by show _ ≠ _; rw [HCC.out]; exact hc0
        clear hc hc0
        go_wp2_with fail
        refine (show_none l a k cap _ (HL.out.below hbr) HN.out (by unfold maxLen; omega) HCne.out).mono ?_
        rintro e w5 ⟨rfl, b5⟩
        go_wp2_with fail
        go_ret
        exact ⟨rfl, hbr.trans (b5.mono hsr)⟩
      subst hc0
      obtain ⟨t, ht, hfl⟩ := (chk_tree l hc).2
      subst hfl
      have hpos := t.flat_pos
      have hk1 : 1 ≤ k := by have := HN.out; omega
      obtain ⟨g, off, rfl, hgl, -⟩ := HL.out hpos
      have HT := Lib.hid ht
      clear hc HS4 HNN HCC hpos
      go_wp2_with fail
      refine (parts_t t HT.out g off k cap _ (HL.out.below hbr) HN.out (by omega) HC.out).mono ?_
      rintro e w5 ⟨aL, cL, rfl, hP5, b5⟩
      have hb5 := hbr.trans (b5.mono hsr)
      have hs5 := hb5.size
      go_wp2_with fail
      refine (rparts_t t HT.out g off k cap _ (HL.out.below hb5) HN.out (by omega) HC.out).mono ?_
      rintro e w6 ⟨aW, cW, rfl, hQ6, b6⟩
      have hP6 := hP5.below b6
      have hb6 := hb5.trans (b6.mono hs5)
      have hs6 := hb6.size
      have H2 := t.kids_two
      have HKT := Lib.hid (t.kids_takes HT.out)
      have HKF := Lib.hid t.kids_flat
      have hv : ∀ y ∈ t.flat, 0 ≤ takesZ y.k := takes_wf t HT.out
      obtain ⟨q, hq⟩ : ∃ q, at_ % k = q := ⟨_, rfl⟩
      have hqk : q < k := by rw [← hq]; exact Nat.mod_lt _ (by omega)
      have hS1 := fun W (b : Below w.heap.size w W) => start_any t.flat (some ⟨g, off, none⟩) k cap W (HL.out.below b) HN.out (by omega) q hqk
      have hS2 := fun W (b : Below w.heap.size w W) => rstart_any t.flat (some ⟨g, off, none⟩) k cap W (HL.out.below b) HN.out (by omega) hv q hqk
      obtain ⟨L, hLk⟩ : ∃ L, t.kids = L := ⟨_, rfl⟩
      rw [hLk] at H2 HKT HKF hP6 hQ6 ⊢
      obtain ⟨z, hz⟩ : ∃ z, t.top.k = z := ⟨_, rfl⟩
      rw [hz] at HKT
      obtain ⟨m, hm⟩ : ∃ m, L.length = m := ⟨_, rfl⟩
      rw [hm] at H2 HKT ⊢
      obtain ⟨st, hst⟩ : ∃ st, startT t.flat q = st := ⟨_, rfl⟩
      rw [hst] at hS1 hS2
      have HP := Lib.hid hP6
      have HQ := Lib.hid hQ6
      have HS1 := Lib.hid hS1
      have HS2 := Lib.hid hS2
      have HM := Lib.hid hm
      have HLK := Lib.hid hLk
      have HZ := Lib.hid hz
      have hrem : Int.tmod (at_ : Int) (k : Int) = (q : Int) := by rw [Int.tmod_eq_emod_of_nonneg (by omega), ← hq]; rfl
      have hk0 : ((k : Int) == 0) = false := by simp; omega
      have hk0' : (k == 0) = false := by simp; omega
      have hk1' : ¬ ((k : Int) = 0) := by omega
      have hk2' : ¬ (k = 0) := by omega
      have hrem2 : (at_ : Int) % (k : Int) = (q : Int) := by rw [← hq]; rfl
      have hw1 : IntKind.i64.wrap ((q : Nat) : Int) = ((q : Nat) : Int) := IntWalk.i64_in _ (by omega)
      have hw2 : IntKind.i64.wrap ((at_ : Nat) : Int) = ((at_ : Nat) : Int) := IntWalk.i64_in _ (by omega)
      have hw3 : IntKind.i64.wrap (Int.tmod (at_ : Int) (k : Int)) = ((q : Nat) : Int) := by rw [hrem]; exact hw1
      clear hS1 hS2 hP5 hP6 hQ6 b5 b6 hb5 hv hLk hm hst hz hs5
      go_wp2_with fail
      have hh : Below w.heap.size w w6.drew ∧ PartsIn w6.drew aL L ∧ PartsIn w6.drew aW L := ⟨hb6.drew, HP.out, HQ.out⟩
      clear HP HQ hb6 hs6
      go_region_held3 (fun W' => Below w.heap.size w W' ∧ PartsIn W' aL L ∧ PartsIn W' aW L) (first | exact hh | exact hHeld)
        (first
          | (go_at_call 12; refine (HS1.out _ (by first | exact hh.1 | exact hHeld.1)).mono ?_; rintro e wx ⟨rfl, rfl⟩)
          | (go_at_call 13; refine (HS2.out _ (by first | exact hh.1 | exact hHeld.1)).mono ?_; rintro e w7 ⟨rfl, b7⟩; (have hh7 : Below w.heap.size w w7 ∧ PartsIn w7 aL L ∧ PartsIn w7 aW L := ⟨hh.1.trans (b7.mono hh.1.size), hh.2.1.below b7, hh.2.2.below b7⟩); clear hh; (have hh := hh7); clear hh7 b7))
      all_goals
        have HB7 := Lib.hid hh.1
        have HP7 := Lib.hid hh.2.1
        have HQ7 := Lib.hid hh.2.2
        have hs7 := hh.1.size
        clear hh HS1 HS2 hk0 hk0' hk1' hk2' hrem hrem2 hw1 hw2 hw3 hq hqk
        go_wp2_with fail
        go_loopw [11] (fun i wr => ∃ j : Nat, i = .int .i64 j ∧ j ≤ m ∧ Hid (Below w7.heap.size w7 wr)) (fun i _ => m - (intOf i).toNat)
        case atStart => exact ⟨0, rfl, Nat.zero_le _, Below.refl _ _⟩
        case round =>
          obtain ⟨j, rfl, hj, HBq⟩ := hrel
          by_cases hjm : j < m
          · have hjl : j < L.length := by rw [HM.out]; exact hjm
            obtain ⟨b, g1, o1, c1, rfl, d1, r1, hp1, hb1⟩ := (HP7.out.below HBq.out) j hjl
            obtain ⟨b', g2, o2, c2, rfl, d2, r2, hp2, hb2⟩ := (HQ7.out.below HBq.out) j hjl
            obtain ⟨nl, hnl⟩ : ∃ nl, L[j].length = nl := ⟨_, rfl⟩
            have hn400 : nl ≤ 1000000 := by
              have h1 : L[j].length ≤ L.flatten.length := (List.sublist_flatten_of_mem (List.getElem_mem hjl)).length_le
              have h2 := congrArg List.length HKF.out
              rw [HN.out, List.length_append] at h2
              rw [List.length_singleton] at h2
              omega
            rw [hnl] at d1 d2
            have HS := Lib.hid (fun W (bw : Below wr.heap.size wr W) => rsame_any L[j] L[j] rfl (some ⟨g1, o1, none⟩) (some ⟨g2, o2, none⟩) nl c1 c2 W (r1.below bw) (r2.below bw) hnl hnl hn400)
            have hq0 : Below wr.heap.size wr wr.drew := (Below.refl _ _).drew
            clear r1 r2 hnl hp1 hp2 hjl
            go_wp2_with fail
            go_region_held3 (fun W' => Below wr.heap.size wr W' ∧ W'.cell? ⟨b, j, none⟩ = some (.slice (some ⟨g1, o1, none⟩) nl c1) ∧ W'.cell? ⟨b', j, none⟩ = some (.slice (some ⟨g2, o2, none⟩) nl c2)) (first | exact ⟨hq0, d1, d2⟩ | exact hHeld)
              (first
                | (go_at_call 14; refine (HS.out _ (by first | exact hq0 | exact hHeld.1)).mono ?_; rintro e w8 ⟨rfl, b8⟩; (have hq1 := hq0.trans (b8.mono hq0.size)); (have d1' := (hq1.cell (p := ⟨b, j, none⟩) hb1).trans d1); (have d2' := (hq1.cell (p := ⟨b', j, none⟩) hb2).trans d2); clear hq0 d1 d2 b8; (have hq0 := hq1); (have d1 := d1'); (have d2 := d2'); clear hq1 d1' d2'))
            all_goals
              have HB8 := Lib.hid (HBq.out.trans (hq0.mono HBq.out.size))
              clear hq0 d1 d2 HS
              go_wp2_with fail
              go_roundw
              case rel => exact ⟨j + 1, by go_num, by omega, HB8⟩
              case measure => simp [intOf]; omega
          · obtain rfl : j = m := by omega
            have hbq := HB7.out.trans (HBq.out.mono hs7)
            have hsq := hbq.size
            have hPq := HP7.out.below HBq.out
            have HBq2 := Lib.hid hbq
            clear HBq hbq
            by_cases hj0 : j = 0
            · subst hj0
              go_wp2_with fail
              go_ret
              exact ⟨rfl, HBq2.out⟩
            · obtain ⟨bJ, rfl, hPA⟩ := hPq.at (by rw [HM.out]; omega)
              obtain ⟨q1, hq1⟩ : ∃ q1, q1 + 1 = k := ⟨k - 1, by omega⟩
              have hkk : q1 < t.flat.length := by rw [HN.out]; omega
              obtain ⟨g', off', e, hgw, c0, -⟩ := (HL.out.below HBq2.out).get q1 hkk
              simp at e
              obtain ⟨rfl, rfl⟩ := e
              have htz : t.flat[q1].k = z := by
                have h1 := t.flat_top
                rw [HN.out, show k - 1 = q1 by omega, List.getElem?_eq_getElem hkk] at h1
                rw [Option.some.inj h1]; exact HZ.out
              rw [htz] at c0
              have hfl : L.flatten.length = q1 := by
                have h2 := congrArg List.length HKF.out
                rw [HN.out, List.length_append, List.length_singleton] at h2
                omega
              have hf1 : 1 ≤ q1 := by
                have hl0 : 0 < L.length := by rw [HM.out]; omega
                obtain ⟨_, _, _, _, _, _, _, h1, _⟩ := hPq 0 hl0
                have h2 := (List.sublist_flatten_of_mem (List.getElem_mem hl0)).length_le
                omega
              have hj1 : 1 ≤ j := by omega
              have hpz : pcCells ⟨z, emp⟩ = [.int .i64 z, .int .u64 0, .int .u64 0, .int .u64 0, .int .u64 0] := pc_emp z
              have hpp : pcs (L.flatten ++ [⟨z, emp⟩]) = pcs t.flat := by
                rw [HKF.out, pcs_append, pcs_append, pcs_one, pcs_one, ← HZ.out, emp_eq t.top (top_ok t HT.out) ?_]
                intro h1
                have h2 := HKT.out
                rw [← HZ.out, h1] at h2
                simp [takesZ] at h2
                omega
              have hJ : ∀ W, Below w.heap.size w W → PartsAt W bJ L → Calls Tryd.prog 16 #[.int .i64 z, .slice (some ⟨bJ, 0, none⟩) j cL] W fun e w' => ∃ a c, e = .returned (.slice a k c) ∧ RxAt w' a (L.flatten ++ [⟨z, emp⟩]) ∧ Below W.heap.size W w' := by
                intro W _ hPW
                rw [← hq1]
                refine (join_any z L bJ j cL q1 W hPW HM.out hj1 H2 HKT.out hfl hf1 (by omega)).mono ?_
                rintro e w' ⟨a, c, rfl, hO, hb⟩
                refine ⟨a, c, rfl, own_at (n := q1 + 1) (cap := c) (base := W.heap.size) ?_ (by rw [List.length_append, hfl]; rfl), hb⟩
                rw [pcs_append, pcs_one, hpz]
                exact hO
              have HJ := Lib.hid (hJ _ HBq2.out hPA)
              have HPP := Lib.hid hpp
              have HFL : Hid ((L.flatten ++ [(⟨z, emp⟩ : Pc)]).length = k) := by show _ = _; rw [List.length_append, hfl, ← hq1]; rfl
              have ek : (k : Int) - 1 = (q1 : Int) := by omega
              have hqk2 : q1 < k := by omega
              have ej : decide ((j : Int) = 0) = false := by simp; omega
              clear hpz hpp hJ hfl htz hkk hPA hPq hq1
              go_wp2_with fail
              refine HJ.out.mono ?_
              rintro e w8 ⟨aJ, cJ, rfl, hR8, b8⟩
              have hb8 := HBq2.out.trans (b8.mono hsq)
              have hs8 := hb8.size
              clear b8 HJ
              go_wp2_with fail
              refine (same_any _ t.flat HPP.out aJ _ k cJ cap _ hR8 (HL.out.below hb8) HFL.out HN.out (by omega)).mono ?_
              rintro e w9 ⟨rfl, b9⟩
              go_wp2_with fail
              go_ret
              exact ⟨rfl, hb8.trans (b9.mono hs8)⟩
end Go.Proofs.YtjhfgiflcenjpaaDoor
