import Derived.Test.YtbacgnhkapancaaDoorVRNum
import Derived.Test.YtbacgnhkapancaaDoorVNumP
namespace Go.Proofs.YtbacgnhkapancaaDoor
open Go.RowKit Go.Maps Go.WideElems Go.ChangeMaps Go.MapKept
set_option linter.unusedVariables false
set_option linter.unusedSimpArgs false

theorem wrap_w64 (x : Int) : wrap64 x = w64 x := by unfold wrap64 w64; rfl
theorem rn_true {s : ByteArray} {m : Nat} (hs : s.size = m) {lo : Bool} (h : decide (0 < m ∧ bz s 0 = 45) = lo) : lo = true ↔ s.data.toList.head? = some 45 := by
  subst h
  have hl : s.data.toList.length = m := by rw [← hs]; exact Array.length_toList
  cases hd : s.data.toList with
  | nil =>
    rw [hd] at hl
    simp at hl
    simp [← hl]
  | cons c r =>
    rw [hd] at hl
    have h0 : 0 < s.size := by simp at hl; omega
    have hb : bz s 0 = c.toNat := by
      rw [← bz_at s 0 h0]
      have : s.data.toList[0]'(by rw [hd]; simp) = c := by simp [hd]
      rw [← this]
      rfl
    rw [hb]
    simp only [decide_eq_true_eq, List.head?_cons, Option.some.injEq]
    constructor
    · intro h
      exact UInt8.toNat_inj.1 (by rw [h.2]; rfl)
    · intro h
      subst h
      exact ⟨by omega, rfl⟩
theorem rp_take {s : ByteArray} {m k : Nat} (hs : s.size = m) (hk : k = m ∨ (k = 20 ∧ k ≤ m)) (hk2 : k ≤ 20) : rpF (bz s) k = rpL (s.data.toList.take 20) := by
  have hl : s.data.toList.length = m := by rw [← hs]; exact Array.length_toList
  rw [rpF_list (bz s) s.data.toList (fun i hi => by
    have h0 : i < s.size := by omega
    rw [← bz_at s i h0]
    simp
    rfl) k (by omega)]
  rcases hk with rfl | ⟨rfl, _⟩
  · rw [List.take_of_length_le (by omega), List.take_of_length_le (by omega)]
  · rfl

set_option maxHeartbeats 2000000 in
set_option maxRecDepth 100000 in
theorem rnumber13_any (s : ByteArray) (m : Nat) (hs : s.size = m) (hm : m ≤ 1000000) (w : World) :
    Calls Tryd.prog 16 #[.string s] w fun e w' => e = .returned (.tuple #[.int .i64 (nuF s.data.toList).1, .bool (nuF s.data.toList).2]) ∧ Below w.heap.size w w' := by
  have HS := Lib.hid hs
  have hss := hs
  clear hs
  go_enter Tryd.func16, Tryd.ntmps16
  go_upto_region 1 with fail
  go_cut [4, 5] (fun v4 v5 wx => v4 = .int .i64 0 ∧ v5 = .bool (decide (0 < m ∧ bz s 0 = 45)) ∧ Hid (Below w.heap.size w wx))
  case first =>
    by_cases h0 : 0 < m
    · have i0 : (0 : Int) < (m : Int) := by omega
      have hks : 0 < s.size := by omega
      have hbz := bz_at s 0 hks
      obtain ⟨bt, hbe⟩ : ∃ bt, (s[0]'hks).toNat = bt := ⟨_, rfl⟩
      rw [hbe] at hbz
      have Hbz := Lib.hid hbz
      clear hbz
      go_quiet (fail)
      all_goals
        go_wp2_with fail
        go_meet
        refine ⟨rfl, ?_, ⟨rfl, rfl, rfl, Nat.le_refl _, fun _ _ => rfl⟩⟩
        rw [← Hbz.out]
        congr 1
        by_cases h : bt = 45
        · subst h; simp [h0]
        · have : ((bt : Int) == 45) = false := by simp; omega
          rw [this]; simp [h]
    · have i0 : ¬ ((0 : Int) < (m : Int)) := by omega
      go_quiet (fail)
      all_goals
        go_wp2_with fail
        go_meet
        exact ⟨rfl, by simp [h0], ⟨rfl, rfl, rfl, Nat.le_refl _, fun _ _ => rfl⟩⟩
  case rest =>
    obtain ⟨rfl, rfl, HB⟩ := hcut
    obtain ⟨lo, hlo⟩ : ∃ lo, decide (0 < m ∧ bz s 0 = 45) = lo := ⟨_, rfl⟩
    have HLo := Lib.hid hlo
    rw [hlo]
    clear hlo
    go_wp2_with fail
    go_loopw [4, 6] (fun v4 v6 wr => ∃ (k : Nat) (a : Int), k ≤ m ∧ k ≤ 20 ∧ v4 = .int .i64 a ∧ v6 = .int .i64 (k : Int) ∧ Hid (a = rpF (bz s) k ∧ wr = wc)) (fun _ v _ => m - (nV v).toNat)
    case atStart => exact ⟨0, 0, Nat.zero_le _, Nat.zero_le _, rfl, rfl, rfl, rfl⟩
    case round =>
      obtain ⟨k, a, hk, hk2, rfl, rfl, HX⟩ := hrel
      by_cases hlt : k < m
      · by_cases hlt2 : k < 20
        · have i1 : (k : Int) < (m : Int) := by omega
          have i2 : (k : Int) < 20 := by omega
          have hks : k < s.size := by omega
          have hbz := bz_at s k hks
          obtain ⟨bt, hbe⟩ : ∃ bt, (s[k]'hks).toNat = bt := ⟨_, rfl⟩
          rw [hbe] at hbz
          have Hbz := Lib.hid hbz
          clear hbz
          by_cases hd : 48 ≤ bt
          · have hd1 : (48 : Int) ≤ (bt : Int) := by omega
            by_cases he : bt ≤ 57
            · have he1 : (bt : Int) ≤ 57 := by omega
              have HE : Hid (wrap64 (wrap64 (a * 10) - ((bt : Int) - 48)) = rpF (bz s) (k + 1)) := by
                show _ = rpS (rpF (bz s) k) (bz s k)
                rw [← HX.out.1, ← Hbz.out]
                unfold rpS
                rw [if_pos ⟨hd, he⟩, wrap_w64, wrap_w64]
              go_wp2_with fail
              go_roundw
              case rel => exact ⟨k + 1, _, by omega, by omega, rfl, by go_num, HE.out, HX.out.2⟩
              case measure => simp [nV]; omega
            · have he1 : ¬ ((bt : Int) ≤ 57) := by omega
              have HE : Hid (a = rpF (bz s) (k + 1)) := by
                show _ = rpS (rpF (bz s) k) (bz s k)
                rw [← HX.out.1, ← Hbz.out]
                unfold rpS
                rw [if_neg (by omega)]
              go_wp2_with fail
              go_roundw
              case rel => exact ⟨k + 1, a, by omega, by omega, rfl, by go_num, HE.out, HX.out.2⟩
              case measure => simp [nV]; omega
          · have hd1 : ¬ ((48 : Int) ≤ (bt : Int)) := by omega
            have HE : Hid (a = rpF (bz s) (k + 1)) := by
              show _ = rpS (rpF (bz s) k) (bz s k)
              rw [← HX.out.1, ← Hbz.out]
              unfold rpS
              rw [if_neg (by omega)]
            go_wp2_with fail
            go_roundw
            case rel => exact ⟨k + 1, a, by omega, by omega, rfl, by go_num, HE.out, HX.out.2⟩
            case measure => simp [nV]; omega
        · have i1 : (k : Int) < (m : Int) := by omega
          have i2 : ¬ ((k : Int) < 20) := by omega
          have HA : Hid (a = rpL (s.data.toList.take 20)) := HX.out.1.trans (rp_take HS.out (Or.inr (by omega)) hk2)
          have HN0 : Hid (lo = true → a = rnF s.data.toList) := fun h => by
            unfold rnF
            rw [if_pos ((rn_true HS.out HLo.out).1 h)]
            exact HA.out
          have HN1 : Hid (lo = false → wrap64 (-a) = rnF s.data.toList) := fun h => by
            unfold rnF
            rw [if_neg (fun e => by rw [(rn_true HS.out HLo.out).2 e] at h; cases h), HA.out, wrap_w64]
          have hwr := HX.out.2
          have hin := rn_in s.data.toList
          have hn1 : -9223372036854775808 ≤ a ∧ a ≤ 9223372036854775807 := by rw [HX.out.1]; exact rpF_in _ k
          obtain ⟨N, hN⟩ : ∃ N, rnF s.data.toList = N := ⟨_, rfl⟩
          rw [hN] at HN0 HN1 hin
          have HNN := Lib.hid hN
          have HBw : Hid (Below w.heap.size w wr) := by rw [hwr]; exact HB.out
          have HD := Lib.hid (rdigits13_any N hin.1 hin.2 wr)
          clear hN hwr HA HX HLo
          by_cases e : Lib.itoa N = s.data.toList
          · have HU : Hid (nuF s.data.toList = (N, true)) := by show nuF _ = _; unfold nuF; rw [HNN.out, if_pos e]
            have e2 : strB (Lib.itoa N) = s := by rw [e, strB_of]
            rw [e2] at HD
            clear e e2
            have e1 : (s.toList == s.toList) = true := by simp
            have e3 : (s.toList != s.toList) = false := by simp
            cases lo
            · have hv := HN1.out (by trivial)
              go_wp2_with (go_at_call 18; refine HD.out.mono ?_; rintro e w2 ⟨rfl, kb⟩; refine Hid.out ?_)
              refine Lib.hid ?_
              have HF := Lib.hid (HBw.out.trans (kb.mono HBw.out.size))
              clear kb
              go_wp2_with fail
              go_ret2
              exact ⟨by rw [HU.out]; rfl, HF.out⟩
            · have hv := HN0.out (by trivial)
              subst hv
              go_wp2_with (go_at_call 18; refine HD.out.mono ?_; rintro e w2 ⟨rfl, kb⟩; refine Hid.out ?_)
              refine Lib.hid ?_
              have HF := Lib.hid (HBw.out.trans (kb.mono HBw.out.size))
              clear kb
              go_wp2_with fail
              go_ret2
              exact ⟨by rw [HU.out]; rfl, HF.out⟩
          · have HU : Hid (nuF s.data.toList = (0, false)) := by show nuF _ = _; unfold nuF; rw [HNN.out, if_neg e]
            have e1 : ((strB (Lib.itoa N)).toList == s.toList) = false := by rw [strB_toL, toL]; simpa using e
            have e3 : ((strB (Lib.itoa N)).toList != s.toList) = true := by rw [strB_toL, toL]; simpa using e
            generalize strB (Lib.itoa N) = u at HD e1 e3
            clear e
            cases lo
            · have hv := HN1.out (by trivial)
              go_wp2_with (go_at_call 18; refine HD.out.mono ?_; rintro e w2 ⟨rfl, kb⟩; refine Hid.out ?_)
              refine Lib.hid ?_
              have HF := Lib.hid (HBw.out.trans (kb.mono HBw.out.size))
              clear kb
              go_wp2_with fail
              go_ret2
              exact ⟨by rw [HU.out]; rfl, HF.out⟩
            · have hv := HN0.out (by trivial)
              subst hv
              go_wp2_with (go_at_call 18; refine HD.out.mono ?_; rintro e w2 ⟨rfl, kb⟩; refine Hid.out ?_)
              refine Lib.hid ?_
              have HF := Lib.hid (HBw.out.trans (kb.mono HBw.out.size))
              clear kb
              go_wp2_with fail
              go_ret2
              exact ⟨by rw [HU.out]; rfl, HF.out⟩
      · have i1 : ¬ ((k : Int) < (m : Int)) := by omega
        have HA : Hid (a = rpL (s.data.toList.take 20)) := HX.out.1.trans (rp_take HS.out (Or.inl (by omega)) hk2)
        have HN0 : Hid (lo = true → a = rnF s.data.toList) := fun h => by
          unfold rnF
          rw [if_pos ((rn_true HS.out HLo.out).1 h)]
          exact HA.out
        have HN1 : Hid (lo = false → wrap64 (-a) = rnF s.data.toList) := fun h => by
          unfold rnF
          rw [if_neg (fun e => by rw [(rn_true HS.out HLo.out).2 e] at h; cases h), HA.out, wrap_w64]
        have hwr := HX.out.2
        have hin := rn_in s.data.toList
        have hn1 : -9223372036854775808 ≤ a ∧ a ≤ 9223372036854775807 := by rw [HX.out.1]; exact rpF_in _ k
        obtain ⟨N, hN⟩ : ∃ N, rnF s.data.toList = N := ⟨_, rfl⟩
        rw [hN] at HN0 HN1 hin
        have HNN := Lib.hid hN
        have HBw : Hid (Below w.heap.size w wr) := by rw [hwr]; exact HB.out
        have HD := Lib.hid (rdigits13_any N hin.1 hin.2 wr)
        clear hN hwr HA HX HLo
        by_cases e : Lib.itoa N = s.data.toList
        · have HU : Hid (nuF s.data.toList = (N, true)) := by show nuF _ = _; unfold nuF; rw [HNN.out, if_pos e]
          have e2 : strB (Lib.itoa N) = s := by rw [e, strB_of]
          rw [e2] at HD
          clear e e2
          have e1 : (s.toList == s.toList) = true := by simp
          have e3 : (s.toList != s.toList) = false := by simp
          cases lo
          · have hv := HN1.out (by trivial)
            go_wp2_with (go_at_call 18; refine HD.out.mono ?_; rintro e w2 ⟨rfl, kb⟩; refine Hid.out ?_)
            refine Lib.hid ?_
            have HF := Lib.hid (HBw.out.trans (kb.mono HBw.out.size))
            clear kb
            go_wp2_with fail
            go_ret2
            exact ⟨by rw [HU.out]; rfl, HF.out⟩
          · have hv := HN0.out (by trivial)
            subst hv
            go_wp2_with (go_at_call 18; refine HD.out.mono ?_; rintro e w2 ⟨rfl, kb⟩; refine Hid.out ?_)
            refine Lib.hid ?_
            have HF := Lib.hid (HBw.out.trans (kb.mono HBw.out.size))
            clear kb
            go_wp2_with fail
            go_ret2
            exact ⟨by rw [HU.out]; rfl, HF.out⟩
        · have HU : Hid (nuF s.data.toList = (0, false)) := by show nuF _ = _; unfold nuF; rw [HNN.out, if_neg e]
          have e1 : ((strB (Lib.itoa N)).toList == s.toList) = false := by rw [strB_toL, toL]; simpa using e
          have e3 : ((strB (Lib.itoa N)).toList != s.toList) = true := by rw [strB_toL, toL]; simpa using e
          generalize strB (Lib.itoa N) = u at HD e1 e3
          clear e
          cases lo
          · have hv := HN1.out (by trivial)
            go_wp2_with (go_at_call 18; refine HD.out.mono ?_; rintro e w2 ⟨rfl, kb⟩; refine Hid.out ?_)
            refine Lib.hid ?_
            have HF := Lib.hid (HBw.out.trans (kb.mono HBw.out.size))
            clear kb
            go_wp2_with fail
            go_ret2
            exact ⟨by rw [HU.out]; rfl, HF.out⟩
          · have hv := HN0.out (by trivial)
            subst hv
            go_wp2_with (go_at_call 18; refine HD.out.mono ?_; rintro e w2 ⟨rfl, kb⟩; refine Hid.out ?_)
            refine Lib.hid ?_
            have HF := Lib.hid (HBw.out.trans (kb.mono HBw.out.size))
            clear kb
            go_wp2_with fail
            go_ret2
            exact ⟨by rw [HU.out]; rfl, HF.out⟩
end Go.Proofs.YtbacgnhkapancaaDoor
