import Derived.Test.YtoehcmgckcajmaaDoorZRChk
import Derived.Test.YtoehcmgckcajmaaDoorZRefShowB
import Derived.Test.YtoehcmgckcajmaaDoorZRefShowU4
import Derived.Test.YtoehcmgckcajmaaDoorZRefShowU5
import Derived.Test.YtoehcmgckcajmaaDoorZRefShowU6
import Derived.Test.YtoehcmgckcajmaaDoorZRxAwake
namespace Go.Proofs.YtoehcmgckcajmaaDoor
open Go.RowKit
set_option linter.unusedVariables false

theorem rshow_any (t : Rx) (hw : t.wf) : RShowOk t := by
  induction t with
  | leaf x => exact rshow_leaf x hw.1
  | un x s ih =>
    have hk : x.k = 4 ∨ x.k = 5 ∨ x.k = 6 := by have := takesZ_cases x.k; have := hw.1; omega
    rcases hk with h | h | h
    · exact rshow_un4 x s hw.2.2 hw.1 h (ih hw.2.2)
    · exact rshow_un5 x s hw.2.2 hw.1 h (ih hw.2.2)
    · exact rshow_un6 x s hw.2.2 hw.1 h (ih hw.2.2)
  | bin x s t ihs iht => exact rshow_bin x s t hw.2.2.1 hw.2.2.2 hw.1 (ihs hw.2.2.1) (iht hw.2.2.2)
theorem nums_back (l : List Nat) (hl : ∀ n ∈ l, n < 256) : numsOf (strOf l) = l := by
  unfold numsOf
  rw [strOf_list, List.map_map]
  conv => rhs; rw [← List.map_id l]
  refine List.map_congr_left fun n hn => ?_
  simp [Nat.mod_eq_of_lt (hl n hn)]

set_option maxHeartbeats 2000000 in
set_option maxRecDepth 100000 in
theorem rexShows_law (l : List Pc) (a : Option Addr) (n cap : Nat) (w : World) (hT : TabAt w) (hg : 0 < w.heap.size) (hL : RxAt w a l) (hn : l.length = n) (hcap : n ≤ cap ∧ cap ≤ maxLen) :
    Calls Tryd.prog 4 #[.slice a n cap] w fun e w' => e = .returned (.bool true) ∧ Below w.heap.size w w' := by
  have HL := Lib.hid hL
  have HN := Lib.hid hn
  have HC := Lib.hid hcap
  have hnm : n ≤ 9223372036854775807 := by have := hcap.1; have := hcap.2; unfold maxLen at this; omega
  clear hL hn hcap
  go_enter Tryd.func4, Tryd.ntmps4
  go_wp2_with fail
  refine (awake_any _ hT hg).mono ?_
  rintro e w1 ⟨rfl, b1⟩
  by_cases h60 : 60 < n
  · go_wp2_with fail
    go_ret
    exact ⟨rfl, b1⟩
  obtain ⟨c, hc⟩ : ∃ c, chkT l = c := ⟨_, rfl⟩
  have HCC := Lib.hid hc
  have hs1 := b1.size
  go_wp2_with fail
  refine (rcheck_any l a n cap _ (HL.out.below b1) HN.out (by omega)).mono ?_
  rintro e w2 ⟨rfl, b2⟩
  rw [HCC.out]
  have hb2 := b1.trans (b2.mono hs1)
  have hs2 := hb2.size
  by_cases hc0 : c = 0
  rotate_left
  · have e1 : ((c : Int) != 0) = true := by simp; omega
    clear hc hc0
    go_wp2_with fail
    go_ret
    exact ⟨rfl, hb2⟩
  subst hc0
  obtain ⟨t, ht, hfl⟩ := (chk_tree l hc).2
  subst hfl
  have hpos := t.flat_pos
  obtain ⟨g, off, rfl, hgl, -⟩ := HL.out hpos
  obtain ⟨m, hm, hback⟩ := show_back t ht (by have := HN.out; omega)
  have hml := pcs_len hm
  have HT := Lib.hid ht
  have HB : Hid (altOf (atomD 99) ([], numsOf (strOf (showT t))) = some (m, [])) := by show _ = _; rw [nums_back _ (showT_lt t)]; exact hback
  have HM := Lib.hid hm
  have hmn : m.length = n := by rw [hml]; exact HN.out
  have HMN := Lib.hid hmn
  have hsl := showT_len t
  have hTz := strOf_size (showT t)
  have hsz3 : (strOf (showT t)).size ≤ 180000 := by have := HN.out; omega
  have hT2 := hT.keep hb2
  clear hc hm hback hml hmn hT b1 b2
  go_wp2_with fail
  refine (show_any t HT.out _ n cap _ (HL.out.below hb2) HN.out (by omega) hT2 (by omega) HCC.out).mono ?_
  rintro e w3 ⟨rfl, b3⟩
  have hb3 := hb2.trans (b3.mono hs2)
  have hs3 := hb3.size
  have RS := Lib.hid (rshow_any t HT.out)
  clear b3 hb2 hTz
  by_cases hbig : 1600 < (strOf (showT t)).size
  · have HS : Hid ((strOf (showT t)).size ≤ maxLen) := by show _ ≤ _; unfold maxLen; omega
    go_wp2_with fail
    refine (parse_big (strOf (showT t)) _ hbig HS.out).mono ?_
    rintro e w4 ⟨rfl, rfl⟩
    go_wp2_with fail
    refine (RS.out g off n cap _ (HL.out.below hb3) HN.out (by omega) HC.out).mono ?_
    rintro e w5 ⟨rfl, b5⟩
    go_wp2_with fail
    go_ret
    exact ⟨rfl, hb3.trans (b5.mono hs3)⟩
  · have HS : Hid ((strOf (showT t)).size ≤ 1600) := by show _ ≤ _; omega
    go_wp2_with fail
    refine (parse_yes (strOf (showT t)) _ HS.out m HB.out (by have := HMN.out; omega)).mono ?_
    rintro e w4 ⟨ax, cx, rfl, hox, b4⟩
    rw [HMN.out] at hox ⊢
    have hb4 := hb3.trans (b4.mono hs3)
    have hs4 := hb4.size
    have hx := own_at hox HMN.out
    clear b4 hox
    go_wp2_with fail
    refine (RS.out g off n cap _ (HL.out.below hb4) HN.out (by omega) HC.out).mono ?_
    rintro e w5 ⟨rfl, b5⟩
    have hx5 := hx.below b5
    have hb5 := hb4.trans (b5.mono hs4)
    have hs5 := hb5.size
    clear b5 hx hb4
    go_wp2_with fail
    refine (rsame_any m t.flat HM.out ax _ n cx cap _ hx5 (HL.out.below hb5) HMN.out HN.out (by omega)).mono ?_
    rintro e w6 ⟨rfl, b6⟩
    have hx6 := hx5.below b6
    have hb6 := hb5.trans (b6.mono hs5)
    have hs6 := hb6.size
    clear b6 hx5 hb5
    go_wp2_with fail
    refine (same_any m t.flat HM.out ax _ n cx cap _ hx6 (HL.out.below hb6) HMN.out HN.out (by omega)).mono ?_
    rintro e w7 ⟨rfl, b7⟩
    go_wp2_with fail
    go_ret
    exact ⟨rfl, hb6.trans (b7.mono hs6)⟩
end Go.Proofs.YtoehcmgckcajmaaDoor
