import Derived.Test.YthidhkaeebakjaaNByte
import Derived.Test.YthidhkaeebakjaaNNarrow
import Derived.Test.YthidhkaeebakjaaNRRun
namespace Go.Proofs.Ythidhkaeebakjaa
open Go.RowKit Go.Maps Go.WideElems Go.ChangeMaps Go.MapKept
set_option linter.unusedVariables false
set_option linter.unusedSimpArgs false

theorem WkA.start {w V : World} {cs : Array Value} {M bW gF gB gI : Nat} {vF vB : Nat → Value} {L : List En} (HV : NwAt w cs M bW gF gB gI vF vB L V) : WkA w V M bW gF gB gI [] (.slice none 0 0) (.slice none 0 0) (.slice none 0 0) 0 [] V := by
  refine ⟨?_, List.nodup_nil, by simp⟩
  have := WkR.start HV
  simpa using this
theorem getD_of {nm : List Nat} {k x : Nat} (h : nm[k]? = some x) : nm.getD k 0 = x := by rw [List.getD_eq_getElem?_getD, h]; rfl

theorem has_no (S F T : Int) (a : Option Addr) (n c : Nat) (L : List Eg) (w : World) (hL : EdAt w a L) (hn : L.length = n) (hmax : n ≤ maxLen) (hr : riB S L F T = false) (s : ByteArray) :
    Calls Try.prog 11 #[.agg #[.int .i64 S, .slice a n c, .int .i64 F, .int .i64 T], .string s] w fun e w' => e = .returned (.bool false) ∧ Below w.heap.size w w' := by
  have hB0 : Below w.heap.size w (w.alloc (.cells #[.int .i64 S, .slice a n c, .int .i64 F, .int .i64 T] 24)) := al _ _
  have HC := Lib.hid (right_any S F T a n c L _ (hL.below hB0) hn hmax)
  rw [hr] at HC
  have HB := Lib.hid hB0
  clear hL hn hB0 hr
  go_enter Try.func11, Try.ntmps11
  go_wp2_with fail
  refine HC.out.mono ?_
  rintro e w2 ⟨rfl, v2⟩
  have HH := Lib.hid (HB.out.trans (v2.mono HB.out.size))
  clear v2
  go_wp2_with fail
  go_ret
  exact ⟨rfl, HH.out⟩

def HasPost (w : World) (p : Prop) (e : Ending) (w' : World) : Prop := ∃ x : Bool, e = .returned (.bool x) ∧ (x = true ↔ p) ∧ Below w.heap.size w w'

set_option maxHeartbeats 2000000 in
set_option maxRecDepth 100000 in
theorem has_yes (L : List En) (N F T : Nat) (hO : Ok L N F T) (hR : riB (N : Int) (L.map En.z) (F : Int) (T : Int) = true) (hN : N ≤ 1000000) (a : Option Addr) (n c : Nat) (w : World) (hL : EdAt w a (L.map En.z)) (hn : L.length = n) (hmax : n ≤ 1000) (s : ByteArray) (m : Nat) (hs : s.size = m) (hm : m ≤ 1000000) :
    Calls Try.prog 11 #[.agg #[.int .i64 ((N : Nat) : Int), .slice a n c, .int .i64 ((F : Nat) : Int), .int .i64 ((T : Nat) : Int)], .string s] w (HasPost w (RunP L F (zof s) m T)) := by
  have hB0 : Below w.heap.size w (w.alloc (.cells #[.int .i64 ((N : Nat) : Int), .slice a n c, .int .i64 ((F : Nat) : Int), .int .i64 ((T : Nat) : Int)] 24)) := al _ _
  have HC := Lib.hid (right_any N F T a n c (L.map En.z) _ (hL.below hB0) (by simpa using hn) (by unfold maxLen; omega))
  rw [hR] at HC
  have HB := Lib.hid (And.intro hB0 (nfa_new w N F T a n c))
  have HL := Lib.hid (And.intro hL (And.intro hn (And.intro hO hs)))
  have hss := hs
  clear hL hn hB0 hR hO hs
  go_enter Try.func11, Try.ntmps11
  go_wp2_with fail
  refine HC.out.mono ?_
  rintro e w2 ⟨rfl, v2⟩
  have HB2 := Lib.hid (And.intro (HB.out.1.trans (v2.mono HB.out.1.size)) (HB.out.2.keep v2))
  obtain ⟨c0, c1, c2, c3⟩ := HB2.out.2.cells4
  clear v2
  go_wp2_with fail
  refine (narrow_any L N F T HL.out.2.2.1 hN a n c w2 (HL.out.1.below HB2.out.1) HL.out.2.1 hmax).mono ?_
  rintro e w3 ⟨nm, L', f, l, aE, cE, aN, cN, rfl, hoE, hoN, hnd, hLr, hbd, hf, hl, hnm, _, v3⟩
  have HNm := Lib.hid (And.intro hnd (And.intro hLr (And.intro hf hl)))
  have hfl := (List.getElem?_eq_some_iff.1 hf).1
  have hll := (List.getElem?_eq_some_iff.1 hl).1
  have hn' : L'.length = n := by have := congrArg List.length hLr; rw [List.length_map, HL.out.2.1] at this; exact this.symm
  obtain ⟨M, hM⟩ : ∃ M, nm.length = M := ⟨_, rfl⟩
  rw [hM] at hfl hll hbd hnm
  have hS3 := St.new w3 24 #[.int .i64 ((M : Nat) : Int), .slice aE n cE, .int .i64 ((f : Nat) : Int), .int .i64 ((l : Nat) : Int)]
  have hB3 : Below w.heap.size w (w3.alloc (.cells #[.int .i64 ((M : Nat) : Int), .slice aE n cE, .int .i64 ((f : Nat) : Int), .int .i64 ((l : Nat) : Int)] 24)) := (HB2.out.1.trans (v3.mono HB2.out.1.size)).alloc (Nat.le_trans HB2.out.1.size v3.size) _
  have hE3 : EdAt (w3.alloc (.cells #[.int .i64 ((M : Nat) : Int), .slice aE n cE, .int .i64 ((f : Nat) : Int), .int .i64 ((l : Nat) : Int)] 24)) aE (L'.map En.z) := (own_edges hoE).below (al _ _)
  have H3 := Lib.hid (And.intro hS3 (And.intro hB3 (And.intro hE3 (And.intro hn' (And.intro hbd hM)))))
  clear hoE hoN hnd hLr hbd hf hl v3 hS3 hB3 hE3 hn' c0 c1 c2 c3
  rw [hM]
  clear hM
  go_wp2_with fail
  generalize hwn : w3.alloc (.cells #[.int .i64 ((M : Nat) : Int), .slice aE n cE, .int .i64 ((f : Nat) : Int), .int .i64 ((l : Nat) : Int)] 24) = Wn at H3 ⊢
  clear hwn
  generalize w3.heap.size = bs at H3 ⊢
  refine (newWalk_any L' M f l H3.out.2.2.2.2.1 (by omega) aE n cE Wn H3.out.2.2.1 H3.out.2.2.2.1 hmax).mono ?_
  rintro e V ⟨bW, gF, gB, gI, vF, vB, rfl, HV⟩
  have HVh := Lib.hid HV
  have hSV := H3.out.1.keep HV.below
  have HA0 := Lib.hid (WkA.start HV)
  have p2 := hSV.at_ 2
  simp only [List.getElem?_toArray, List.getElem?_cons_succ, List.getElem?_cons_zero] at p2
  clear HV hSV
  go_wp2_with fail
  refine (enter_wk Wn V M bW gF gB gI [] _ _ _ 0 [] V HA0.out (by omega) f hfl).mono ?_
  rintro e w4 ⟨l1, vL1, rfl, h1, hent1⟩
  have H4 := Lib.hid h1
  have HM1 : Hid (∀ x, x ∈ l1 ↔ x = f) := fun x => by rw [hent1.mem x]; simp
  clear h1 hent1 p2
  go_wp2_with fail
  refine (followFree_any Wn V _ M bW gF gB gI vF vB L' HVh.out H3.out.2.2.2.2.1 (by omega) (by rw [H3.out.2.2.2.1]; exact hmax) l1 vL1 _ _ 0 [] w4 H4.out).mono ?_
  rintro e w5 ⟨l2, vL2, rfl, h2, hfr2⟩
  have H5 := Lib.hid h2
  have HM2 : Hid (∀ x, x ∈ l2 ↔ RunP L' f (zof s) 0 x) := fun x => by rw [hfr2 x]; exact FR.congr HM1.out x
  clear h2 hfr2 H4 HM1 HA0
  go_wp2_with fail
  go_loopw [8, 27] (fun _ v wq => ∃ (k : Nat) (lk : List Nat) (vLk vKk : Value) (nK : Nat) (xK : List Value), v = .int .i64 k ∧ k ≤ m ∧ Hid (WkA Wn V M bW gF gB gI lk vLk vKk vKk nK xK wq) ∧ Hid (∀ x, x ∈ lk ↔ RunP L' f (zof s) k x)) (fun _ v _ => m - (intOf v).toNat)
  case atStart => exact ⟨0, l2, _, _, _, _, rfl, Nat.zero_le _, H5, HM2⟩
  case round =>
    obtain ⟨k, lk, vLk, vKk, nK, xK, rfl, hk, HA, HM⟩ := hrel
    clear H5 HM2
    by_cases hlt : k < m
    · have hks : k < s.size := by rw [HL.out.2.2.2]; exact hlt
      obtain ⟨bt, hbe⟩ : ∃ bt, (s[k]'hks).toNat = bt := ⟨_, rfl⟩
      have hbz := zof_at s k hks
      rw [hbe] at hbz
      have hbt : bt < 256 := by rw [hbz]; exact zof_lt s k
      have HBZ := Lib.hid hbz
      have i1 : (k : Int) < (m : Int) := by omega
      clear hbz
      go_wp2_with fail
      refine (followByte_any Wn V _ M bW gF gB gI vF vB L' HVh.out H3.out.2.2.2.2.1 (by omega) (by rw [H3.out.2.2.2.1]; exact hmax) lk vLk vKk nK xK wr HA.out bt hbt).mono ?_
      rintro e w6 ⟨l6, vL6, vK6, nK6, xK6, rfl, h6, hmv⟩
      have H6 := Lib.hid h6
      have HMV := Lib.hid hmv
      clear h6 hmv
      go_wp2_with fail
      refine (followFree_any Wn V _ M bW gF gB gI vF vB L' HVh.out H3.out.2.2.2.2.1 (by omega) (by rw [H3.out.2.2.2.1]; exact hmax) l6 vL6 vK6 vK6 nK6 xK6 w6 H6.out).mono ?_
      rintro e w7 ⟨l7, vL7, rfl, h7, hfr7⟩
      have H7 := Lib.hid h7
      have HM7 : Hid (∀ x, x ∈ l7 ↔ RunP L' f (zof s) (k + 1) x) := fun x => by
        rw [hfr7 x]
        refine FR.congr (fun y => ?_) x
        rw [HMV.out y, HBZ.out]
        exact Mv.congr HM.out _ y
      clear h7 hfr7
      go_wp2_with fail
      go_roundw
      case rel => exact ⟨k + 1, l7, vL7, vK6, nK6, xK6, by go_num, by omega, H7, HM7⟩
      case measure => simp [intOf]; omega
    · obtain rfl : k = m := by omega
      obtain ⟨d0, d1, d2, d3, d4⟩ := row5w HA.out.r.sw
      have hSr := H3.out.1.keep HA.out.r.below
      have p3 := hSr.at_ 3
      simp only [List.getElem?_toArray, List.getElem?_cons_succ, List.getElem?_cons_zero] at p3
      obtain ⟨y0, y1⟩ := HA.out.r.cell l hll
      have i1 : (l : Int) < (M : Int) := by omega
      obtain ⟨x, hx⟩ : ∃ x, decide (l ∈ lk) = x := ⟨_, rfl⟩
      rw [hx] at y0
      have HF : Hid (x = true ↔ RunP L F (zof s) k T) := by
        show _ ↔ _
        obtain ⟨hnd, hLr, hf, hl⟩ := HNm.out
        have hbd := H3.out.2.2.2.2.1
        rw [← H3.out.2.2.2.2.2] at hbd
        have hr := Nam.run hnd hbd (List.getElem?_eq_some_iff.1 hf).1 (zof s) k
        have ha := hr.at hnd (List.getElem?_eq_some_iff.1 hl).1
        rw [getD_of hf, getD_of hl, ← hLr] at ha
        rw [ha, ← HM.out l, ← hx]
        simp
      have HB5 := Lib.hid (H3.out.2.1.trans (HA.out.r.below.mono H3.out.2.1.size))
      clear hx hSr
      go_wp2_with fail
      go_quiet (fail)
      go_wp2_with fail
      go_ret
      exact ⟨x, rfl, HF.out, below_drewN HB5.out _⟩
end Go.Proofs.Ythidhkaeebakjaa
