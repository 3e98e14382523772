import Derived.Test.YtkdhdlokilgccaaZDBase
import Derived.Test.YtkdhdlokilgccaaZDBy
import Derived.Test.YtkdhdlokilgccaaZDInv
import Derived.Test.YtkdhdlokilgccaaZDRHas
import Derived.Test.YtkdhdlokilgccaaZDTells
import Derived.Test.YtkdhdlokilgccaaZRefOf
namespace Go.Proofs.Ytkdhdlokilgccaa
open Go.RowKit Go.Maps Go.WideElems Go.ChangeMaps Go.MapKept
set_option linter.unusedVariables false

/-- The page's example. -/
def exA : Nat → Bool := fun x => x == 97
def exT : Rx := .un ⟨4, emp⟩ (.leaf ⟨1, exA⟩)
set_option maxRecDepth 100000 in
theorem ex_wf : exT.wf := ⟨rfl, by decide +kernel, rfl, by decide +kernel⟩
set_option maxRecDepth 100000 in
theorem ex_go : chkGo exT.flat 0 = some 1 := by decide +kernel
set_option maxRecDepth 100000 in
theorem ex_chk : chkT exT.flat = 0 := by decide +kernel
theorem ex_can : ∀ x ∈ exT.flat, x.can := by
  intro x hx b hb
  simp only [exT, Rx.flat, List.cons_append, List.nil_append, List.mem_cons, List.not_mem_nil, or_false] at hx
  rcases hx with rfl | rfl
  · show (b == 97) = false
    simp; omega
  · rfl
theorem ex_enter : EnterOk exT := enter_any exT ex_wf ex_go ex_can
theorem ex_one (s : List Nat) : Lan (.leaf ⟨1, exA⟩) s ↔ s = [97] := by
  rw [lan_leaf, if_pos rfl]
  constructor
  · rintro ⟨b, rfl, _, h⟩
    have : (b == 97) = true := h
    rw [eq_of_beq this]
  · rintro rfl
    exact ⟨97, rfl, by decide, rfl⟩
theorem ex_lan (s : List Nat) : Lan exT s ↔ ∀ c, c ∈ s → c = 97 := by
  unfold exT
  rw [lan_un, if_pos rfl]
  constructor
  · intro h
    induction h with
    | nil => intro c hc; cases hc
    | app h1 h2 ih =>
      intro c hc
      rcases List.mem_append.1 hc with hc | hc
      · rw [(ex_one _).1 h1] at hc; exact List.mem_singleton.1 hc
      · exact ih c hc
  · intro h
    induction s with
    | nil => exact Star.nil
    | cons c s ih =>
      have h1 := h c List.mem_cons_self
      subst h1
      exact Star.app (u := [97]) ((ex_one _).2 rfl) (ih (fun d hd => h d (List.mem_cons_of_mem _ hd)))
theorem aa_at : ∀ i (h : i < [97, 97].length), ([97, 97] : List Nat)[i] = ((⟨#[97, 97]⟩ : ByteArray).get! i).toNat
  | 0, _ => rfl
  | 1, _ => rfl
theorem b_at : ∀ i (h : i < [98].length), ([98] : List Nat)[i] = ((⟨#[98]⟩ : ByteArray).get! i).toNat
  | 0, _ => rfl
set_option maxRecDepth 100000 in
theorem ex_cells : pcs exT.flat = [.int .i64 1, .int .u64 0, .int .u64 8589934592, .int .u64 0, .int .u64 0, .int .i64 4, .int .u64 0, .int .u64 0, .int .u64 0, .int .u64 0] := by
  have h0 : wd exA 0 = 0 := by decide +kernel
  have h1 : wd exA 1 = 8589934592 := by decide +kernel
  have h2 : wd exA 2 = 0 := by decide +kernel
  have h3 : wd exA 3 = 0 := by decide +kernel
  have g0 : wd emp 0 = 0 := by decide +kernel
  have g1 : wd emp 1 = 0 := by decide +kernel
  have g2 : wd emp 2 = 0 := by decide +kernel
  have g3 : wd emp 3 = 0 := by decide +kernel
  simp [exT, Rx.flat, pcs, pcCells, h0, h1, h2, h3, g0, g1, g2, g3]

set_option maxHeartbeats 2000000 in
set_option maxRecDepth 100000 in
theorem awk_any (w : World) : Calls Try.prog 7 #[] w fun e w' => e = .returned (.bool true) ∧ Below w.heap.size w w' := by
  have hX : RxAt (w.alloc (.cells #[.int .i64 1, .int .u64 0, .int .u64 8589934592, .int .u64 0, .int .u64 0, .int .i64 4, .int .u64 0, .int .u64 0, .int .u64 0, .int .u64 0] 66)) (some ⟨w.heap.size, 0, none⟩) exT.flat := by
    intro _
    have hS := St.new w 66 #[.int .i64 1, .int .u64 0, .int .u64 8589934592, .int .u64 0, .int .u64 0, .int .i64 4, .int .u64 0, .int .u64 0, .int .u64 0, .int .u64 0]
    refine ⟨w.heap.size, 0, rfl, hS.lt, fun j hj => ?_⟩
    rw [Nat.zero_add, hS.cell, ex_cells]
    simp only [List.getElem?_toArray]
  have hB : Below w.heap.size w (w.alloc (.cells #[.int .i64 1, .int .u64 0, .int .u64 8589934592, .int .u64 0, .int .u64 0, .int .i64 4, .int .u64 0, .int .u64 0, .int .u64 0, .int .u64 0] 66)) := (Below.refl _ _).alloc (Nat.le_refl _) _
  have HX := Lib.hid (And.intro hX hB)
  clear hX hB
  go_enter Try.func7, Try.ntmps7
  go_wp2_with fail
  generalize w.alloc (.cells #[.int .i64 1, .int .u64 0, .int .u64 8589934592, .int .u64 0, .int .u64 0, .int .i64 4, .int .u64 0, .int .u64 0, .int .u64 0, .int .u64 0] 66) = W at HX ⊢
  refine (by_any exT ex_chk ex_enter (some ⟨w.heap.size, 0, none⟩) 2 2 W HX.out.1 rfl (by omega) ⟨by omega, by unfold maxLen; omega⟩ 97 (by omega)).mono ?_
  rintro e w2 ⟨b2, vd, a1, n1, c1, rfl, h1⟩
  have h1' : vd = false ∧ ThR W.heap.size w2 exT ((2 * 2) * (2 + 1) * 402) [97] (.slice a1 n1 c1) n1 := by
    rcases h1 with ⟨_, h⟩ | h
    · exact absurd ((ex_lan [97]).2 (by simp)) (h [])
    · exact h
  obtain ⟨rfl, u, a1', c1', e1, hlo, huw, hun, hux, hc1, hc2, hn1, hul⟩ := h1'
  injection e1 with e1 e2 e3
  subst e1 e3
  have hbw2 := HX.out.2.trans (b2.mono HX.out.2.size)
  have H2 := Lib.hid (And.intro (HX.out.1.below b2) (And.intro hbw2 (And.intro huw (And.intro hun (And.intro hux (And.intro hul (And.intro hc1 hc2)))))))
  clear h1 b2 hlo huw hun hux hul hbw2 hc1 hc2
  go_wp2_with fail
  refine (by_any exT ex_chk ex_enter (some ⟨w.heap.size, 0, none⟩) 2 2 w2 H2.out.1 rfl (by omega) ⟨by omega, by unfold maxLen; omega⟩ 98 (by omega)).mono ?_
  rintro e w3 ⟨b3, vd2, a2, n2, c2, rfl, h2⟩
  have h2' : vd2 = true := by
    rcases h2 with ⟨h, _⟩ | ⟨_, u', _, _, _, _, hw', _, _, _, _, _, hl'⟩
    · exact h
    · obtain ⟨s, hs⟩ := lan_some u' hw'
      have := (ex_lan _).1 ((hl' s).1 hs) 98 (by simp)
      omega
  subst h2'
  have H3 := Lib.hid b3
  clear h2 b3
  go_wp2_with fail
  have hV : Below w3.heap.size w3 ((w3.alloc (.cells #[.bool false, .slice a1 n1 c1] 34)).alloc (.cells #[.bool true, .slice a2 n2 c2] 34)) := ((Below.refl _ _).alloc (Nat.le_refl _) _).alloc (by simp) _
  have hl1 := (St.new w3 34 #[.bool false, .slice a1 n1 c1]).alloc (.cells #[.bool true, .slice a2 n2 c2] 34)
  have hl2 := St.new (w3.alloc (.cells #[.bool false, .slice a1 n1 c1] 34)) 34 #[.bool true, .slice a2 n2 c2]
  rw [show (w3.alloc (.cells #[.bool false, .slice a1 n1 c1] 34)).heap.size = w3.heap.size + 1 by simp] at hl2
  have HV := Lib.hid (And.intro hV (And.intro hl1 hl2))
  clear hV hl1 hl2
  generalize (w3.alloc (.cells #[.bool false, .slice a1 n1 c1] 34)).alloc (.cells #[.bool true, .slice a2 n2 c2] 34) = V at HV ⊢
  obtain ⟨q2, q3, q4, q5, q6, q7, q8, q9⟩ := H2.out
  have hw23 := H3.out.size
  have hw3V := HV.out.1.size
  have hbV := (q3.trans (H3.out.mono q3.size)).trans (HV.out.1.mono (by have := q3.size; omega))
  have hxV := (q2.below H3.out).below HV.out.1
  have huV := (q6.below H3.out).below HV.out.1
  obtain ⟨g, off, rfl, _, _⟩ := huV u.flat_pos
  have HQ := Lib.hid (And.intro hbV (And.intro hxV (And.intro huV (And.intro q4 (And.intro q5 (And.intro q7 (And.intro q8 q9)))))))
  have hn1' : n1 ≤ 4824 := by omega
  clear q2 q3 q4 q5 q6 q7 q8 q9 hbV hxV huV hw23 hw3V hn1
  refine (rfits_any u.flat (some ⟨g, off, none⟩) n1 c1 V HQ.out.2.2.1 HQ.out.2.2.2.2.1 (by omega)).mono ?_
  rintro e w4 ⟨rfl, b4⟩
  rw [fit_tree u HQ.out.2.2.2.1]
  obtain ⟨c0, c1', _, _⟩ := left_cells (HV.out.2.1.keep b4)
  obtain ⟨d0, d1, _, _⟩ := left_cells (HV.out.2.2.keep b4)
  have H4 := Lib.hid b4
  clear b4
  go_wp2_with fail
  refine (rhasT_any u HQ.out.2.2.2.1 ⟨#[97, 97]⟩ 2 rfl (by omega) g off n1 c1 w4 (HQ.out.2.2.1.below H4.out) HQ.out.2.2.2.2.1 (by omega) HQ.out.2.2.2.2.2.2).mono ?_
  rintro e w5 ⟨rfl, b5⟩
  rw [(endF_has ⟨#[97, 97]⟩ [97, 97] 2 rfl aa_at u HQ.out.2.2.2.1).2 ((HQ.out.2.2.2.2.2.1 [97, 97]).2 ((ex_lan _).2 (by simp)))]
  have b45 := H4.out.trans (b5.mono H4.out.size)
  obtain ⟨c0, c1', _, _⟩ := left_cells (HV.out.2.1.keep b45)
  obtain ⟨d0, d1, _, _⟩ := left_cells (HV.out.2.2.keep b45)
  have H5 := Lib.hid b45
  clear b5 b45
  go_wp2_with fail
  refine (rhasT_any u HQ.out.2.2.2.1 ⟨#[98]⟩ 1 rfl (by omega) g off n1 c1 w5 (HQ.out.2.2.1.below H5.out) HQ.out.2.2.2.2.1 (by omega) HQ.out.2.2.2.2.2.2).mono ?_
  rintro e w6 ⟨rfl, b6⟩
  have hno : endF ⟨#[98]⟩ 1 u at0 1 = false := by
    cases h : endF ⟨#[98]⟩ 1 u at0 1
    · rfl
    · have h1 := (endF_has ⟨#[98]⟩ [98] 1 rfl b_at u HQ.out.2.2.2.1).1 h
      have := (ex_lan _).1 ((HQ.out.2.2.2.2.2.1 [98]).1 h1) 98 (by simp)
      omega
  rw [hno]
  have b56 := H5.out.trans (b6.mono H5.out.size)
  obtain ⟨c0, c1', _, _⟩ := left_cells (HV.out.2.1.keep b56)
  obtain ⟨d0, d1, _, _⟩ := left_cells (HV.out.2.2.keep b56)
  have H6 := Lib.hid b56
  clear b6 b56 hno
  go_wp2_with fail
  refine (dempty_any exT ex_enter (some ⟨w.heap.size, 0, none⟩) 2 2 w6 (HQ.out.2.1.below H6.out) rfl (by omega) ⟨by omega, by unfold maxLen; omega⟩).mono ?_
  rintro e w7 ⟨b, rfl, hb, b7⟩
  obtain rfl : b = true := hb.2 ((ex_lan []).2 (by simp))
  have H7 := Lib.hid ((HQ.out.1.trans (H6.out.mono HQ.out.1.size)).trans (b7.mono (by have := HQ.out.1.size; have := H6.out.size; omega)))
  clear b7 hb
  go_wp2_with fail
  go_ret
  exact ⟨rfl, H7.out⟩
end Go.Proofs.Ytkdhdlokilgccaa

namespace Go.Proofs.Ytkdhdlokilgccaa
open Go.RowKit

set_option maxHeartbeats 4000000 in
set_option maxRecDepth 100000 in
theorem put0 (p q : Nat → Bool) (w : World) :
    Calls Try.prog 31 #[.int .i64 0, (.agg #[.int .u64 ((wd p 0 : Nat) : Int), .int .u64 ((wd p 1 : Nat) : Int), .int .u64 ((wd p 2 : Nat) : Int), .int .u64 ((wd p 3 : Nat) : Int)]), (.agg #[.int .u64 ((wd q 0 : Nat) : Int), .int .u64 ((wd q 1 : Nat) : Int), .int .u64 ((wd q 2 : Nat) : Int), .int .u64 ((wd q 3 : Nat) : Int)])] w fun e w' => e = .returned (.agg #[.int .u64 ((wd ((fun x => p x || q x)) 0 : Nat) : Int), .int .u64 ((wd ((fun x => p x || q x)) 1 : Nat) : Int), .int .u64 ((wd ((fun x => p x || q x)) 2 : Nat) : Int), .int .u64 ((wd ((fun x => p x || q x)) 3 : Nat) : Int)]) ∧ Below w.heap.size w w' := by
  obtain ⟨i0, hi, hz0, hz1, hz2⟩ := info_parts Try.info_bool
  obtain ⟨g, hg⟩ : ∃ g : Nat → Bool, g = fun x => p x || q x := ⟨_, rfl⟩
  rw [← hg]
  have HG := Lib.hid hg
  clear hg
  go_enter Try.func31, Try.ntmps31
  go_wp2_with fail
  go_loopw [7, 8] (fun v i wr => ∃ k : Nat, i = .int .i64 k ∧ k ≤ 256 ∧ PutAt w p q g k v wr) (fun _ i _ => 256 - (intOf i).toNat)
  case atStart => exact ⟨0, rfl, Nat.zero_le _, PutAt.start w p q g⟩
  case round =>
    obtain ⟨k, rfl, hk, R⟩ := hrel
    obtain ⟨r0, r1, r2, r3, r4, r5, r6, r7⟩ := row4 R.s0
    obtain ⟨q0, q1, q2, q3, q4, q5, q6, q7⟩ := row4 R.s1
    by_cases hlt : k < 256
    · go_wp2_with fail
      go_region_held3 (fun W' => W'.cell? ⟨w.heap.size, 0, none⟩ = some (.int .u64 ((wd p 0 : Nat) : Int)) ∧ W'.cell? ⟨w.heap.size, 1, none⟩ = some (.int .u64 ((wd p 1 : Nat) : Int)) ∧ W'.cell? ⟨w.heap.size, 2, none⟩ = some (.int .u64 ((wd p 2 : Nat) : Int)) ∧ W'.cell? ⟨w.heap.size, 3, none⟩ = some (.int .u64 ((wd p 3 : Nat) : Int)) ∧ W'.cell? ⟨w.heap.size + 1, 0, none⟩ = some (.int .u64 ((wd q 0 : Nat) : Int)) ∧ W'.cell? ⟨w.heap.size + 1, 1, none⟩ = some (.int .u64 ((wd q 1 : Nat) : Int)) ∧ W'.cell? ⟨w.heap.size + 1, 2, none⟩ = some (.int .u64 ((wd q 2 : Nat) : Int)) ∧ W'.cell? ⟨w.heap.size + 1, 3, none⟩ = some (.int .u64 ((wd q 3 : Nat) : Int))) (go_keep)
        (first
          | (go_at_call 13; have _t := b5; refine (rhas_any _ k hlt _).mono ?_; rintro e w6 ⟨rfl, b6'⟩; have b6 : Below w5.heap.size w5 w6 := (by first | exact b6' | exact undrew2 b6'); have R6 := R5.keep b6; obtain ⟨z0, z1, z2, z3, z4, z5, z6, z7⟩ := row4 R6.s0; obtain ⟨x0, x1, x2, x3, x4, x5, x6, x7⟩ := row4 R6.s1; clear _t)
          | (go_at_call 13; refine (rhas_any _ k hlt _).mono ?_; rintro e w5 ⟨rfl, b5'⟩; have b5 : Below wr.heap.size wr w5 := (by first | exact b5' | exact undrew2 b5'); have R5 := R.keep b5; obtain ⟨y0, y1, y2, y3, y4, y5, y6, y7⟩ := row4 R5.s0; obtain ⟨u0, u1, u2, u3, u4, u5, u6, u7⟩ := row4 R5.s1))
      all_goals
        have hown := R6.own
        have hsz := R6.size
        have HR6 := Lib.hid R6
        clear R R5 R6 b5 b6 b5' b6' r0 r1 r2 r3 r4 r5 r6 r7 q0 q1 q2 q3 q4 q5 q6 q7 y0 y1 y2 y3 y4 y5 y6 y7 u0 u1 u2 u3 u4 u5 u6 u7 z0 z1 z2 z3 z4 z5 z6 z7 x0 x1 x2 x3 x4 x5 x6 x7
        obtain ⟨a, cap, rfl⟩ := ownsRow_slice hown
        have hgk : g k = (p k || q k) := congrFun HG.out k
        obtain ⟨pk, hpk⟩ : ∃ c, p k = c := ⟨_, rfl⟩
        obtain ⟨qk, hqk⟩ : ∃ c, q k = c := ⟨_, rfl⟩
        rw [hpk, hqk] at hgk
        have hG2 := Lib.hid hgk
        rw [hpk, hqk]
        clear hpk hqk hgk
        cases pk <;> cases qk
        all_goals
          first
            | (go_wp2_with (at_builtin; refine wpList_append_own _ rfl _ _ 47 rfl (w.heap.size + 3) 4 i0 (.bool false) 1 1 Try.underlying47 hi hz0 hz1 hz2 rfl (by decide) _ _ _ rfl (hown.alloc _) ⟨w6.heap.size, 0, none⟩ 1 1 [.bool true] rfl rfl ?_ ?_ ?_ ?_ ?_ ?_)
               · intro j u hj
                 match j, hj with
                 | 0, hj => simp at hj; subst hj; simp [Addr.add]
               · intro u hu; simp at hu; subst hu; rfl
               · unfold maxLen; omega
               · omega
               · simp; omega
               · intro v' w7 hown7 hgrow7 _
                 have hB7 : Below (w.heap.size + 3) w6 w7 := ((Below.refl _ w6).alloc hsz _).trans (grown_kept hgrow7 (hown.alloc _) (by simp; omega))
                 have R7 : PutAt w p q g (k + 1) v' w7 := HR6.out.below_ hB7 (by rw [tru_snoc, hG2.out]; exact hown7)
                 clear hown7 hgrow7 hown hB7
                 go_wp2_with fail
                 go_roundw
                 case rel => exact ⟨k + 1, by go_num, by omega, R7⟩
                 case measure => simp [intOf]; omega)
            | (go_wp2_with (at_builtin; refine wpList_append_own _ rfl _ _ 47 rfl (w.heap.size + 3) 4 i0 (.bool false) 1 1 Try.underlying47 hi hz0 hz1 hz2 rfl (by decide) _ _ _ rfl (hown.alloc _) ⟨w6.heap.size, 0, none⟩ 1 1 [.bool false] rfl rfl ?_ ?_ ?_ ?_ ?_ ?_)
               · intro j u hj
                 match j, hj with
                 | 0, hj => simp at hj; subst hj; simp [Addr.add]
               · intro u hu; simp at hu; subst hu; rfl
               · unfold maxLen; omega
               · omega
               · simp; omega
               · intro v' w7 hown7 hgrow7 _
                 have hB7 : Below (w.heap.size + 3) w6 w7 := ((Below.refl _ w6).alloc hsz _).trans (grown_kept hgrow7 (hown.alloc _) (by simp; omega))
                 have R7 : PutAt w p q g (k + 1) v' w7 := HR6.out.below_ hB7 (by rw [tru_snoc, hG2.out]; exact hown7)
                 clear hown7 hgrow7 hown hB7
                 go_wp2_with fail
                 go_roundw
                 case rel => exact ⟨k + 1, by go_num, by omega, R7⟩
                 case measure => simp [intOf]; omega)
    · obtain rfl : k = 256 := by omega
      obtain ⟨x0, x1, x2, x3, x4, x5, x6, x7⟩ := row4 R.s2
      obtain ⟨a, cap, rfl⟩ := ownsRow_slice R.own
      obtain ⟨b, rfl, hb, hc⟩ := R.flags
      go_wp2_with fail
      refine (rof_any g b 0 cap _ hb hc).mono ?_
      rintro e w3 ⟨rfl, b3⟩
      have s2 := R.s2.keep b3
      have hbel := R.below.trans (b3.mono R.below.size)
      have hlt2 := s2.lt
      obtain ⟨y0, y1, y2, y3, y4, y5, y6, y7⟩ := row4 s2
      clear R b3 s2 hc x0 x1 x2 x3 x4 x5 x6 x7 r0 r1 r2 r3 r4 r5 r6 r7 q0 q1 q2 q3 q4 q5 q6 q7
      go_wp2_with fail
      exact bodyPost_ret (v := (.agg #[.int .u64 ((wd g 0 : Nat) : Int), .int .u64 ((wd g 1 : Nat) : Int), .int .u64 ((wd g 2 : Nat) : Int), .int .u64 ((wd g 3 : Nat) : Int)])) (by simp [results, Try.results31, go_sem, y0, y1, y2, y3]) rfl ⟨rfl, below4 hbel (by omega) _ _ _ _⟩
end Go.Proofs.Ytkdhdlokilgccaa

namespace Go.Proofs.Ytkdhdlokilgccaa
open Go.RowKit
set_option linter.unusedVariables false

/-- What the reference tells of an expression. -/
def refF : Rx → Fa
  | .leaf x => joinOf ⟨x, 0, 0⟩ ⟨false, emp, 0⟩ ⟨false, emp, 0⟩
  | .un x a => joinOf ⟨x, 0, 0⟩ (refF a) (refF a)
  | .bin x a b => joinOf ⟨x, 0, 0⟩ (refF a) (refF b)
theorem refF_ok (t : Rx) (hw : t.wf) : FOk (refF t) t := by
  induction t with
  | leaf x => exact fok_leaf x 0 0 _ _ hw.1
  | un x a ih => exact fok_un x a 0 0 _ _ hw.1 (ih hw.2.2)
  | bin x a b iha ihb => exact fok_bin x a b 0 0 _ _ hw.1 (iha hw.2.2.1) (ihb hw.2.2.2) hw.2.2.1 hw.2.2.2
def RFirstOk (t : Rx) : Prop := ∀ (g off n cap : Nat) (w : World), RxAt w (some ⟨g, off, none⟩) t.flat → t.flat.length = n → n ≤ 1000000 → n ≤ cap ∧ cap ≤ maxLen →
  Calls Try.prog 9 #[.slice (some ⟨g, off, none⟩) n cap] w fun e w' => e = .returned (.tuple #[(.agg #[.int .u64 ((wd ((refF t).s) 0 : Nat) : Int), .int .u64 ((wd ((refF t).s) 1 : Nat) : Int), .int .u64 ((wd ((refF t).s) 2 : Nat) : Int), .int .u64 ((wd ((refF t).s) 3 : Nat) : Int)]), .bool (refF t).e]) ∧ Below w.heap.size w w'
theorem row5 {w : World} {g : Nat} {c0 c1 c2 c3 c4 : Value} {t : TypeId} (h : St w t g #[c0, c1, c2, c3, c4]) :
    w.cell? ⟨g, 0, none⟩ = some c0 ∧ w.cell? ⟨g, 1, none⟩ = some c1 ∧ w.cell? ⟨g, 2, none⟩ = some c2 ∧ w.cell? ⟨g, 3, none⟩ = some c3 ∧ w.cell? ⟨g, 4, none⟩ = some c4 :=
  ⟨h.cell 0, h.cell 1, h.cell 2, h.cell 3, h.cell 4⟩

set_option maxHeartbeats 1000000 in
set_option maxRecDepth 100000 in
theorem rfirst_leaf (x : Pc) (hw : (Rx.leaf x).wf) : RFirstOk (.leaf x) := by
  intro g off n cap w hL hn hmax hcap
  have hk : x.k = 0 ∨ x.k = 1 := by have := takesZ_cases x.k; have := hw.1; omega
  obtain rfl : n = 1 := by rw [← hn]; rfl
  obtain ⟨g', off', e, hg, d0, d1, d2, d3, d4⟩ := hL.get 0 (by simp [Rx.flat])
  simp at e
  obtain ⟨rfl, rfl⟩ := e
  have hx0 : (Rx.leaf x).flat[0]'(by simp [Rx.flat]) = x := rfl
  rw [hx0] at d0 d1 d2 d3 d4
  simp only [Nat.zero_mul, Nat.add_zero] at d0 d1 d2 d3 d4
  have hk0 : Below w.heap.size w (w.alloc (.cells #[.int .u64 0, .int .u64 0, .int .u64 0, .int .u64 0] 28)) := (Below.refl _ _).alloc (Nat.le_refl _) _
  have a0 := (hk0.cell (p := ⟨g, off, none⟩) hg).trans d0
  have a1 := (hk0.cell (p := ⟨g, off + 1, none⟩) hg).trans d1
  have a2 := (hk0.cell (p := ⟨g, off + 2, none⟩) hg).trans d2
  have a3 := (hk0.cell (p := ⟨g, off + 3, none⟩) hg).trans d3
  have a4 := (hk0.cell (p := ⟨g, off + 4, none⟩) hg).trans d4
  have hR := (St.new w 28 #[.int .u64 0, .int .u64 0, .int .u64 0, .int .u64 0]).alloc (.cells #[.int .i64 x.k, .int .u64 ((wd x.p 0 : Nat) : Int), .int .u64 ((wd x.p 1 : Nat) : Int), .int .u64 ((wd x.p 2 : Nat) : Int), .int .u64 ((wd x.p 3 : Nat) : Int)] 66)
  have hP : St ((w.alloc (.cells #[.int .u64 0, .int .u64 0, .int .u64 0, .int .u64 0] 28)).alloc (.cells #[.int .i64 x.k, .int .u64 ((wd x.p 0 : Nat) : Int), .int .u64 ((wd x.p 1 : Nat) : Int), .int .u64 ((wd x.p 2 : Nat) : Int), .int .u64 ((wd x.p 3 : Nat) : Int)] 66)) 66 (w.heap.size + 1) #[.int .i64 x.k, .int .u64 ((wd x.p 0 : Nat) : Int), .int .u64 ((wd x.p 1 : Nat) : Int), .int .u64 ((wd x.p 2 : Nat) : Int), .int .u64 ((wd x.p 3 : Nat) : Int)] := by
    have := St.new (w.alloc (.cells #[.int .u64 0, .int .u64 0, .int .u64 0, .int .u64 0] 28)) 66 #[.int .i64 x.k, .int .u64 ((wd x.p 0 : Nat) : Int), .int .u64 ((wd x.p 1 : Nat) : Int), .int .u64 ((wd x.p 2 : Nat) : Int), .int .u64 ((wd x.p 3 : Nat) : Int)]
    simpa using this
  have hB := hk0.alloc (by simp) (.cells #[.int .i64 x.k, .int .u64 ((wd x.p 0 : Nat) : Int), .int .u64 ((wd x.p 1 : Nat) : Int), .int .u64 ((wd x.p 2 : Nat) : Int), .int .u64 ((wd x.p 3 : Nat) : Int)] 66)
  have HC := Lib.hid (rparts_t (.leaf x) hw g off 1 cap _ (hL.below hB) hn hmax hcap)
  have hsz := hB.size
  have HR := Lib.hid hR
  have HP := Lib.hid hP
  have HB := Lib.hid hB
  clear hL hn hcap hR hP hB hx0 hw
  go_enter Try.func9, Try.ntmps9
  go_wp2_with fail
  refine HC.out.mono ?_
  rintro e w5 ⟨aL, cL, rfl, _, b5⟩
  have hR5 := HR.out.keep b5
  have hP5 := HP.out.keep b5
  have hB5 := HB.out.trans (b5.mono hsz)
  obtain ⟨r0, r1, r2, r3, f0, f1, f2, f3⟩ := row4 hR5
  obtain ⟨p0, p1, p2, p3, p4⟩ := row5 hP5
  rcases hk with h | h
  · have hE : refF (.leaf x) = ⟨true, emp, 1⟩ := by show joinOf _ _ _ = _; unfold joinOf; rw [if_pos h]
    have HV : Hid ((Value.tuple #[(.agg #[.int .u64 ((wd ((refF (.leaf x)).s) 0 : Nat) : Int), .int .u64 ((wd ((refF (.leaf x)).s) 1 : Nat) : Int), .int .u64 ((wd ((refF (.leaf x)).s) 2 : Nat) : Int), .int .u64 ((wd ((refF (.leaf x)).s) 3 : Nat) : Int)]), .bool (refF (.leaf x)).e]) = .tuple #[.agg #[.int .u64 0, .int .u64 0, .int .u64 0, .int .u64 0], .bool true]) := by
      show _ = _
      rw [hE]; simp only [wd_emp]; rfl
    have e1 : (x.k == 0) = true := by simp [h]
    obtain ⟨s0, s1, s2, s3, _, _, _, _⟩ := row4 (hR5.set4 (.int .u64 0) (.int .u64 0) (.int .u64 0) (.int .u64 0))
    clear h hE
    go_wp2_with fail
    exact bodyPost_ret (v := .tuple #[.agg #[.int .u64 0, .int .u64 0, .int .u64 0, .int .u64 0], .bool true]) (by simp [results, Try.results9, go_sem, s0, s1, s2, s3]) rfl ⟨by rw [HV.out], below4 hB5 (Nat.le_refl _) _ _ _ _⟩
  · have hE : refF (.leaf x) = ⟨false, x.p, 1⟩ := by show joinOf _ _ _ = _; unfold joinOf; rw [if_neg (by show ¬ x.k = 0; omega), if_pos h]
    have HV : Hid ((Value.tuple #[(.agg #[.int .u64 ((wd ((refF (.leaf x)).s) 0 : Nat) : Int), .int .u64 ((wd ((refF (.leaf x)).s) 1 : Nat) : Int), .int .u64 ((wd ((refF (.leaf x)).s) 2 : Nat) : Int), .int .u64 ((wd ((refF (.leaf x)).s) 3 : Nat) : Int)]), .bool (refF (.leaf x)).e]) = .tuple #[(.agg #[.int .u64 ((wd x.p 0 : Nat) : Int), .int .u64 ((wd x.p 1 : Nat) : Int), .int .u64 ((wd x.p 2 : Nat) : Int), .int .u64 ((wd x.p 3 : Nat) : Int)]), .bool false]) := by
      show _ = _
      rw [hE]
    have e1 : (x.k == 0) = false := by simp; omega
    have e2 : (x.k == 1) = true := by simp [h]
    obtain ⟨s0, s1, s2, s3, _, _, _, _⟩ := row4 (hR5.set4 (.int .u64 ((wd x.p 0 : Nat) : Int)) (.int .u64 ((wd x.p 1 : Nat) : Int)) (.int .u64 ((wd x.p 2 : Nat) : Int)) (.int .u64 ((wd x.p 3 : Nat) : Int)))
    clear h hE
    go_wp2_with fail
    exact bodyPost_ret (v := .tuple #[(.agg #[.int .u64 ((wd x.p 0 : Nat) : Int), .int .u64 ((wd x.p 1 : Nat) : Int), .int .u64 ((wd x.p 2 : Nat) : Int), .int .u64 ((wd x.p 3 : Nat) : Int)]), .bool false]) (by simp [results, Try.results9, go_sem, s0, s1, s2, s3]) rfl ⟨by rw [HV.out], below4 hB5 (Nat.le_refl _) _ _ _ _⟩
end Go.Proofs.Ytkdhdlokilgccaa
