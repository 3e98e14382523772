import Derived.Test.YtjhfgiflcenjpaaDoorZEscByte
import Derived.Test.YtjhfgiflcenjpaaDoorZPut3
import Derived.Test.YtjhfgiflcenjpaaDoorZRefList
import Derived.Test.YtjhfgiflcenjpaaDoorZRefOf
import Derived.Test.YtjhfgiflcenjpaaDoorZRxText
namespace Go.Proofs.YtjhfgiflcenjpaaDoor
open Go.RowKit
set_option linter.unusedVariables false

/-- The spans of what a set has below k. -/
def spUp (p : Nat → Bool) (k : Nat) : List (Nat × Nat) := (spAcc (lst p k)).reverse
theorem spUp_all (p : Nat → Bool) : spUp p 256 = spansOf p := rfl
theorem spUp_zero (p : Nat → Bool) : spUp p 0 = [] := rfl
theorem spUp_no (p : Nat → Bool) (k : Nat) (h : p k = false) : spUp p (k + 1) = spUp p k := by unfold spUp; rw [lst_no p k h]
/-- No span goes on here. -/
def Apart (p : Nat → Bool) (k : Nat) : Prop := 0 < k → p k = true → p (k - 1) = false
theorem spAcc_run (p : Nat → Bool) (k j : Nat) (hk : k ≤ j) (hA : Apart p k) (h : ∀ x, k ≤ x → x ≤ j → p x = true) : spAcc (lst p (j + 1)) = (k, j) :: spAcc (lst p k) := by
  induction j with
  | zero =>
    obtain rfl : k = 0 := by omega
    rw [lst_yes p 0 (h 0 (by omega) (by omega))]
    rfl
  | succ j ih =>
    by_cases e : k = j + 1
    · subst e
      rw [lst_yes p (j + 1) (h _ (Nat.le_refl _) (Nat.le_refl _)), spAcc_snoc]
      have ok := spAcc_ok (lst p (j + 1)) (lst_pairwise p (j + 1)) (lst p (j + 1)).length (Nat.le_refl _)
      rw [List.take_length] at ok
      have hp := hA (by omega) (h _ (Nat.le_refl _) (Nat.le_refl _))
      generalize spAcc (lst p (j + 1)) = acc at ok
      match acc, ok with
      | [], _ => rfl
      | (f, t) :: r, ok =>
        have hm := (ok.right (f, t) (by simp)).2.2
        have ht := (lst_mem p (j + 1) t).1 hm
        simp only [spStep]
        rw [if_neg]
        intro e
        have : t = j + 1 - 1 := by omega
        rw [this, hp] at ht
        simp at ht
    · rw [lst_yes p (j + 1) (h _ (by omega) (Nat.le_refl _)), spAcc_snoc, ih (by omega) (fun x h1 h2 => h x h1 (by omega))]
      simp [spStep]
theorem spUp_run (p : Nat → Bool) (k j : Nat) (hk : k ≤ j) (hA : Apart p k) (h : ∀ x, k ≤ x → x ≤ j → p x = true) : spT (spUp p (j + 1)) = spT (spUp p k) ++ spanT (k, j) := by
  unfold spUp
  rw [spAcc_run p k j hk hA h]
  unfold spT
  rw [List.reverse_cons, List.flatMap_append, List.flatMap_singleton]
theorem spUp_len (p : Nat → Bool) (k : Nat) : (spT (spUp p k)).length ≤ 9 * k := by
  have h1 := spT_len (spUp p k)
  have h2 := spAcc_length (lst p k) (lst p k).length
  rw [List.take_length] at h2
  have h3 := lst_le p k
  have h4 : (spUp p k).length = (spAcc (lst p k)).length := by simp [spUp]
  omega

/-- The loop's state. -/
structure RSet (w : World) (p : Nat → Bool) (wr : World) : Prop where
  s0 : St wr 33 w.heap.size #[.int .u64 ((wd p 0 : Nat) : Int), .int .u64 ((wd p 1 : Nat) : Int), .int .u64 ((wd p 2 : Nat) : Int), .int .u64 ((wd p 3 : Nat) : Int)]
  below : Below w.heap.size w wr

set_option maxHeartbeats 1500000 in
set_option maxRecDepth 100000 in
theorem rset_any (p : Nat → Bool) (w : World) :
    Calls Tryd.prog 28 #[(.agg #[.int .u64 ((wd p 0 : Nat) : Int), .int .u64 ((wd p 1 : Nat) : Int), .int .u64 ((wd p 2 : Nat) : Int), .int .u64 ((wd p 3 : Nat) : Int)])] w fun e w' => e = .returned (.string (strOf (setT p))) ∧ Below w.heap.size w w' := by
  obtain ⟨n, hn⟩ : ∃ n, (lst p 256).length = n := ⟨_, rfl⟩
  have hn2 : n ≤ 256 := by have := lst_le p 256; omega
  have HN := Lib.hid hn
  have HX : Hid (setT p = if n = 256 then [46] else if n = 1 then byteT (least p).toNat (inB outS (least p).toNat) else if 128 < n then 91 :: 94 :: (spT (spansOf fun x => !p x) ++ [93]) else 91 :: (spT (spansOf p) ++ [93])) := by
    show _ = _; unfold setT; rw [hn]
  have hs0 := St.new w 33 #[.int .u64 ((wd p 0 : Nat) : Int), .int .u64 ((wd p 1 : Nat) : Int), .int .u64 ((wd p 2 : Nat) : Int), .int .u64 ((wd p 3 : Nat) : Int)]
  have hbel0 : Below w.heap.size w (w.alloc (.cells #[.int .u64 ((wd p 0 : Nat) : Int), .int .u64 ((wd p 1 : Nat) : Int), .int .u64 ((wd p 2 : Nat) : Int), .int .u64 ((wd p 3 : Nat) : Int)] 33)) := (Below.refl _ _).alloc (Nat.le_refl _) _
  have HO : Hid (outS.size ≤ maxLen) := by show _ ≤ _; decide
  have HI : Hid (insS.size ≤ maxLen) := by show _ ≤ _; decide
  clear hn
  go_enter Tryd.func28, Tryd.ntmps28
  go_wp2_with fail
  refine (rlist_any p _).mono ?_
  rintro e w1 ⟨a, cap, rfl, hown, b1⟩
  have S1 := Lib.hid (hs0.keep b1)
  have hbel1 := hbel0.trans (b1.mono (by simp))
  obtain ⟨c0, c1, c2, c3, -⟩ := row4 S1.out
  have HOw := Lib.hid hown
  rw [HN.out]
  clear hs0 hbel0 b1 hown
  by_cases h256 : n = 256
  · have HZ : Hid (setT p = [46]) := by show _ = _; rw [HX.out, if_pos h256]
    subst h256
    go_wp2_with fail
    go_ret
    exact ⟨by rw [HZ.out]; rfl, hbel1⟩
  have e256 : ((n : Int) == 256) = false := by simp; omega
  by_cases h1 : n = 1
  · subst h1
    obtain ⟨c, hc, hl, hle⟩ := least_one p HN.out
    have HZ : Hid (setT p = byteT c (inB outS c)) := by
      show _ = _
      rw [HX.out, if_neg h256, if_pos rfl, hle]; simp
    have ho := HOw.out
    rw [hl] at ho
    obtain ⟨g, rfl, _, hg, hgc⟩ := ownsRow_read ho (by simp)
    have d0 : w1.cell? ⟨g, 0, none⟩ = some (.int .u8 ((c : Nat) : Int)) := by rw [(hgc 0 (by simp)).1]; rfl
    clear hl hle HX hgc ho HOw
    go_wp2_with fail
    refine (rbyte_any c hc outS HO.out _).mono ?_
    rintro e w2 ⟨rfl, b2⟩
    have hb2 := hbel1.trans (b2.mono hbel1.size)
    go_wp2_with fail
    go_ret
    exact ⟨by rw [HZ.out]; rfl, hb2⟩
  have e1 : ((n : Int) == 1) = false := by simp; omega
  by_cases h128 : 128 < n
  · skip
    have HZ : Hid (setT p = [91, 94] ++ spT (spansOf fun x => !p x) ++ [93]) := by
      show _ = _
      rw [HX.out, if_neg h256, if_neg h1, if_pos h128]; simp
    clear h1 h256 HX
    go_wp2_with fail
    refine (put3 p p _).mono ?_
    rintro e w2 ⟨rfl, b2⟩
    obtain ⟨r0, r1, r2, r3, r4, r5, r6, r7⟩ := row4 (S1.out.keep b2)
    have hsz2 := b2.size
    have R1 : RSet w (fun x => !p x) ((((w2.setCell ⟨w.heap.size, 0, none⟩ (.int .u64 ((wd (fun x => !p x) 0 : Nat) : Int))).setCell ⟨w.heap.size, 1, none⟩ (.int .u64 ((wd (fun x => !p x) 1 : Nat) : Int))).setCell ⟨w.heap.size, 2, none⟩ (.int .u64 ((wd (fun x => !p x) 2 : Nat) : Int))).setCell ⟨w.heap.size, 3, none⟩ (.int .u64 ((wd (fun x => !p x) 3 : Nat) : Int))) :=
      ⟨(S1.out.keep b2).set4 _ _ _ _, below4 (hbel1.trans (b2.mono hbel1.size)) (Nat.le_refl _) _ _ _ _⟩
    have HR1 := Lib.hid R1
    clear R1 b2 c0 c1 c2 c3 hbel1 S1
    go_wp2_with fail
    obtain ⟨Q, hQ⟩ : ∃ Q : Nat → Bool, Q = (fun x => !p x) := ⟨_, rfl⟩
    rw [← hQ] at HZ
    have HQ := Lib.hid hQ
    clear hQ
    go_loopw [4, 5] (fun v i wr => ∃ k : Nat, i = .int .i64 k ∧ k ≤ 256 ∧ v = .string (strOf ([91, 94] ++ spT (spUp Q k))) ∧ Hid (k < 256 → Apart Q k) ∧ Hid (RSet w Q wr)) (fun _ i _ => 256 - (intOf i).toNat)
    case atStart => exact ⟨0, rfl, Nat.zero_le _, rfl, fun _ h => absurd h (by omega), by show RSet _ Q _; rw [HQ.out]; exact HR1.out⟩
    case round =>
      clear HR1
      obtain ⟨k, rfl, hk, rfl, HA, HR⟩ := hrel
      obtain ⟨r0, r1, r2, r3, r4, r5, r6, r7⟩ := row4 HR.out.s0
      have hbw := HR.out.below.size
      have hl := spUp_len Q k
      have hzl : ([91, 94] ++ spT (spUp Q k)).length ≤ 2400 := by simp; omega
      generalize hX : [91, 94] ++ spT (spUp Q k) = X at hzl ⊢
      have hz1 : (strOf X).size ≤ 2400 := by rw [strOf_size]; exact hzl
      have HX1 := Lib.hid hX
      clear hX
      by_cases hlt : k < 256
      · rcases hq : Q k with _ | _
        · have HN := Lib.hid (spUp_no Q k hq)
          have HQ0 := Lib.hid hq
          have hA2 : Hid (k + 1 < 256 → Apart Q (k + 1)) := fun _ _ _ => by simpa using hq
          clear hq
          go_wp2_with fail
          refine (rhas_any Q k hlt _).mono ?_
          rintro e w2 ⟨rfl, b2⟩
          rw [HQ0.out]
          have HR2 := Lib.hid (RSet.mk (HR.out.s0.keep b2) (HR.out.below.trans (b2.mono hbw)))
          clear b2 r0 r1 r2 r3 r4 r5 r6 r7
          go_wp2_with fail
          go_roundw
          case rel => exact ⟨k + 1, by go_num, by omega, by rw [HN.out, HX1.out], hA2, HR2⟩
          case measure => simp [intOf]; omega
        · have HQ0 := Lib.hid hq
          clear hq
          go_wp2_with fail
          refine (rhas_any Q k hlt _).mono ?_
          rintro e w2 ⟨rfl, b2⟩
          rw [HQ0.out]
          have HR2 := Lib.hid (RSet.mk (HR.out.s0.keep b2) (HR.out.below.trans (b2.mono hbw)))
          clear b2 r0 r1 r2 r3 r4 r5 r6 r7
          go_wp2_with fail
          go_loopw [6] (fun v wx => ∃ j : Nat, v = .int .i64 j ∧ k ≤ j ∧ j ≤ 255 ∧ Hid (∀ x, k ≤ x → x ≤ j → Q x = true) ∧ Hid (RSet w Q wx)) (fun v _ => 256 - (intOf v).toNat)
          case atStart => exact ⟨k, rfl, Nat.le_refl _, by omega, (fun x h1 h2 => by rw [(by omega : x = k)]; exact HQ0.out), HR2⟩
          case round =>
            clear HR2 HR
            obtain ⟨j, rfl, hkj, hj, HJ, HR⟩ := hrel
            obtain ⟨r0, r1, r2, r3, r4, r5, r6, r7⟩ := row4 HR.out.s0
            have hbw2 := HR.out.below.size
            by_cases hend : j < 255 ∧ Q (j + 1) = true
            · obtain ⟨h255, hq1⟩ := hend
              have HQ1 := Lib.hid hq1
              have HJ2 : Hid (∀ x, k ≤ x → x ≤ j + 1 → Q x = true) := fun x h1 h2 => by
                by_cases e : x = j + 1
                · rw [e]; exact hq1
                · exact HJ.out x h1 (by omega)
              clear hq1
              go_wp2_with fail
              refine (rhas_any Q (j + 1) (by omega) _).mono ?_
              rintro e w3 ⟨rfl, b3⟩
              rw [HQ1.out]
              have HR3 := Lib.hid (RSet.mk (HR.out.s0.keep b3) (HR.out.below.trans (b3.mono hbw2)))
              clear b3 r0 r1 r2 r3 r4 r5 r6 r7
              go_wp2_with fail
              go_roundw
              case rel => exact ⟨j + 1, by go_num, by omega, by omega, HJ2, HR3⟩
              case measure => simp [intOf]; omega
            · have HT := Lib.hid (spUp_run Q k j hkj (HA.out hlt) HJ.out)
              have hA2 : Hid (j + 1 < 256 → Apart Q (j + 1)) := fun h255 _ h => absurd ⟨by omega, h⟩ hend
              have hl2 := spUp_len Q (j + 1)
              rcases (by omega : 255 ≤ j ∨ j < 255) with h255 | h255
              · have HRa := HR
                have hbk1 := byteT_len k (inB insS k)
                have hzk : (strOf (byteT k (inB insS k))).size ≤ 4 := by rw [strOf_size]; exact hbk1
                go_wp2_with fail
                refine (rbyte_any k hlt insS HI.out _).mono ?_
                rintro e w4 ⟨rfl, b4⟩
                have HR4 := Lib.hid (RSet.mk (HRa.out.s0.keep b4) (HRa.out.below.trans (b4.mono HRa.out.below.size)))
                clear b4
                by_cases hjk : k < j
                · have HZT : Hid (spT (spUp Q (j + 1)) = spT (spUp Q k) ++ byteT k (inB insS k) ++ [45] ++ byteT j (inB insS j)) := by
                    show _ = _
                    rw [HT.out]
                    unfold spanT
                    rw [if_neg (by simp; omega)]; simp
                  have hbj := byteT_len j (inB insS j)
                  have hzj : (strOf (byteT j (inB insS j))).size ≤ 4 := by rw [strOf_size]; exact hbj
                  go_wp2_with fail
                  refine (rbyte_any j (by omega) insS HI.out _).mono ?_
                  rintro e w5 ⟨rfl, b5⟩
                  have HR5 := Lib.hid (RSet.mk (HR4.out.s0.keep b5) (HR4.out.below.trans (b5.mono HR4.out.below.size)))
                  clear b5
                  go_wp2_with fail
                  go_roundw
                  case rel => exact ⟨j + 1, by go_num, by omega, by rw [HZT.out, ← List.append_assoc, ← List.append_assoc, ← List.append_assoc, HX1.out, ← strOf_append, ← strOf_append, ← strOf_append]; rfl, hA2, HR5⟩
                  case measure => simp [intOf]; omega
                · obtain rfl : j = k := by omega
                  have HZT : Hid (spT (spUp Q (j + 1)) = spT (spUp Q j) ++ byteT j (inB insS j)) := by
                    show _ = _
                    rw [HT.out]
                    unfold spanT
                    rw [if_pos rfl]; simp
                  go_wp2_with fail
                  go_roundw
                  case rel => exact ⟨j + 1, by go_num, by omega, by rw [HZT.out, ← List.append_assoc, HX1.out, ← strOf_append], hA2, HR4⟩
                  case measure => simp [intOf]; omega
              · have hq1 : Q (j + 1) = false := by
                  rcases hq : Q (j + 1) with _ | _
                  · rfl
                  · exact absurd ⟨h255, hq⟩ hend
                have HQ1 := Lib.hid hq1
                clear hq1
                have hbk1 := byteT_len k (inB insS k)
                have hzk : (strOf (byteT k (inB insS k))).size ≤ 4 := by rw [strOf_size]; exact hbk1
                go_wp2_with fail
                refine (rhas_any Q (j + 1) (by omega) _).mono ?_
                rintro e w3 ⟨rfl, b3⟩
                rw [HQ1.out]
                have HRa := Lib.hid (RSet.mk (HR.out.s0.keep b3) (HR.out.below.trans (b3.mono hbw2)))
                clear b3 r0 r1 r2 r3 r4 r5 r6 r7
                go_wp2_with fail
                refine (rbyte_any k hlt insS HI.out _).mono ?_
                rintro e w4 ⟨rfl, b4⟩
                have HR4 := Lib.hid (RSet.mk (HRa.out.s0.keep b4) (HRa.out.below.trans (b4.mono HRa.out.below.size)))
                clear b4
                by_cases hjk : k < j
                · have HZT : Hid (spT (spUp Q (j + 1)) = spT (spUp Q k) ++ byteT k (inB insS k) ++ [45] ++ byteT j (inB insS j)) := by
                    show _ = _
                    rw [HT.out]
                    unfold spanT
                    rw [if_neg (by simp; omega)]; simp
                  have hbj := byteT_len j (inB insS j)
                  have hzj : (strOf (byteT j (inB insS j))).size ≤ 4 := by rw [strOf_size]; exact hbj
                  go_wp2_with fail
                  refine (rbyte_any j (by omega) insS HI.out _).mono ?_
                  rintro e w5 ⟨rfl, b5⟩
                  have HR5 := Lib.hid (RSet.mk (HR4.out.s0.keep b5) (HR4.out.below.trans (b5.mono HR4.out.below.size)))
                  clear b5
                  go_wp2_with fail
                  go_roundw
                  case rel => exact ⟨j + 1, by go_num, by omega, by rw [HZT.out, ← List.append_assoc, ← List.append_assoc, ← List.append_assoc, HX1.out, ← strOf_append, ← strOf_append, ← strOf_append]; rfl, hA2, HR5⟩
                  case measure => simp [intOf]; omega
                · obtain rfl : j = k := by omega
                  have HZT : Hid (spT (spUp Q (j + 1)) = spT (spUp Q j) ++ byteT j (inB insS j)) := by
                    show _ = _
                    rw [HT.out]
                    unfold spanT
                    rw [if_pos rfl]; simp
                  go_wp2_with fail
                  go_roundw
                  case rel => exact ⟨j + 1, by go_num, by omega, by rw [HZT.out, ← List.append_assoc, HX1.out, ← strOf_append], hA2, HR4⟩
                  case measure => simp [intOf]; omega
      · obtain rfl : k = 256 := by omega
        go_wp2_with fail
        go_ret
        exact ⟨by first | (rw [HZ.out, ← spUp_all, HX1.out, ← strOf_append]; rfl) | (rw [← HQ.out, HZ.out, ← spUp_all, HX1.out, ← strOf_append]; rfl), HR.out.below⟩
  · skip
    have HZ : Hid (setT p = [91] ++ spT (spansOf p) ++ [93]) := by
      show _ = _
      rw [HX.out, if_neg h256, if_neg h1, if_neg h128]; simp
    clear h1 h256 HX
    have HR1 := Lib.hid (RSet.mk (p := p) S1.out hbel1)
    clear c0 c1 c2 c3 hbel1 S1
    go_wp2_with fail
    obtain ⟨Q, hQ⟩ : ∃ Q : Nat → Bool, Q = p := ⟨_, rfl⟩
    rw [← hQ] at HZ
    have HQ := Lib.hid hQ
    clear hQ
    go_loopw [4, 5] (fun v i wr => ∃ k : Nat, i = .int .i64 k ∧ k ≤ 256 ∧ v = .string (strOf ([91] ++ spT (spUp Q k))) ∧ Hid (k < 256 → Apart Q k) ∧ Hid (RSet w Q wr)) (fun _ i _ => 256 - (intOf i).toNat)
    case atStart => exact ⟨0, rfl, Nat.zero_le _, rfl, fun _ h => absurd h (by omega), by show RSet _ Q _; rw [HQ.out]; exact HR1.out⟩
    case round =>
      clear HR1
      obtain ⟨k, rfl, hk, rfl, HA, HR⟩ := hrel
      obtain ⟨r0, r1, r2, r3, r4, r5, r6, r7⟩ := row4 HR.out.s0
      have hbw := HR.out.below.size
      have hl := spUp_len Q k
      have hzl : ([91] ++ spT (spUp Q k)).length ≤ 2400 := by simp; omega
      generalize hX : [91] ++ spT (spUp Q k) = X at hzl ⊢
      have hz1 : (strOf X).size ≤ 2400 := by rw [strOf_size]; exact hzl
      have HX1 := Lib.hid hX
      clear hX
      by_cases hlt : k < 256
      · rcases hq : Q k with _ | _
        · have HN := Lib.hid (spUp_no Q k hq)
          have HQ0 := Lib.hid hq
          have hA2 : Hid (k + 1 < 256 → Apart Q (k + 1)) := fun _ _ _ => by simpa using hq
          clear hq
          go_wp2_with fail
          refine (rhas_any Q k hlt _).mono ?_
          rintro e w2 ⟨rfl, b2⟩
          rw [HQ0.out]
          have HR2 := Lib.hid (RSet.mk (HR.out.s0.keep b2) (HR.out.below.trans (b2.mono hbw)))
          clear b2 r0 r1 r2 r3 r4 r5 r6 r7
          go_wp2_with fail
          go_roundw
          case rel => exact ⟨k + 1, by go_num, by omega, by rw [HN.out, HX1.out], hA2, HR2⟩
          case measure => simp [intOf]; omega
        · have HQ0 := Lib.hid hq
          clear hq
          go_wp2_with fail
          refine (rhas_any Q k hlt _).mono ?_
          rintro e w2 ⟨rfl, b2⟩
          rw [HQ0.out]
          have HR2 := Lib.hid (RSet.mk (HR.out.s0.keep b2) (HR.out.below.trans (b2.mono hbw)))
          clear b2 r0 r1 r2 r3 r4 r5 r6 r7
          go_wp2_with fail
          go_loopw [6] (fun v wx => ∃ j : Nat, v = .int .i64 j ∧ k ≤ j ∧ j ≤ 255 ∧ Hid (∀ x, k ≤ x → x ≤ j → Q x = true) ∧ Hid (RSet w Q wx)) (fun v _ => 256 - (intOf v).toNat)
          case atStart => exact ⟨k, rfl, Nat.le_refl _, by omega, (fun x h1 h2 => by rw [(by omega : x = k)]; exact HQ0.out), HR2⟩
          case round =>
            clear HR2 HR
            obtain ⟨j, rfl, hkj, hj, HJ, HR⟩ := hrel
            obtain ⟨r0, r1, r2, r3, r4, r5, r6, r7⟩ := row4 HR.out.s0
            have hbw2 := HR.out.below.size
            by_cases hend : j < 255 ∧ Q (j + 1) = true
            · obtain ⟨h255, hq1⟩ := hend
              have HQ1 := Lib.hid hq1
              have HJ2 : Hid (∀ x, k ≤ x → x ≤ j + 1 → Q x = true) := fun x h1 h2 => by
                by_cases e : x = j + 1
                · rw [e]; exact hq1
                · exact HJ.out x h1 (by omega)
              clear hq1
              go_wp2_with fail
              refine (rhas_any Q (j + 1) (by omega) _).mono ?_
              rintro e w3 ⟨rfl, b3⟩
              rw [HQ1.out]
              have HR3 := Lib.hid (RSet.mk (HR.out.s0.keep b3) (HR.out.below.trans (b3.mono hbw2)))
              clear b3 r0 r1 r2 r3 r4 r5 r6 r7
              go_wp2_with fail
              go_roundw
              case rel => exact ⟨j + 1, by go_num, by omega, by omega, HJ2, HR3⟩
              case measure => simp [intOf]; omega
            · have HT := Lib.hid (spUp_run Q k j hkj (HA.out hlt) HJ.out)
              have hA2 : Hid (j + 1 < 256 → Apart Q (j + 1)) := fun h255 _ h => absurd ⟨by omega, h⟩ hend
              have hl2 := spUp_len Q (j + 1)
              rcases (by omega : 255 ≤ j ∨ j < 255) with h255 | h255
              · have HRa := HR
                have hbk1 := byteT_len k (inB insS k)
                have hzk : (strOf (byteT k (inB insS k))).size ≤ 4 := by rw [strOf_size]; exact hbk1
                go_wp2_with fail
                refine (rbyte_any k hlt insS HI.out _).mono ?_
                rintro e w4 ⟨rfl, b4⟩
                have HR4 := Lib.hid (RSet.mk (HRa.out.s0.keep b4) (HRa.out.below.trans (b4.mono HRa.out.below.size)))
                clear b4
                by_cases hjk : k < j
                · have HZT : Hid (spT (spUp Q (j + 1)) = spT (spUp Q k) ++ byteT k (inB insS k) ++ [45] ++ byteT j (inB insS j)) := by
                    show _ = _
                    rw [HT.out]
                    unfold spanT
                    rw [if_neg (by simp; omega)]; simp
                  have hbj := byteT_len j (inB insS j)
                  have hzj : (strOf (byteT j (inB insS j))).size ≤ 4 := by rw [strOf_size]; exact hbj
                  go_wp2_with fail
                  refine (rbyte_any j (by omega) insS HI.out _).mono ?_
                  rintro e w5 ⟨rfl, b5⟩
                  have HR5 := Lib.hid (RSet.mk (HR4.out.s0.keep b5) (HR4.out.below.trans (b5.mono HR4.out.below.size)))
                  clear b5
                  go_wp2_with fail
                  go_roundw
                  case rel => exact ⟨j + 1, by go_num, by omega, by rw [HZT.out, ← List.append_assoc, ← List.append_assoc, ← List.append_assoc, HX1.out, ← strOf_append, ← strOf_append, ← strOf_append]; rfl, hA2, HR5⟩
                  case measure => simp [intOf]; omega
                · obtain rfl : j = k := by omega
                  have HZT : Hid (spT (spUp Q (j + 1)) = spT (spUp Q j) ++ byteT j (inB insS j)) := by
                    show _ = _
                    rw [HT.out]
                    unfold spanT
                    rw [if_pos rfl]; simp
                  go_wp2_with fail
                  go_roundw
                  case rel => exact ⟨j + 1, by go_num, by omega, by rw [HZT.out, ← List.append_assoc, HX1.out, ← strOf_append], hA2, HR4⟩
                  case measure => simp [intOf]; omega
              · have hq1 : Q (j + 1) = false := by
                  rcases hq : Q (j + 1) with _ | _
                  · rfl
                  · exact absurd ⟨h255, hq⟩ hend
                have HQ1 := Lib.hid hq1
                clear hq1
                have hbk1 := byteT_len k (inB insS k)
                have hzk : (strOf (byteT k (inB insS k))).size ≤ 4 := by rw [strOf_size]; exact hbk1
                go_wp2_with fail
                refine (rhas_any Q (j + 1) (by omega) _).mono ?_
                rintro e w3 ⟨rfl, b3⟩
                rw [HQ1.out]
                have HRa := Lib.hid (RSet.mk (HR.out.s0.keep b3) (HR.out.below.trans (b3.mono hbw2)))
                clear b3 r0 r1 r2 r3 r4 r5 r6 r7
                go_wp2_with fail
                refine (rbyte_any k hlt insS HI.out _).mono ?_
                rintro e w4 ⟨rfl, b4⟩
                have HR4 := Lib.hid (RSet.mk (HRa.out.s0.keep b4) (HRa.out.below.trans (b4.mono HRa.out.below.size)))
                clear b4
                by_cases hjk : k < j
                · have HZT : Hid (spT (spUp Q (j + 1)) = spT (spUp Q k) ++ byteT k (inB insS k) ++ [45] ++ byteT j (inB insS j)) := by
                    show _ = _
                    rw [HT.out]
                    unfold spanT
                    rw [if_neg (by simp; omega)]; simp
                  have hbj := byteT_len j (inB insS j)
                  have hzj : (strOf (byteT j (inB insS j))).size ≤ 4 := by rw [strOf_size]; exact hbj
                  go_wp2_with fail
                  refine (rbyte_any j (by omega) insS HI.out _).mono ?_
                  rintro e w5 ⟨rfl, b5⟩
                  have HR5 := Lib.hid (RSet.mk (HR4.out.s0.keep b5) (HR4.out.below.trans (b5.mono HR4.out.below.size)))
                  clear b5
                  go_wp2_with fail
                  go_roundw
                  case rel => exact ⟨j + 1, by go_num, by omega, by rw [HZT.out, ← List.append_assoc, ← List.append_assoc, ← List.append_assoc, HX1.out, ← strOf_append, ← strOf_append, ← strOf_append]; rfl, hA2, HR5⟩
                  case measure => simp [intOf]; omega
                · obtain rfl : j = k := by omega
                  have HZT : Hid (spT (spUp Q (j + 1)) = spT (spUp Q j) ++ byteT j (inB insS j)) := by
                    show _ = _
                    rw [HT.out]
                    unfold spanT
                    rw [if_pos rfl]; simp
                  go_wp2_with fail
                  go_roundw
                  case rel => exact ⟨j + 1, by go_num, by omega, by rw [HZT.out, ← List.append_assoc, HX1.out, ← strOf_append], hA2, HR4⟩
                  case measure => simp [intOf]; omega
      · obtain rfl : k = 256 := by omega
        go_wp2_with fail
        go_ret
        exact ⟨by first | (rw [HZ.out, ← spUp_all, HX1.out, ← strOf_append]; rfl) | (rw [← HQ.out, HZ.out, ← spUp_all, HX1.out, ← strOf_append]; rfl), HR.out.below⟩
end Go.Proofs.YtjhfgiflcenjpaaDoor
