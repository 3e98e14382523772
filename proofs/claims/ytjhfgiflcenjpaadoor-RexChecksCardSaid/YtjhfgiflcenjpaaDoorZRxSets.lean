import Derived.Test.YtjhfgiflcenjpaaDoorZChk
namespace Go.Proofs.YtjhfgiflcenjpaaDoor
open Go.RowKit
set_option linter.unusedVariables false

theorem Tryd.info_set : (Tryd.prog.info? 33).map (fun i => (i.zero, i.size, i.bytes)) = some (some (.agg #[.int .u64 0, .int .u64 0, .int .u64 0, .int .u64 0]), 4, 32) := by kernel_rfl
/-- The sets of the One pieces. -/
def ones (l : List Pc) : List (Nat → Bool) := (l.filter fun x => x.k == 1).map Pc.p
/-- Sets in memory. -/
def stc (l : List (Nat → Bool)) : List Value := l.flatMap fun p => (#[.int .u64 ((wd p 0 : Nat) : Int), .int .u64 ((wd p 1 : Nat) : Int), .int .u64 ((wd p 2 : Nat) : Int), .int .u64 ((wd p 3 : Nat) : Int)]).toList
theorem stc_snoc (l : List (Nat → Bool)) (p : Nat → Bool) : stc (l ++ [p]) = stc l ++ (#[.int .u64 ((wd p 0 : Nat) : Int), .int .u64 ((wd p 1 : Nat) : Int), .int .u64 ((wd p 2 : Nat) : Int), .int .u64 ((wd p 3 : Nat) : Int)]).toList := by simp [stc]
theorem stc_length (l : List (Nat → Bool)) : (stc l).length = l.length * 4 := by
  induction l with
  | nil => rfl
  | cons x l ih => simp [stc] at ih ⊢; omega
theorem stc_get (l : List (Nat → Bool)) (i : Nat) (h : i < l.length) (j : Nat) (hj : j < 4) : (stc l)[i * 4 + j]? = (#[.int .u64 ((wd ((l[i])) 0 : Nat) : Int), .int .u64 ((wd ((l[i])) 1 : Nat) : Int), .int .u64 ((wd ((l[i])) 2 : Nat) : Int), .int .u64 ((wd ((l[i])) 3 : Nat) : Int)]).toList[j]? := by
  induction l generalizing i with
  | nil => simp at h
  | cons x l ih =>
    show ((#[.int .u64 ((wd x 0 : Nat) : Int), .int .u64 ((wd x 1 : Nat) : Int), .int .u64 ((wd x 2 : Nat) : Int), .int .u64 ((wd x 3 : Nat) : Int)]).toList ++ stc l)[i * 4 + j]? = _
    match i, h with
    | 0, _ =>
      rw [Nat.zero_mul, Nat.zero_add, List.getElem?_append_left (by simpa using hj)]
      rfl
    | i + 1, h =>
      have e4 : ((#[.int .u64 ((wd x 0 : Nat) : Int), .int .u64 ((wd x 1 : Nat) : Int), .int .u64 ((wd x 2 : Nat) : Int), .int .u64 ((wd x 3 : Nat) : Int)]) : Array Value).toList.length = 4 := rfl
      rw [List.getElem?_append_right (by rw [e4]; omega), e4, show (i + 1) * 4 + j - 4 = i * 4 + j by omega, ih i (by simpa using h)]
      rfl
theorem ones_take_yes (l : List Pc) (k : Nat) (h : k < l.length) (h1 : l[k].k = 1) : ones (l.take (k + 1)) = ones (l.take k) ++ [l[k].p] := by
  unfold ones; rw [List.take_succ_eq_append_getElem h, List.filter_append, List.map_append]; simp [List.filter, h1]
theorem ones_take_no (l : List Pc) (k : Nat) (h : k < l.length) (h1 : l[k].k ≠ 1) : ones (l.take (k + 1)) = ones (l.take k) := by
  unfold ones; rw [List.take_succ_eq_append_getElem h, List.filter_append, List.map_append]; simp [h1]
theorem ones_len (l : List Pc) (k : Nat) : (ones (l.take k)).length ≤ k := by
  have h1 := List.length_filter_le (fun x : Pc => x.k == 1) (l.take k)
  simp [ones]; simp at h1; omega

set_option maxHeartbeats 1000000 in
set_option maxRecDepth 100000 in
theorem sets_any (l : List Pc) (a : Option Addr) (n cap : Nat) (w : World) (hL : RxAt w a l) (hn : l.length = n) (hmax : n ≤ 100000) :
    Calls Tryd.prog 8 #[.slice a n cap] w fun e w' => ∃ a' c', e = .returned (.slice a' (ones l).length c') ∧ w'.ownsRow w.heap.size 33 4 (.slice a' (ones l).length c') (ones l).length (stc (ones l)) ∧ Below w.heap.size w w' := by
  obtain ⟨i0, hi, hz0, hz1, hz2⟩ := info_parts Tryd.info_set
  have HN := Lib.hid hn
  have HL := Lib.hid hL
  clear hn hL
  go_enter Tryd.func8, Tryd.ntmps8
  go_wp2_with fail
  go_loopw [3, 8] (fun v i wr => ∃ k : Nat, i = .int .i64 k ∧ k ≤ n ∧ Hid (wr.ownsRow w.heap.size 33 4 v (ones (l.take k)).length (stc (ones (l.take k)))) ∧ Below w.heap.size w wr) (fun _ i _ => n - (intOf i).toNat)
  case atStart => exact ⟨0, rfl, Nat.zero_le _, World.ownsRow_nil _ _ _ _, Below.refl _ _⟩
  case round =>
    obtain ⟨k, rfl, hk, HO, hbel⟩ := hrel
    obtain ⟨a1, c1, rfl⟩ := ownsRow_slice HO.out
    by_cases hlt : k < n
    · have hkl : k < l.length := by rw [HN.out]; exact hlt
      obtain ⟨g, off, rfl, hg, c0, c1_, c2, c3, c4⟩ := (HL.out.below hbel).get k hkl
      have HY := Lib.hid (ones_take_yes l k hkl)
      have HNo := Lib.hid (ones_take_no l k hkl)
      have hbw := hbel.size
      have hol := ones_len l k
      obtain ⟨x, hx⟩ : ∃ x, l[k] = x := ⟨_, rfl⟩
      rw [hx] at c0 c1_ c2 c3 c4 HY HNo
      obtain ⟨S, hS⟩ : ∃ S, ones (l.take k) = S := ⟨_, rfl⟩
      rw [hS] at HO HY HNo hol
      rw [hS]
      have kb : Below wr.heap.size wr (wr.alloc (.cells #[.int .i64 x.k, .int .u64 ((wd x.p 0 : Nat) : Int), .int .u64 ((wd x.p 1 : Nat) : Int), .int .u64 ((wd x.p 2 : Nat) : Int), .int .u64 ((wd x.p 3 : Nat) : Int)] 35)) := (Below.refl _ _).alloc (Nat.le_refl _) _
      have hO2 := ownsRow_keep HO.out kb
      have hb2 := hbel.trans (kb.mono hbw)
      clear hx hS hkl
      by_cases h1 : x.k = 1
      · have e1 : (x.k == 1) = true := by simpa using h1
        have HZ := Lib.hid (HY.out h1)
        clear HY HNo kb
        rw [h1] at hO2 hb2
        go_wp2_with (at_builtin; refine wpList_append_own _ rfl _ _ 29 rfl w.heap.size 33 i0 (.agg #[.int .u64 0, .int .u64 0, .int .u64 0, .int .u64 0]) 4 32 Tryd.underlying29 hi hz0 hz1 hz2 rfl (by decide) _ _ _ rfl (hO2.alloc _) ⟨wr.heap.size + 1, 0, none⟩ 1 1 (#[.int .u64 ((wd x.p 0 : Nat) : Int), .int .u64 ((wd x.p 1 : Nat) : Int), .int .u64 ((wd x.p 2 : Nat) : Int), .int .u64 ((wd x.p 3 : Nat) : Int)]).toList (by first | rfl | simp) rfl ?d1 ?d2 ?d3 ?d4 ?d5 ?_)
        case d2 => exact ⟨rfl, rfl, rfl, rfl⟩
        case d3 => unfold maxLen; omega
        case d4 => omega
        case d5 => simp; omega
        intro v' w5 hown5 hgrow5 _
        have hb5 : Below w.heap.size w w5 := hb2.trans (((Below.refl _ _).alloc (by simp; omega) _).trans (grown_kept hgrow5 (hO2.alloc _) (by simp; omega)))
        have HO5 : Hid (w5.ownsRow w.heap.size 33 4 v' (S ++ [x.p]).length (stc (S ++ [x.p]))) := by
          show World.ownsRow _ _ _ _ _ _ _
          rw [stc_snoc]
          simpa using hown5
        clear hown5 hgrow5 hO2 hb2
        go_wp2_with fail
        go_roundw
        case rel => exact ⟨k + 1, by go_num, by omega, by rw [HZ.out]; exact HO5, hb5⟩
        case measure => simp [intOf]; omega
      · have e1 : (x.k == 1) = false := by simpa using h1
        have HZ := Lib.hid (HNo.out h1)
        clear HY HNo kb
        have HO2 := Lib.hid hO2
        clear hO2
        go_wp2_with fail
        go_roundw
        case rel => exact ⟨k + 1, by go_num, by omega, by rw [HZ.out]; exact HO2, hb2⟩
        case measure => simp [intOf]; omega
    · obtain rfl : k = n := by omega
      have HZ : Hid (ones (l.take k) = ones l) := by show _ = _; rw [← HN.out, List.take_length]
      rw [HZ.out] at HO ⊢
      go_wp2_with fail
      go_ret
      exact ⟨a1, c1, rfl, HO.out, hbel⟩
end Go.Proofs.YtjhfgiflcenjpaaDoor
