import Derived.Test.YtlnndkilaklifaaZNRef
import Derived.Maps.AppendAt
import Derived.Deep.AppendLies
namespace Go.Proofs.Ytlnndkilaklifaa
open Go.RowKit
set_option linter.unusedVariables false

theorem Try.info_set9 : (Try.prog.info? 41).map (fun i => (i.zero, i.size, i.bytes)) = some (some (.agg #[.int .u64 0, .int .u64 0, .int .u64 0, .int .u64 0]), 4, 32) := by kernel_rfl
/-- Sets in memory. -/
def stCells (p : Nat → Bool) : List Value := (#[.int .u64 ((wd p 0 : Nat) : Int), .int .u64 ((wd p 1 : Nat) : Int), .int .u64 ((wd p 2 : Nat) : Int), .int .u64 ((wd p 3 : Nat) : Int)]).toList
def sts (l : List (Nat → Bool)) : List Value := l.flatMap stCells
theorem sts_snoc (l : List (Nat → Bool)) (p : Nat → Bool) : sts (l ++ [p]) = sts l ++ stCells p := by simp [sts]
theorem sts_get (l : List (Nat → Bool)) (i : Nat) (h : i < l.length) (j : Nat) (hj : j < 4) : (sts l)[i * 4 + j]? = (stCells l[i])[j]? := by
  induction l generalizing i with
  | nil => simp at h
  | cons x l ih =>
    have hc : (stCells x).length = 4 := by simp [stCells]
    show (stCells x ++ sts l)[i * 4 + j]? = _
    match i, h with
    | 0, _ =>
      rw [Nat.zero_mul, Nat.zero_add, List.getElem?_append_left (by omega)]
      rfl
    | i + 1, h =>
      rw [List.getElem?_append_right (by omega), hc, show (i + 1) * 4 + j - 4 = i * 4 + j by omega, ih i (by simpa using h)]
      rfl
/-- The sets of the edges that are not free. -/
def setsOf (L : List Eg) : List (Nat → Bool) := (L.filter fun e => !e.b).map (·.p)
theorem setsOf_len (L : List Eg) : (setsOf L).length ≤ L.length := by simp [setsOf]; exact List.length_filter_le _ _
def SetsPost (w : World) (L : List Eg) (e : Ending) (w' : World) : Prop :=
  ∃ (a : Option Addr) (n c : Nat), e = .returned (.slice a n c) ∧ (setsOf L).length = n ∧ w'.ownsRow w.heap.size 41 4 (.slice a n c) n (sts (setsOf L)) ∧ Below w.heap.size w w'

set_option maxHeartbeats 1000000 in
set_option maxRecDepth 100000 in
theorem sets_any (S F T : Int) (a : Option Addr) (n c : Nat) (L : List Eg) (w : World) (hL : EdAt w a L) (hn : L.length = n) (hmax : n ≤ 1000000) :
    Calls Try.prog 69 #[.agg #[.int .i64 S, .slice a n c, .int .i64 F, .int .i64 T]] w (SetsPost w L) := by
  have HL := Lib.hid (And.intro hL hn)
  have HW := Lib.hid (nfa_new w S F T a n c)
  have HB := Lib.hid (show Below w.heap.size w (w.alloc (.cells #[.int .i64 S, .slice a n c, .int .i64 F, .int .i64 T] 24)) from (Below.refl _ _).alloc (Nat.le_refl _) _)
  obtain ⟨i0, hi, hz0, hz1, hz2⟩ := info_parts Try.info_set9
  clear hL hn
  go_enter Try.func69, Try.ntmps69
  go_wp2_with fail
  generalize w.alloc (.cells #[.int .i64 S, .slice a n c, .int .i64 F, .int .i64 T] 24) = W0 at HW HB ⊢
  go_loopw [3, 5, 9] (fun v _ i wr => ∃ (k q : Nat), i = .int .i64 k ∧ k ≤ n ∧ q ≤ k ∧ Hid ((setsOf (L.take k)).length = q) ∧ Hid (wr.ownsRow w.heap.size 41 4 v q (sts (setsOf (L.take k)))) ∧ Hid (Below w.heap.size w wr)) (fun _ _ i _ => n - (intOf i).toNat)
  case atStart => exact ⟨0, 0, rfl, Nat.zero_le _, Nat.zero_le _, rfl, World.ownsRow_nil _ _ _ _, HB⟩
  case round =>
    obtain ⟨k, q, rfl, hk, hq, HQ, HA, HBl⟩ := hrel
    obtain ⟨aS, cS, rfl⟩ := ownsRow_slice HA.out
    have hsz := HBl.out.size
    by_cases hlt : k < n
    · have hkl : k < L.length := by rw [HL.out.2]; exact hlt
      obtain ⟨ge, off, rfl, hg, c0, c1, c2, c3, c4, c5, c6⟩ := (HL.out.1.below HBl.out).get k hkl
      have HS : Hid (L.take (k + 1) = L.take k ++ [L[k]]) := List.take_succ_eq_append_getElem hkl
      generalize L[k] = x at c0 c1 c2 c3 c4 c5 c6 HS
      have hB1 : Below wr.heap.size wr (wr.alloc (.cells #[.int .i64 x.f, .int .i64 x.t, .int .u64 ((wd x.p 0 : Nat) : Int), .int .u64 ((wd x.p 1 : Nat) : Int), .int .u64 ((wd x.p 2 : Nat) : Int), .int .u64 ((wd x.p 3 : Nat) : Int), .bool x.b] 43)) := (Below.refl _ _).alloc (Nat.le_refl _) _
      have HO1 := Lib.hid (ownsRow_keep HA.out hB1)
      have HB1 := Lib.hid (HBl.out.trans (hB1.mono hsz))
      have HE1 := Lib.hid (St.new wr 43 #[.int .i64 x.f, .int .i64 x.t, .int .u64 ((wd x.p 0 : Nat) : Int), .int .u64 ((wd x.p 1 : Nat) : Int), .int .u64 ((wd x.p 2 : Nat) : Int), .int .u64 ((wd x.p 3 : Nat) : Int), .bool x.b])
      obtain ⟨xf, xt, xp, xb⟩ := x
      dsimp only at c0 c1 c2 c3 c4 c5 c6 HS HO1 HB1 HE1
      rcases xb with _ | _
      · have HZ : Hid (setsOf (L.take (k + 1)) = setsOf (L.take k) ++ [xp]) := by show _ = _; rw [HS.out]; simp [setsOf]
        clear hB1
        go_upto_region 6 with fail
        have e2 : (wr.alloc (.cells #[.int .i64 xf, .int .i64 xt, .int .u64 ((wd xp 0 : Nat) : Int), .int .u64 ((wd xp 1 : Nat) : Int), .int .u64 ((wd xp 2 : Nat) : Int), .int .u64 ((wd xp 3 : Nat) : Int), .bool false] 43)).cell? ⟨wr.heap.size, 2, none⟩ = some (.int .u64 ((wd xp 0 : Nat) : Int)) := HE1.out.at_ 2
        have e3 : (wr.alloc (.cells #[.int .i64 xf, .int .i64 xt, .int .u64 ((wd xp 0 : Nat) : Int), .int .u64 ((wd xp 1 : Nat) : Int), .int .u64 ((wd xp 2 : Nat) : Int), .int .u64 ((wd xp 3 : Nat) : Int), .bool false] 43)).cell? ⟨wr.heap.size, 3, none⟩ = some (.int .u64 ((wd xp 1 : Nat) : Int)) := HE1.out.at_ 3
        have e4 : (wr.alloc (.cells #[.int .i64 xf, .int .i64 xt, .int .u64 ((wd xp 0 : Nat) : Int), .int .u64 ((wd xp 1 : Nat) : Int), .int .u64 ((wd xp 2 : Nat) : Int), .int .u64 ((wd xp 3 : Nat) : Int), .bool false] 43)).cell? ⟨wr.heap.size, 4, none⟩ = some (.int .u64 ((wd xp 2 : Nat) : Int)) := HE1.out.at_ 4
        have e5 : (wr.alloc (.cells #[.int .i64 xf, .int .i64 xt, .int .u64 ((wd xp 0 : Nat) : Int), .int .u64 ((wd xp 1 : Nat) : Int), .int .u64 ((wd xp 2 : Nat) : Int), .int .u64 ((wd xp 3 : Nat) : Int), .bool false] 43)).cell? ⟨wr.heap.size, 5, none⟩ = some (.int .u64 ((wd xp 3 : Nat) : Int)) := HE1.out.at_ 5
        generalize (wr.alloc (.cells #[.int .i64 xf, .int .i64 xt, .int .u64 ((wd xp 0 : Nat) : Int), .int .u64 ((wd xp 1 : Nat) : Int), .int .u64 ((wd xp 2 : Nat) : Int), .int .u64 ((wd xp 3 : Nat) : Int), .bool false] 43)) = W1 at HO1 HB1 HE1 e2 e3 e4 e5 ⊢
        have hO := HO1.out
        have hs1 := HB1.out.size
        go_wp2_with (at_builtin; refine wpList_append_own _ rfl _ _ 38 rfl w.heap.size 41 i0 (.agg #[.int .u64 0, .int .u64 0, .int .u64 0, .int .u64 0]) 4 32 Try.underlying38 hi hz0 hz1 hz2 rfl (by decide) _ _ _ rfl (hO.alloc _) ⟨W1.heap.size, 0, none⟩ 1 1 (#[.int .u64 ((wd xp 0 : Nat) : Int), .int .u64 ((wd xp 1 : Nat) : Int), .int .u64 ((wd xp 2 : Nat) : Int), .int .u64 ((wd xp 3 : Nat) : Int)]).toList rfl rfl (World.news_of_block (cs := #[.int .u64 ((wd xp 0 : Nat) : Int), .int .u64 ((wd xp 1 : Nat) : Int), .int .u64 ((wd xp 2 : Nat) : Int), .int .u64 ((wd xp 3 : Nat) : Int)]) (t := 41) (fr := (0, 0)) (St.new W1 _ _)) ?d2 ?d3 ?d4 ?d5 ?_)
        case d2 => exact ⟨rfl, rfl, rfl, rfl⟩
        case d3 => unfold maxLen; omega
        case d4 => omega
        case d5 => simp; omega
        intro v' w5 hown5 hgrow5 _
        obtain ⟨a5, c5, rfl⟩ := ownsRow_slice hown5
        have hal : Below W1.heap.size W1 (W1.alloc (.cells #[.int .u64 ((wd xp 0 : Nat) : Int), .int .u64 ((wd xp 1 : Nat) : Int), .int .u64 ((wd xp 2 : Nat) : Int), .int .u64 ((wd xp 3 : Nat) : Int)] 41)) := (Below.refl _ _).alloc (Nat.le_refl _) _
        have HB5 : Hid (Below w.heap.size w w5) := (HB1.out.trans (hal.mono hs1)).trans (grown_kept hgrow5 (hO.alloc _) (by simp; omega))
        have HO5 : Hid (w5.ownsRow w.heap.size 41 4 (.slice a5 (q + 1) c5) (q + 1) (sts (setsOf (L.take (k + 1))))) := by
          show World.ownsRow _ _ _ _ _ _ _
          rw [HZ.out, sts_snoc]
          exact hown5
        have HQ5 : Hid ((setsOf (L.take (k + 1))).length = q + 1) := by show _ = _; rw [HZ.out, List.length_append, HQ.out]; rfl
        clear hown5 hgrow5 hal hO e2 e3 e4 e5
        go_wp2_with fail
        go_roundw
        case rel => exact ⟨k + 1, q + 1, by go_num, by omega, by omega, HQ5, HO5, HB5⟩
        case measure => simp [intOf]; omega
      · have HZ : Hid (setsOf (L.take (k + 1)) = setsOf (L.take k)) := by show _ = _; rw [HS.out]; simp [setsOf]
        clear hB1
        go_wp2_with fail
        go_roundw
        case rel => exact ⟨k + 1, q, by go_num, by omega, by omega, by show _ = _; rw [HZ.out]; exact HQ.out, by show World.ownsRow _ _ _ _ _ _ _; rw [HZ.out]; exact HO1.out, HB1⟩
        case measure => simp [intOf]; omega
    · obtain rfl : k = n := by omega
      have HZ : Hid (L.take k = L) := List.take_of_length_le (by rw [HL.out.2]; exact Nat.le_refl _)
      go_wp2_with fail
      go_ret
      refine ⟨aS, q, cS, rfl, ?_, ?_, HBl.out⟩
      · have := HQ.out; rwa [HZ.out] at this
      · have := HA.out; rwa [HZ.out] at this
end Go.Proofs.Ytlnndkilaklifaa
