import Derived.Test.YtddkloagaiibaaaAwake
import Derived.Test.YtddkloagaiibaaaRange
import Derived.Test.YtddkloagaiibaaaOr
import Derived.Test.YtddkloagaiibaaaSetEq
import Derived.BigQuiet
import Derived.Deep.QuietTactic
import Derived.Deep.RegionWith
import Derived.IntWalk
namespace Go.Proofs.Ytddkloagaiibaaa
open Go.RowKit

/-- The numbers in the first i of some spans. -/
def within (l : List (Nat × Nat)) : Nat → Nat → Bool
  | 0 => fun _ => false
  | i + 1 => fun x => within l i x || ival (l.getD i (0, 0)).1 ((l.getD i (0, 0)).2 + 1 - (l.getD i (0, 0)).1) x
theorem within_iff (l : List (Nat × Nat)) (i : Nat) (hi : i ≤ l.length) (x : Nat) : within l i x = true ↔ ∃ j, ∃ h : j < l.length, j < i ∧ l[j].1 ≤ x ∧ x ≤ l[j].2 := by
  induction i with
  | zero => simp [within]
  | succ i ih =>
    have hg : l.getD i (0, 0) = l[i] := by simp [List.getElem?_eq_getElem (by omega : i < l.length)]
    simp only [within, Bool.or_eq_true, ih (by omega), hg, ival, Bool.and_eq_true, decide_eq_true_eq]
    constructor
    · rintro (⟨j, hj, h1, h2⟩ | h)
      · exact ⟨j, hj, by omega, h2⟩
      · exact ⟨i, by omega, by omega, by omega, by omega⟩
    · rintro ⟨j, hj, h1, h2, h3⟩
      by_cases e : j = i
      · subst e; exact Or.inr ⟨h2, by omega⟩
      · exact Or.inl ⟨j, hj, by omega, h2, h3⟩

/-- What the law asks of the spans. -/
structure SpFacts (p : Nat → Bool) (l : List (Nat × Nat)) : Prop where
  right : ∀ i, i < l.length → (l.getD i (0, 0)).1 ≤ (l.getD i (0, 0)).2 ∧ (l.getD i (0, 0)).2 < 256
  apart : ∀ i, i + 1 < l.length → (l.getD i (0, 0)).2 + 1 < (l.getD (i + 1) (0, 0)).1
  all : ∀ x, x < 256 → within l l.length x = p x
  few : l.length ≤ 256
theorem spansOf_facts (p : Nat → Bool) : SpFacts p (spansOf p) := by
  have ok := spansOf_ok p
  have hget : ∀ i, i < (spansOf p).length → ∃ h : i < (spansOf p).length, (spansOf p).getD i (0, 0) = (spansOf p)[i] := fun i h => ⟨h, by simp [List.getElem?_eq_getElem h]⟩
  refine ⟨fun i hi => ?_, fun i hi => ?_, fun x hx => ?_, ?_⟩
  case refine_4 =>
    have h1 := spAcc_length (lst p 256) (lst p 256).length
    rw [List.take_length] at h1
    have h2 := lst_le p 256
    unfold spansOf
    simp
    omega
  · obtain ⟨h, e⟩ := hget i hi
    rw [e]
    have hm : (spansOf p)[i] ∈ spAcc (lst p 256) := by have := List.getElem_mem h; unfold spansOf at this ⊢; simpa using this
    have h1 := ok.right _ hm
    have h2 := (lst_mem p 256 _).1 h1.2.2
    exact ⟨h1.1, h2.1⟩
  · obtain ⟨h, e⟩ := hget i (by omega)
    obtain ⟨h', e'⟩ := hget (i + 1) hi
    rw [e, e']
    have hp : (spansOf p).Pairwise fun x y => x.2 + 1 < y.1 := by unfold spansOf; rw [List.pairwise_reverse]; exact ok.apart
    exact List.pairwise_iff_getElem.1 hp i (i + 1) h h' (by omega)
  · rw [Bool.eq_iff_iff, within_iff _ _ (Nat.le_refl _)]
    have h1 := ok.all x
    rw [lst_mem] at h1
    constructor
    · rintro ⟨j, hj, _, h2, h3⟩
      refine (h1.2 ⟨(spansOf p)[j], ?_, h2, h3⟩).2
      have := List.getElem_mem hj; unfold spansOf at this ⊢; simpa using this
    · intro hpx
      obtain ⟨e, he, h2, h3⟩ := h1.1 ⟨hx, hpx⟩
      have he' : e ∈ spansOf p := by unfold spansOf; simpa using he
      obtain ⟨j, hj, rfl⟩ := List.getElem_of_mem he'
      exact ⟨j, hj, hj, h2, h3⟩

/-- The bound that the law keeps: one before the least byte that may follow. -/
def lastOf (l : List (Nat × Nat)) : Nat → Int
  | 0 => -2
  | i + 1 => (((l.getD i (0, 0)).2 : Nat) : Int)

structure LawAt (w : World) (B : Nat) (p q : Nat → Bool) (w2 wr : World) : Prop where
  s0 : St wr 27 w.heap.size #[.int .u64 ((wd p 0 : Nat) : Int), .int .u64 ((wd p 1 : Nat) : Int), .int .u64 ((wd p 2 : Nat) : Int), .int .u64 ((wd p 3 : Nat) : Int)]
  s1 : St wr 27 B #[.int .u64 ((wd q 0 : Nat) : Int), .int .u64 ((wd q 1 : Nat) : Int), .int .u64 ((wd q 2 : Nat) : Int), .int .u64 ((wd q 3 : Nat) : Int)]
  below : Below w.heap.size w wr
  cells : Below B w2 wr

theorem LawAt.drew {w w2 wr : World} {B : Nat} {p q : Nat → Bool} (h : LawAt w B p q w2 wr) : LawAt w B p q w2 wr.drew := ⟨h.s0, h.s1, h.below.drew, h.cells.drew⟩
theorem undrew {W w' : World} (h : Below W.drew.heap.size W.drew w') : Below W.heap.size W w' := ⟨h.os, h.tape, h.output, h.size, h.block⟩
set_option maxHeartbeats 4000000 in
set_option maxRecDepth 100000 in
theorem spansLaw (p : Nat → Bool) (w : World) : Calls Try.prog 4 #[(.agg #[.int .u64 ((wd p 0 : Nat) : Int), .int .u64 ((wd p 1 : Nat) : Int), .int .u64 ((wd p 2 : Nat) : Int), .int .u64 ((wd p 3 : Nat) : Int)])] w fun e w' => e = .returned (.bool true) ∧ Below w.heap.size w w' := by
  go_enter Try.func4, Try.ntmps4
  go_wp2_with fail
  refine (awake_any _).mono ?_
  rintro e w1 ⟨rfl, b1⟩
  have s1 := (St.new w 27 #[.int .u64 ((wd p 0 : Nat) : Int), .int .u64 ((wd p 1 : Nat) : Int), .int .u64 ((wd p 2 : Nat) : Int), .int .u64 ((wd p 3 : Nat) : Int)]).below b1 (by simp)
  have hb1 : Below w.heap.size w w1 := ((Below.refl _ w).alloc (Nat.le_refl _) _).trans (b1.mono (by simp))
  have hs1 := s1.lt
  clear b1
  obtain ⟨r0, r1, r2, r3, r4, r5, r6, r7⟩ := row4 s1
  go_wp2_with fail
  refine (spans_any p _).mono ?_
  rintro e w2 ⟨a, cap, rfl, ho, b2⟩
  have hF := spansOf_facts p
  generalize spansOf p = l at hF ho ⊢
  clear r0 r1 r2 r3 r4 r5 r6 r7
  have s2 := s1.keep b2
  have hb2 := hb1.trans (b2.mono (by omega))
  have hs2 := s2.lt
  clear s1 hb1 b2
  obtain ⟨r0, r1, r2, r3, r4, r5, r6, r7⟩ := row4 s2
  have hread : 0 < l.length → ∃ g3, a = some ⟨g3, 0, none⟩ ∧ g3 < w2.heap.size ∧ ∀ j, j < l.length → w2.cell? ⟨g3, j * 2, none⟩ = some (.int .u8 (((l.getD j (0, 0)).1 : Nat) : Int)) ∧ w2.cell? ⟨g3, j * 2 + 1, none⟩ = some (.int .u8 (((l.getD j (0, 0)).2 : Nat) : Int)) := by
    intro h0
    obtain ⟨g, hg1, _, hg2, hg3⟩ := ownsRow_read ho h0
    refine ⟨g, hg1, hg2, fun j hj => ?_⟩
    have := spCells_get l j hj
    rw [(hg3 (j * 2) (by omega)).1, (hg3 (j * 2 + 1) (by omega)).1, this.1, this.2]
    simp [List.getElem?_eq_getElem hj]
  have hlen := hF.few
  have HR := Lib.hid hread
  have HF := Lib.hid hF
  clear hread hF ho
  go_wp2_with fail
  obtain ⟨B, hB⟩ : ∃ B, w2.heap.size = B := ⟨_, rfl⟩
  have hstart : LawAt w B p (fun _ => false) w2 (w2.alloc (.cells #[.int .u64 0, .int .u64 0, .int .u64 0, .int .u64 0] 27)) := by
    have e : ∀ j, ((wd (fun _ => false) j : Nat) : Int) = 0 := fun j => by rw [wd_none]; rfl
    refine ⟨s2.alloc _, ?_, hb2.alloc (by omega) _, (Below.refl _ _).alloc (by omega) _⟩
    simp only [e]
    rw [← hB]
    exact St.new _ _ _
  have hwB : w.heap.size < B := by omega
  rw [hB]
  have HB := Lib.hid hB
  clear hB s2 hb2 hs2 hs1 r0 r1 r2 r3 r4 r5 r6 r7
  go_loopw [4, 6] (fun v i wr => ∃ k : Nat, i = .int .i64 k ∧ k ≤ l.length ∧ v = .int .i64 (lastOf l k) ∧ LawAt w B p (within l k) w2 wr) (fun _ i _ => l.length - (intOf i).toNat)
  case atStart => exact ⟨0, rfl, Nat.zero_le _, rfl, hstart⟩
  case round =>
    obtain ⟨k, rfl, hk, rfl, R⟩ := hrel
    have hB0 := R.s1.lt
    by_cases hlt : k < l.length
    · obtain ⟨g3, rfl, hg, hc⟩ := HR.out (by omega)
      rw [HB.out] at hg
      obtain ⟨hc1, hc2⟩ := hc k hlt
      have hd1 := (R.cells.cell (p := ⟨g3, k * 2, none⟩) hg).trans hc1
      have hd2 := (R.cells.cell (p := ⟨g3, k * 2 + 1, none⟩) hg).trans hc2
      have hr := HF.out.right k hlt
      have hv : -2 ≤ lastOf l k ∧ lastOf l k ≤ 255 ∧ lastOf l k + 1 < (((l.getD k (0, 0)).1 : Nat) : Int) := by
        match k, hlt with
        | 0, _ => simp [lastOf]; omega
        | k + 1, hlt =>
          have h1 := HF.out.apart k hlt
          have h2 := HF.out.right k (by omega)
          simp only [lastOf]
          omega
      have HL : Hid (lastOf l (k + 1) = (((l.getD k (0, 0)).2 : Nat) : Int) ∧ within l (k + 1) = fun x => within l k x || ival (l.getD k (0, 0)).1 ((l.getD k (0, 0)).2 + 1 - (l.getD k (0, 0)).1) x) := ⟨rfl, rfl⟩
      clear hc hc1 hc2
      generalize lastOf l k = v at hv ⊢
      generalize (l.getD k (0, 0)).1 = f at hd1 hr hv HL
      generalize (l.getD k (0, 0)).2 = t at hd2 hr hv HL
      generalize within l k = q at R HL
      obtain ⟨hv1, hv2, hv3⟩ := hv
      obtain ⟨hr1, hr2⟩ := hr
      have HD1 := Lib.hid hd1
      have HD2 := Lib.hid hd2
      have hg1 : decide ((f : Int) ≤ v + 1) = false := by simp; omega
      have hg2 : decide ((t : Int) < (f : Int)) = false := by simp; omega
      have hg3 : decide (t < f) = false := by simp; omega
      have hg4 : IntKind.i64.wrap (v + 1) = v + 1 := IntWalk.i64_in _ (by omega)
      go_wp2_with fail
      go_quiet (fail)
      go_wp2_with fail
      clear hg1 hg2 hg3 hg4 hd1 hd2
      have R' : LawAt w B p q w2 (wr.drewN nq) := ⟨R.s0, R.s1, ⟨R.below.os, R.below.tape, R.below.output, R.below.size, R.below.block⟩, ⟨R.cells.os, R.cells.tape, R.cells.output, R.cells.size, R.cells.block⟩⟩
      have hd1' : (wr.drewN nq).cell? ⟨g3, k * 2, none⟩ = some (.int .u8 ((f : Nat) : Int)) := HD1.out
      have hd2' : (wr.drewN nq).cell? ⟨g3, k * 2 + 1, none⟩ = some (.int .u8 ((t : Nat) : Int)) := HD2.out
      clear R HD1 HD2
      generalize wr.drewN nq = W at R' hd1' hd2' ⊢
      obtain ⟨q0, q1, q2, q3, q4, q5, q6, q7⟩ := row4 R'.s1
      have hBW := R'.s1.lt
      have hgW : g3 < W.heap.size := by omega
      go_region_with (first
          | (go_at_call 9; refine (range_any f t (by omega) hr2 _).mono ?_; rintro e w5 ⟨rfl, b5'⟩; have b5 : Below W.heap.size W w5 := (by first | exact b5' | exact undrew b5'); obtain ⟨y0, y1, y2, y3, y4, y5, y6, y7⟩ := row4 (R'.s1.keep b5); have hz1 := (b5.cell (p := ⟨g3, k * 2, none⟩) hgW).trans hd1'; have hz2 := (b5.cell (p := ⟨g3, k * 2 + 1, none⟩) hgW).trans hd2'; have hs5 : B < w5.heap.size ∧ g3 < w5.heap.size := (by have := b5.size; omega))
          | (go_at_call 11; refine (or_any q (ival f (t + 1 - f)) _).mono ?_; rintro e w6 ⟨rfl, b6'⟩; have b6 : Below w5.heap.size w5 w6 := (by first | exact b6' | exact undrew b6'); obtain ⟨x0, x1, x2, x3, x4, x5, x6, x7⟩ := row4 ((R'.s1.keep b5).keep b6); have hx1 := (b6.cell (p := ⟨g3, k * 2, none⟩) hs5.2).trans hz1; have hx2 := (b6.cell (p := ⟨g3, k * 2 + 1, none⟩) hs5.2).trans hz2; have hs6 : B < w6.heap.size := (by have := b6.size; omega)))
      all_goals
        have hsW := R'.below.size
        have hb6 := (R'.below.trans (b5.mono hsW)).trans (b6.mono (Nat.le_trans hsW b5.size))
        have hc6 := (R'.cells.trans (b5.mono (by omega))).trans (b6.mono (by omega))
        have R6 : LawAt w B p (fun x => q x || ival f (t + 1 - f) x) w2 ((((w6.setCell ⟨B, 0, none⟩ (.int .u64 ((wd (fun x => q x || ival f (t + 1 - f) x) 0 : Nat) : Int))).setCell ⟨B, 1, none⟩ (.int .u64 ((wd (fun x => q x || ival f (t + 1 - f) x) 1 : Nat) : Int))).setCell ⟨B, 2, none⟩ (.int .u64 ((wd (fun x => q x || ival f (t + 1 - f) x) 2 : Nat) : Int))).setCell ⟨B, 3, none⟩ (.int .u64 ((wd (fun x => q x || ival f (t + 1 - f) x) 3 : Nat) : Int))) :=
          ⟨((R'.s0.keep b5).keep b6).far4 (by omega) _ _ _ _, ((R'.s1.keep b5).keep b6).set4 _ _ _ _, below4 hb6 (by omega) _ _ _ _, below4 hc6 (Nat.le_refl _) _ _ _ _⟩
        have HR6 := Lib.hid R6
        clear R6 hb6 hc6 x0 x1 x2 x3 x4 x5 x6 x7 y0 y1 y2 y3 y4 y5 y6 y7 q0 q1 q2 q3 q4 q5 q6 q7 hx1 hx2 hz1 hz2 hd1' hd2' R' b5 b6
        go_wp2_with fail
        go_roundw
        case rel => exact ⟨k + 1, by go_num, by omega, by rw [HL.out.1], by rw [HL.out.2]; first | exact HR6.out | exact HR6.out.drew⟩
        case measure => simp [intOf]; omega
    · obtain rfl : k = l.length := by omega
      obtain ⟨r0, r1, r2, r3, r4, r5, r6, r7⟩ := row4 R.s0
      obtain ⟨q0, q1, q2, q3, q4, q5, q6, q7⟩ := row4 R.s1
      have e := (wd_iff (within l l.length) p).2 HF.out.all
      rw [e.1] at q0
      rw [e.2.1] at q1
      rw [e.2.2.1] at q2
      rw [e.2.2.2] at q3
      have hbel := R.below
      have heq := run_eq_set
      clear e R
      go_wp2_with fail
      go_ret
      exact ⟨rfl, hbel⟩
end Go.Proofs.Ytddkloagaiibaaa
