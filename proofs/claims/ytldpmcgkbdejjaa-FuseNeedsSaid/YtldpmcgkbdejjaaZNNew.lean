import Derived.Test.YtldpmcgkbdejjaaZDBase
import Derived.Test.YtldpmcgkbdejjaaZNMath
import Derived.WalkKit
import Derived.ProofKit
import Derived.OpenShut
import Derived.ShutString
import Derived.ChangeOld
import Derived.Below
import Derived.Deep.Slices
import Derived.Deep.Fields
import Derived.ChangeSame
import Derived.LoopTactic
import Derived.BigQuiet
import Derived.Deep.QuietTactic
import Derived.Deep.RegionHeld3
import Derived.Deep.OwnRows
import Derived.IntWalk
import Derived.Deep.RegionWith
import Derived.Deep.AppendLies
import Derived.Deep.DeepCutAuto
namespace Go.Proofs.Ytldpmcgkbdejjaa
open Go.ChangeShapes Go.WideShapes Go.ChangeAt Go.RowKit Go.Deep

set_option maxRecDepth 100000

end Go.Proofs.Ytldpmcgkbdejjaa

namespace Go.Proofs.Ytldpmcgkbdejjaa
open Go.RowKit

end Go.Proofs.Ytldpmcgkbdejjaa

namespace Go.Proofs.Ytldpmcgkbdejjaa
open Go.RowKit


end Go.Proofs.Ytldpmcgkbdejjaa

namespace Go.Proofs.Ytldpmcgkbdejjaa
open Go.RowKit


end Go.Proofs.Ytldpmcgkbdejjaa

namespace Go.Proofs.Ytldpmcgkbdejjaa
open Go.RowKit

theorem Try.info_bool : (Try.prog.info? 4).map (fun i => (i.zero, i.size, i.bytes)) = some (some (.bool false), 1, 1) := by kernel_rfl


end Go.Proofs.Ytldpmcgkbdejjaa

namespace Go.Proofs.Ytldpmcgkbdejjaa
open Go.RowKit
set_option linter.unusedVariables false

theorem St.at_ {w : World} {t g : Nat} {cs : Array Value} (h : St w t g cs) (i : Nat) : w.cell? ⟨g, i, none⟩ = cs[i]? := cell_of_row _ _ _ _ _ _ h
theorem St.thaw_ {w : World} {t g : Nat} {cs : Array Value} (h : St w t g cs) (i : Nat) : w.frozen? ⟨g, i, none⟩ = false := frozen_of_row w g i _ _ h
/-! ### Truths -/
/-- Truths in memory. -/
def BAt (w : World) (a : Option Addr) (n : Nat) (f : Nat → Bool) : Prop := 0 < n → ∃ g off, a = some ⟨g, off, none⟩ ∧ g < w.heap.size ∧ ∀ j, j < n → w.cell? ⟨g, off + j, none⟩ = some (.bool (f j))
theorem BAt.below {w w' : World} {a : Option Addr} {n : Nat} {f : Nat → Bool} (h : BAt w a n f) (k : Below w.heap.size w w') : BAt w' a n f := by
  intro h0
  obtain ⟨g, off, e, hg, hc⟩ := h h0
  have := k.size
  exact ⟨g, off, e, by omega, fun j hj => (k.cell (p := ⟨g, off + j, none⟩) hg).trans (hc j hj)⟩
def bls (f : Nat → Bool) (n : Nat) : List Value := (List.range n).map fun j => .bool (f j)
theorem bls_succ (f : Nat → Bool) (n : Nat) : bls f (n + 1) = bls f n ++ [.bool (f n)] := by simp [bls, List.range_succ]
theorem bls_at {w : World} {B n c : Nat} {a : Option Addr} {f : Nat → Bool} (h : w.ownsRow B 4 1 (.slice a n c) n (bls f n)) : BAt w a n f := by
  intro h0
  obtain ⟨g, e, _, hg, hc⟩ := ownsRow_read h h0
  exact ⟨g, 0, e, hg, fun j hj => by rw [Nat.zero_add, (hc j (by omega)).1]; simp [bls, hj]⟩
theorem own_put {w : World} {base e g n c : Nat} {xs : List Value} (h : w.ownsRow base e 1 (.slice (some ⟨g, 0, none⟩) n c) n xs) (j : Nat) (hj : j < n) (u : Value) : (w.setCell ⟨g, j, none⟩ u).ownsRow base e 1 (.slice (some ⟨g, 0, none⟩) n c) n (xs.set j u) := by
  refine ⟨by rw [List.length_set]; exact h.1, ?_⟩
  rcases h.2 with ⟨h1, _⟩ | ⟨g', cap, cur, h1, h2, h3, h4, h5, h6, h7⟩
  · cases h1
  · injection h1 with e1 _ e3
    injection e1 with e1
    injection e1 with e1
    subst e1 e3
    refine Or.inr ⟨g, c, cur.setIfInBounds j u, rfl, h2, heap_setCell_same w g j cur e u h3, h4, h5, by simpa using h6, ?_⟩
    rw [Array.toList_setIfInBounds, ← h7]
    rw [List.take_set]
theorem bls_setv (f : Nat → Bool) (m n : Nat) (v : Bool) : (bls f m).set n (.bool v) = bls (fun j => if j = n then v else f j) m := by
  apply List.ext_getElem?
  intro i
  rw [List.getElem?_set]
  by_cases hi : i < m
  · by_cases e : n = i
    · subst e
      simp [bls, hi]
    · have e' : ¬ i = n := fun h => e h.symm
      simp only [bls, if_neg e, List.getElem?_map, List.getElem?_range hi, Option.map_some, if_neg e']
  · by_cases e : n = i
    · subst e
      simp [bls, hi]
    · simp [bls, e, List.getElem?_eq_none (by simp; omega : (List.range m).length ≤ i)]
theorem bls_congr {f g : Nat → Bool} {m : Nat} (h : ∀ j, j < m → f j = g j) : bls f m = bls g m := by
  unfold bls
  exact List.map_congr_left (fun j hj => by rw [h j (by simpa using hj)])
theorem nodup_below {l : List Nat} (h : l.Nodup) {m : Nat} (hm : ∀ n ∈ l, n < m) : l.length ≤ m := by
  have := h.length_le_of_subset (l₂ := List.range m) (fun x hx => by simpa using hm x hx)
  simpa using this
theorem make_bl (N : Nat) (hN : N ≤ 2147483647) (W : World) : (Instr.makeSlice 31 (.int .i64 ((N : Nat) : Int)) (.int .i64 ((N : Nat) : Int))).run Try.prog W = .ok (.slice (some ⟨W.heap.size, 0, none⟩) N N) (W.alloc (.cells (madeCells #[.bool false] N) 4)) := by
  have := run_make_row' (P := Try.prog) 31 4 (.bool false) 1 Try.underlying31 Try.info_bool rfl .i64 .i64 N (by omega) (by omega) W
  simpa using this
/-- A row that was just made. -/
theorem made_own (w : World) (base N : Nat) (e : TypeId) (z : Value) (hb : base ≤ w.heap.size) (hN : N ≤ maxLen) : (w.alloc (.cells (madeCells #[z] N) e)).ownsRow base e 1 (.slice (some ⟨w.heap.size, 0, none⟩) N N) N (List.replicate N z) := by
  have e1 : (madeCells #[z] N).toList = List.replicate N z := by
    apply List.ext_getElem?
    intro i
    by_cases hi : i < N
    · simp [madeCells, hi, Nat.mod_one]
    · simp [madeCells, hi]
  rw [← e1]
  exact own_lit w base e 1 _ N (by simp [size_madeCells]) hb hN
theorem rep_bls (N : Nat) : List.replicate N (.bool false) = bls (fun _ => false) N := by
  induction N with
  | zero => rfl
  | succ N ih => rw [List.replicate_succ', ih, bls_succ]
end Go.Proofs.Ytldpmcgkbdejjaa

namespace Go.Proofs.Ytldpmcgkbdejjaa
open Go.RowKit
set_option linter.unusedVariables false





end Go.Proofs.Ytldpmcgkbdejjaa

namespace Go.Proofs.Ytldpmcgkbdejjaa
open Go.RowKit
set_option linter.unusedVariables false


set_option maxHeartbeats 1000000 in
theorem same_yes (n c1 c2 : Nat) (a1 a2 : Option Addr) (f g : Nat → Bool) (hn : n ≤ 1000000) (w : World) (h1 : BAt w a1 n f) (h2 : BAt w a2 n g) (hfg : ∀ j, j < n → f j = g j) :
    Calls Try.prog 11 #[.slice a1 n c1, .slice a2 n c2] w fun e w' => e = .returned (.bool true) ∧ Below w.heap.size w w' := by
  have H := Lib.hid (And.intro h1 (And.intro h2 hfg))
  clear h1 h2 hfg
  go_enter Try.func11, Try.ntmps11
  go_wp2_with fail
  go_loopw [5] (fun i wr => ∃ k : Nat, i = .int .i64 k ∧ k ≤ n ∧ Below w.heap.size w wr) (fun i _ => n - (intOf i).toNat)
  case atStart => exact ⟨0, rfl, Nat.zero_le _, Below.refl _ _⟩
  case round =>
    obtain ⟨k, rfl, hk, hbel⟩ := hrel
    by_cases hlt : k < n
    · obtain ⟨g1, o1, rfl, hg1, q1⟩ := H.out.1.below hbel (by omega)
      obtain ⟨g2, o2, rfl, hg2, q2⟩ := H.out.2.1.below hbel (by omega)
      have d1 := q1 k hlt
      have d2 := q2 k hlt
      rw [H.out.2.2 k hlt] at d1
      generalize g k = v at d1 d2
      have HH := Lib.hid hbel
      have i1 : (k : Int) < (n : Int) := by omega
      clear q1 q2 hbel
      go_wp2_with fail
      rcases v with _ | _
      all_goals
        go_quiet (fail)
        go_wp2_with fail
        go_roundw
        case rel => exact ⟨k + 1, by go_num, by omega, below_drewN HH.out _⟩
        case measure => simp [intOf]; omega
    · obtain rfl : k = n := by omega
      have HH := Lib.hid hbel
      clear hbel
      go_wp2_with fail
      go_ret
      exact ⟨rfl, HH.out⟩


end Go.Proofs.Ytldpmcgkbdejjaa

namespace Go.Proofs.Ytldpmcgkbdejjaa
open Go.RowKit Go.Maps Go.WideElems Go.ChangeMaps Go.MapKept
set_option linter.unusedVariables false

def nums64 (l : List Nat) : List Value := l.map fun n => .int .i64 ((n : Nat) : Int)
theorem nums64_snoc (l : List Nat) (n : Nat) : nums64 (l ++ [n]) = nums64 l ++ [.int .i64 ((n : Nat) : Int)] := by simp [nums64]
theorem nums64_get (l : List Nat) (j : Nat) (h : j < l.length) : (nums64 l)[j]? = some (.int .i64 ((l[j] : Nat) : Int)) := by simp [nums64, List.getElem?_eq_getElem h]
theorem Try.info_int9 : (Try.prog.info? 3).map (fun i => (i.zero, i.size, i.bytes)) = some (some (.int .i64 0), 1, 8) := by kernel_rfl


end Go.Proofs.Ytldpmcgkbdejjaa

namespace Go.Proofs.Ytldpmcgkbdejjaa
open Go.RowKit Go.Maps Go.WideElems Go.ChangeMaps Go.MapKept
set_option linter.unusedVariables false
set_option linter.unusedSimpArgs false

theorem Try.info_ints : (Try.prog.info? 24).map (fun i => (i.zero, i.size, i.bytes)) = some (some (.slice none 0 0), 1, 24) := by kernel_rfl
theorem make_ints (N : Nat) (hN : N ≤ 2147483647) (W : World) : (Instr.makeSlice 23 (.int .i64 ((N : Nat) : Int)) (.int .i64 ((N : Nat) : Int))).run Try.prog W = .ok (.slice (some ⟨W.heap.size, 0, none⟩) N N) (W.alloc (.cells (madeCells #[.slice none 0 0] N) 24)) := by
  have := run_make_row' (P := Try.prog) 23 24 (.slice none 0 0) 24 Try.underlying23 Try.info_ints rfl .i64 .i64 N (by omega) (by omega) W
  simpa using this

/-- Rows of rows of the call's own: block g (of type ts) holds M slices, each of cells of type te. -/
def GridAt (w : World) (B ts te sz g M : Nat) (vs : Nat → Value) (len : Nat → Nat) (xs : Nat → List Value) : Prop :=
  St w ts g ((List.range M).map vs).toArray ∧ (∀ i, i < M → w.ownsRow B te sz (vs i) (len i) (xs i)) ∧ ∀ i j, i < M → j < M → i ≠ j → ∀ b, (vs i).ownBlock = some b → (vs j).ownBlock ≠ some b
theorem GridAt.keep {w w' : World} {B ts te sz g M : Nat} {vs : Nat → Value} {len : Nat → Nat} {xs : Nat → List Value} (h : GridAt w B ts te sz g M vs len xs) (k : Below w.heap.size w w') : GridAt w' B ts te sz g M vs len xs :=
  ⟨h.1.keep k, fun i hi => ownsRow_keep (h.2.1 i hi) k, h.2.2⟩
theorem GridAt.cell {w : World} {B ts te sz g M : Nat} {vs : Nat → Value} {len : Nat → Nat} {xs : Nat → List Value} (h : GridAt w B ts te sz g M vs len xs) (i : Nat) (hi : i < M) : w.cell? ⟨g, i, none⟩ = some (vs i) ∧ w.frozen? ⟨g, i, none⟩ = false :=
  ⟨by rw [h.1.at_]; simp [hi], h.1.thaw_ i⟩
theorem GridAt.congr {w : World} {B ts te sz g M : Nat} {vs : Nat → Value} {len len' : Nat → Nat} {xs xs' : Nat → List Value} (h : GridAt w B ts te sz g M vs len xs) (e : ∀ i, i < M → len i = len' i ∧ xs i = xs' i) : GridAt w B ts te sz g M vs len' xs' :=
  ⟨h.1, fun i hi => by rw [← (e i hi).1, ← (e i hi).2]; exact h.2.1 i hi, h.2.2⟩
theorem GridAt.made (w : World) (B ts te sz M : Nat) : GridAt (w.alloc (.cells (madeCells #[.slice none 0 0] M) ts)) B ts te sz w.heap.size M (fun _ => .slice none 0 0) (fun _ => 0) (fun _ => []) := by
  refine ⟨?_, fun i _ => World.ownsRow_nil _ _ _ _, fun i j _ _ _ b h => by simp [Value.ownBlock] at h⟩
  have e1 : madeCells #[.slice none 0 0] M = ((List.range M).map (fun _ => Value.slice none 0 0)).toArray := by
    apply Array.ext'
    apply List.ext_getElem?
    intro i
    by_cases hi : i < M
    · simp [madeCells, hi, Nat.mod_one]
    · simp [madeCells, hi]
  rw [← e1]
  exact St.new _ _ _
/-- One row has grown, and is stored back. -/
theorem GridAt.app {w w' : World} {B ts te sz g M : Nat} {vs : Nat → Value} {len : Nat → Nat} {xs : Nat → List Value} (h : GridAt w B ts te sz g M vs len xs) (ht : te ≠ ts) {i : Nat} (hi : i < M) {v' : Value} {n' : Nat} {ys : List Value} (ho : w'.ownsRow B te sz v' n' ys) (hg : w.grownBy w' (vs i).ownBlock)
    (hat : ∀ b, v'.ownBlock = some b → (vs i).ownBlock = some b ∨ w.heap.size ≤ b) : GridAt (w'.setCell ⟨g, i, none⟩ v') B ts te sz g M (fun j => if j = i then v' else vs j) (fun j => if j = i then n' else len j) (fun j => if j = i then ys else xs j) := by
  have hs := h.1.grown_own (h.2.1 i hi) ht hg
  have hlt : ∀ j, j < M → ∀ b, (vs j).ownBlock = some b → b < w.heap.size := fun j hj b e => by
    obtain ⟨c, fz, hc⟩ := own_kind (h.2.1 j hj) b e
    exact (Array.getElem?_eq_some_iff.1 hc).1
  refine ⟨?_, fun j hj => ?_, fun j k hj hk hjk b => ?_⟩
  · have := hs.set i v'
    have e : (((List.range M).map vs).toArray).setIfInBounds i v' = ((List.range M).map (fun j => if j = i then v' else vs j)).toArray := by
      apply Array.ext'
      apply List.ext_getElem?
      intro j
      rw [Array.toList_setIfInBounds, List.getElem?_set]
      by_cases e : i = j
      · subst e; simp [hi]
      · have e' : ¬ j = i := fun h => e h.symm
        simp only [if_neg e, List.getElem?_map]
        by_cases hj : j < M
        · simp [hj, e']
        · simp [hj]
    rw [e] at this
    exact this
  · by_cases e : j = i
    · subst e
      simp only [if_pos rfl]
      exact own_set ho hs ht j v'
    · simp only [if_neg e]
      refine own_set (own_grown (h.2.1 j hj) hg (fun b e1 e2 => h.2.2 j i hj hi e b e1 e2.symm)) hs ht i v'
  · by_cases e1 : j = i
    · subst e1
      have e2 : ¬ k = j := fun e => hjk e.symm
      simp only [if_pos rfl, if_neg e2]
      intro e3 e4
      rcases hat b e3 with h1 | h1
      · exact h.2.2 j k hj hk hjk b h1 e4
      · have := hlt k hk b e4; omega
    · by_cases e2 : k = i
      · subst e2
        simp only [if_pos rfl, if_neg e1]
        intro e3 e4
        rcases hat b e4 with h1 | h1
        · exact h.2.2 j k hj hk hjk b e3 h1
        · have := hlt j hj b e3; omega
      · simp only [if_neg e1, if_neg e2]
        exact h.2.2 j k hj hk hjk b
end Go.Proofs.Ytldpmcgkbdejjaa

namespace Go.Proofs.Ytldpmcgkbdejjaa
open Go.RowKit Go.Maps Go.WideElems Go.ChangeMaps Go.MapKept
set_option linter.unusedVariables false
set_option linter.unusedSimpArgs false


theorem al (w : World) (o : Obj) : Below w.heap.size w (w.alloc o) := (Below.refl _ _).alloc (Nat.le_refl _) _


end Go.Proofs.Ytldpmcgkbdejjaa
