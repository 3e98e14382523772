import Derived.Test.YtgmcfgkjhobiaaaZDBase
import Derived.Test.YtgmcfgkjhobiaaaZNMath
import Derived.WalkKit
import Derived.ProofKit
import Derived.OpenShut
import Derived.ShutString
import Derived.ChangeOld
import Derived.Below
import Derived.Deep.Slices
import Derived.Deep.Fields
import Derived.ChangeSame
import Derived.LoopTactic
import Derived.BigQuiet
import Derived.Deep.QuietTactic
import Derived.Deep.RegionHeld3
import Derived.Deep.OwnRows
import Derived.IntWalk
import Derived.Deep.RegionWith
import Derived.Deep.AppendLies
import Derived.Deep.DeepCutAuto
namespace Go.Proofs.Ytgmcfgkjhobiaaa
open Go.ChangeShapes Go.WideShapes Go.ChangeAt Go.RowKit Go.Deep

set_option maxRecDepth 100000

end Go.Proofs.Ytgmcfgkjhobiaaa

namespace Go.Proofs.Ytgmcfgkjhobiaaa
open Go.RowKit

end Go.Proofs.Ytgmcfgkjhobiaaa

namespace Go.Proofs.Ytgmcfgkjhobiaaa
open Go.RowKit


end Go.Proofs.Ytgmcfgkjhobiaaa

namespace Go.Proofs.Ytgmcfgkjhobiaaa
open Go.RowKit

theorem div_pow (x k : Nat) : x / 2 ^ k / 2 = x / 2 ^ (k + 1) := by rw [Nat.div_div_eq_div_mul, Nat.pow_succ]

end Go.Proofs.Ytgmcfgkjhobiaaa

namespace Go.Proofs.Ytgmcfgkjhobiaaa
open Go.RowKit

theorem Try.info_bool : (Try.prog.info? 4).map (fun i => (i.zero, i.size, i.bytes)) = some (some (.bool false), 1, 1) := by kernel_rfl
theorem undrew2 {W w' : World} (h : Below W.drew.heap.size W.drew w') : Below W.heap.size W w' := ⟨h.os, h.tape, h.output, h.size, h.block⟩

/-- The first k truths of a set. -/
def tru (g : Nat → Bool) (k : Nat) : List Value := (List.range k).map fun i => .bool (g i)
theorem tru_snoc (g : Nat → Bool) (k : Nat) : tru g (k + 1) = tru g k ++ [.bool (g k)] := by simp [tru, List.range_succ]
theorem tru_length (g : Nat → Bool) (k : Nat) : (tru g k).length = k := by simp [tru]
theorem tru_get (g : Nat → Bool) (k j : Nat) (h : j < k) : (tru g k)[j]? = some (.bool (g j)) := by simp [tru, h]

end Go.Proofs.Ytgmcfgkjhobiaaa

namespace Go.Proofs.Ytgmcfgkjhobiaaa
open Go.RowKit
set_option linter.unusedVariables false

/-- An edge as it lies there: its ends may be no states. -/
structure Eg where
  f : Int
  t : Int
  p : Nat → Bool
  b : Bool
def En.z (e : En) : Eg := ⟨(e.f : Int), (e.t : Int), e.p, e.b⟩
def egCells (x : Eg) : List Value := (#[.int .i64 x.f, .int .i64 x.t, .int .u64 ((wd x.p 0 : Nat) : Int), .int .u64 ((wd x.p 1 : Nat) : Int), .int .u64 ((wd x.p 2 : Nat) : Int), .int .u64 ((wd x.p 3 : Nat) : Int), .bool x.b]).toList
def egs (l : List Eg) : List Value := l.flatMap egCells
theorem egs_length (l : List Eg) : (egs l).length = l.length * 7 := by
  induction l with
  | nil => rfl
  | cons x l ih => simp [egs, egCells] at ih ⊢; omega
theorem egs_append (a b : List Eg) : egs (a ++ b) = egs a ++ egs b := by simp [egs]
theorem egs_get (l : List Eg) (i : Nat) (h : i < l.length) (j : Nat) (hj : j < 7) : (egs l)[i * 7 + j]? = (egCells l[i])[j]? := by
  induction l generalizing i with
  | nil => simp at h
  | cons x l ih =>
    have hc : (egCells x).length = 7 := by simp [egCells]
    show (egCells x ++ egs l)[i * 7 + j]? = _
    match i, h with
    | 0, _ =>
      rw [Nat.zero_mul, Nat.zero_add, List.getElem?_append_left (by omega)]
      rfl
    | i + 1, h =>
      rw [List.getElem?_append_right (by omega), hc, show (i + 1) * 7 + j - 7 = i * 7 + j by omega, ih i (by simpa using h)]
      rfl
/-- Edges in memory. -/
def EdAt (w : World) (a : Option Addr) (l : List Eg) : Prop := 0 < l.length → ∃ g off, a = some ⟨g, off, none⟩ ∧ g < w.heap.size ∧ ∀ j, j < l.length * 7 → w.cell? ⟨g, off + j, none⟩ = (egs l)[j]?
theorem EdAt.below {w w' : World} {a : Option Addr} {l : List Eg} (h : EdAt w a l) (k : Below w.heap.size w w') : EdAt w' a l := by
  intro h0
  obtain ⟨g, off, rfl, hg, hc⟩ := h h0
  have := k.size
  exact ⟨g, off, rfl, by omega, fun j hj => (k.cell (p := ⟨g, off + j, none⟩) hg).trans (hc j hj)⟩
def At7 (w : World) (g o : Nat) (x : Eg) : Prop :=
  w.cell? ⟨g, o, none⟩ = some (.int .i64 x.f) ∧ w.cell? ⟨g, o + 1, none⟩ = some (.int .i64 x.t) ∧ w.cell? ⟨g, o + 2, none⟩ = some (.int .u64 ((wd x.p 0 : Nat) : Int)) ∧ w.cell? ⟨g, o + 3, none⟩ = some (.int .u64 ((wd x.p 1 : Nat) : Int)) ∧
    w.cell? ⟨g, o + 4, none⟩ = some (.int .u64 ((wd x.p 2 : Nat) : Int)) ∧ w.cell? ⟨g, o + 5, none⟩ = some (.int .u64 ((wd x.p 3 : Nat) : Int)) ∧ w.cell? ⟨g, o + 6, none⟩ = some (.bool x.b)
/-- The cells of one edge. -/
theorem EdAt.get {w : World} {a : Option Addr} {l : List Eg} (h : EdAt w a l) (k : Nat) (hk : k < l.length) :
    ∃ g off, a = some ⟨g, off, none⟩ ∧ g < w.heap.size ∧ At7 w g (off + k * 7) l[k] := by
  obtain ⟨g, off, rfl, hg, hc⟩ := h (by omega)
  refine ⟨g, off, rfl, hg, ?_, ?_, ?_, ?_, ?_, ?_, ?_⟩
  · have := egs_get l k hk 0 (by omega)
    rw [hc _ (by omega)]; exact this
  all_goals
    rw [Nat.add_assoc, hc _ (by omega), egs_get l k hk _ (by omega)]
    rfl
theorem At7.below {w w' : World} {g o : Nat} {x : Eg} (h : At7 w g o x) (hg : g < w.heap.size) (k : Below w.heap.size w w') : At7 w' g o x :=
  ⟨(k.cell (p := ⟨g, o, none⟩) hg).trans h.1, (k.cell (p := ⟨g, o + 1, none⟩) hg).trans h.2.1, (k.cell (p := ⟨g, o + 2, none⟩) hg).trans h.2.2.1, (k.cell (p := ⟨g, o + 3, none⟩) hg).trans h.2.2.2.1,
    (k.cell (p := ⟨g, o + 4, none⟩) hg).trans h.2.2.2.2.1, (k.cell (p := ⟨g, o + 5, none⟩) hg).trans h.2.2.2.2.2.1, (k.cell (p := ⟨g, o + 6, none⟩) hg).trans h.2.2.2.2.2.2⟩
theorem St.cells4 {w : World} {g : Nat} {c0 c1 c2 c3 : Value} {t : TypeId} (h : St w t g #[c0, c1, c2, c3]) : w.cell? ⟨g, 0, none⟩ = some c0 ∧ w.cell? ⟨g, 1, none⟩ = some c1 ∧ w.cell? ⟨g, 2, none⟩ = some c2 ∧ w.cell? ⟨g, 3, none⟩ = some c3 := by
  obtain ⟨h0, h1, h2, h3, _⟩ := row4 h
  exact ⟨h0, h1, h2, h3⟩
theorem St.at_ {w : World} {t g : Nat} {cs : Array Value} (h : St w t g cs) (i : Nat) : w.cell? ⟨g, i, none⟩ = cs[i]? := cell_of_row _ _ _ _ _ _ h
theorem St.thaw_ {w : World} {t g : Nat} {cs : Array Value} (h : St w t g cs) (i : Nat) : w.frozen? ⟨g, i, none⟩ = false := frozen_of_row w g i _ _ h
/-! ### Truths -/
/-- Truths in memory. -/
def BAt (w : World) (a : Option Addr) (n : Nat) (f : Nat → Bool) : Prop := 0 < n → ∃ g off, a = some ⟨g, off, none⟩ ∧ g < w.heap.size ∧ ∀ j, j < n → w.cell? ⟨g, off + j, none⟩ = some (.bool (f j))
theorem BAt.below {w w' : World} {a : Option Addr} {n : Nat} {f : Nat → Bool} (h : BAt w a n f) (k : Below w.heap.size w w') : BAt w' a n f := by
  intro h0
  obtain ⟨g, off, e, hg, hc⟩ := h h0
  have := k.size
  exact ⟨g, off, e, by omega, fun j hj => (k.cell (p := ⟨g, off + j, none⟩) hg).trans (hc j hj)⟩
def bls (f : Nat → Bool) (n : Nat) : List Value := (List.range n).map fun j => .bool (f j)
theorem bls_succ (f : Nat → Bool) (n : Nat) : bls f (n + 1) = bls f n ++ [.bool (f n)] := by simp [bls, List.range_succ]
theorem bls_len (f : Nat → Bool) (n : Nat) : (bls f n).length = n := by simp [bls]
theorem bls_at {w : World} {B n c : Nat} {a : Option Addr} {f : Nat → Bool} (h : w.ownsRow B 4 1 (.slice a n c) n (bls f n)) : BAt w a n f := by
  intro h0
  obtain ⟨g, e, _, hg, hc⟩ := ownsRow_read h h0
  exact ⟨g, 0, e, hg, fun j hj => by rw [Nat.zero_add, (hc j (by omega)).1]; simp [bls, hj]⟩
theorem own_put {w : World} {base e g n c : Nat} {xs : List Value} (h : w.ownsRow base e 1 (.slice (some ⟨g, 0, none⟩) n c) n xs) (j : Nat) (hj : j < n) (u : Value) : (w.setCell ⟨g, j, none⟩ u).ownsRow base e 1 (.slice (some ⟨g, 0, none⟩) n c) n (xs.set j u) := by
  refine ⟨by rw [List.length_set]; exact h.1, ?_⟩
  rcases h.2 with ⟨h1, _⟩ | ⟨g', cap, cur, h1, h2, h3, h4, h5, h6, h7⟩
  · cases h1
  · injection h1 with e1 _ e3
    injection e1 with e1
    injection e1 with e1
    subst e1 e3
    refine Or.inr ⟨g, c, cur.setIfInBounds j u, rfl, h2, heap_setCell_same w g j cur e u h3, h4, h5, by simpa using h6, ?_⟩
    rw [Array.toList_setIfInBounds, ← h7]
    rw [List.take_set]
theorem bls_setv (f : Nat → Bool) (m n : Nat) (v : Bool) : (bls f m).set n (.bool v) = bls (fun j => if j = n then v else f j) m := by
  apply List.ext_getElem?
  intro i
  rw [List.getElem?_set]
  by_cases hi : i < m
  · by_cases e : n = i
    · subst e
      simp [bls, hi]
    · have e' : ¬ i = n := fun h => e h.symm
      simp only [bls, if_neg e, List.getElem?_map, List.getElem?_range hi, Option.map_some, if_neg e']
  · by_cases e : n = i
    · subst e
      simp [bls, hi]
    · simp [bls, e, List.getElem?_eq_none (by simp; omega : (List.range m).length ≤ i)]
theorem bls_congr {f g : Nat → Bool} {m : Nat} (h : ∀ j, j < m → f j = g j) : bls f m = bls g m := by
  unfold bls
  exact List.map_congr_left (fun j hj => by rw [h j (by simpa using hj)])
theorem ins_if (f : Nat → Bool) (n : Nat) : (fun j => if j = n then true else f j) = ins f n := by
  funext j
  by_cases h : j = n <;> simp [ins, h]
theorem nodup_below {l : List Nat} (h : l.Nodup) {m : Nat} (hm : ∀ n ∈ l, n < m) : l.length ≤ m := by
  have := h.length_le_of_subset (l₂ := List.range m) (fun x hx => by simpa using hm x hx)
  simpa using this
theorem make_bl (N : Nat) (hN : N ≤ 2147483647) (W : World) : (Instr.makeSlice 48 (.int .i64 ((N : Nat) : Int)) (.int .i64 ((N : Nat) : Int))).run Try.prog W = .ok (.slice (some ⟨W.heap.size, 0, none⟩) N N) (W.alloc (.cells (madeCells #[.bool false] N) 4)) := by
  have := run_make_row' (P := Try.prog) 48 4 (.bool false) 1 Try.underlying48 Try.info_bool rfl .i64 .i64 N (by omega) (by omega) W
  simpa using this
/-- A row that was just made. -/
theorem made_own (w : World) (base N : Nat) (e : TypeId) (z : Value) (hb : base ≤ w.heap.size) (hN : N ≤ maxLen) : (w.alloc (.cells (madeCells #[z] N) e)).ownsRow base e 1 (.slice (some ⟨w.heap.size, 0, none⟩) N N) N (List.replicate N z) := by
  have e1 : (madeCells #[z] N).toList = List.replicate N z := by
    apply List.ext_getElem?
    intro i
    by_cases hi : i < N
    · simp [madeCells, hi, Nat.mod_one]
    · simp [madeCells, hi]
  rw [← e1]
  exact own_lit w base e 1 _ N (by simp [size_madeCells]) hb hN
theorem rep_bls (N : Nat) : List.replicate N (.bool false) = bls (fun _ => false) N := by
  induction N with
  | zero => rfl
  | succ N ih => rw [List.replicate_succ', ih, bls_succ]
end Go.Proofs.Ytgmcfgkjhobiaaa

namespace Go.Proofs.Ytgmcfgkjhobiaaa
open Go.RowKit
set_option linter.unusedVariables false

def stB (S s : Int) : Bool := decide (0 ≤ s) && decide (s < S)
theorem stB_no {S s : Int} (h : ¬ 0 ≤ s) : stB S s = false := by simp [stB, h]
theorem stB_yes {S s : Int} (h : 0 ≤ s) : stB S s = decide (s < S) := by simp [stB, h]
theorem stB_iff {S s : Int} : stB S s = true ↔ 0 ≤ s ∧ s < S := by simp [stB]
/-- Are the ends of an edge states? -/
def edB (S : Int) (e : Eg) : Bool := stB S e.f && stB S e.t
def riB (S : Int) (L : List Eg) (F T : Int) : Bool := L.all (edB S) && (stB S F && stB S T)




end Go.Proofs.Ytgmcfgkjhobiaaa

namespace Go.Proofs.Ytgmcfgkjhobiaaa
open Go.RowKit
set_option linter.unusedVariables false

/-- An automaton all of whose states are there. -/
structure Ok (L : List En) (N F T : Nat) : Prop where
  f : F < N
  t : T < N
  e : ∀ e ∈ L, e.f < N ∧ e.t < N
theorem right_nat {S F T : Int} {L : List Eg} (h : riB S L F T = true) : ∃ (N F' T' : Nat) (L' : List En), S = (N : Int) ∧ F = (F' : Int) ∧ T = (T' : Int) ∧ L = L'.map En.z ∧ Ok L' N F' T' := by
  simp only [riB, Bool.and_eq_true, List.all_eq_true, edB, stB_iff] at h
  obtain ⟨h1, ⟨h2, h3⟩, h4, h5⟩ := h
  have hL : ∀ L : List Eg, (∀ e ∈ L, (0 ≤ e.f ∧ e.f < S) ∧ 0 ≤ e.t ∧ e.t < S) → ∃ L' : List En, L = L'.map En.z ∧ ∀ e ∈ L', e.f < S.toNat ∧ e.t < S.toNat := by
    intro L
    induction L with
    | nil => exact fun _ => ⟨[], rfl, by simp⟩
    | cons x r ih =>
      intro h
      obtain ⟨L', h6, h7⟩ := ih (fun e he => h e (by simp [he]))
      have hx := h x (by simp)
      refine ⟨⟨x.f.toNat, x.t.toNat, x.p, x.b⟩ :: L', ?_, ?_⟩
      · rw [h6]
        simp only [List.map_cons, En.z]
        congr 1
        obtain ⟨xf, xt, xp, xb⟩ := x
        simp at hx ⊢
        omega
      · intro e he
        rcases List.mem_cons.1 he with rfl | he
        · exact ⟨by show x.f.toNat < _; omega, by show x.t.toNat < _; omega⟩
        · exact h7 e he
  obtain ⟨L', h6, h7⟩ := hL L h1
  exact ⟨S.toNat, F.toNat, T.toNat, L', by omega, by omega, by omega, h6, by omega, by omega, h7⟩
def At7n (w : World) (g o : Nat) (x : En) : Prop :=
  w.cell? ⟨g, o, none⟩ = some (.int .i64 ((x.f : Nat) : Int)) ∧ w.cell? ⟨g, o + 1, none⟩ = some (.int .i64 ((x.t : Nat) : Int)) ∧ w.cell? ⟨g, o + 2, none⟩ = some (.int .u64 ((wd x.p 0 : Nat) : Int)) ∧ w.cell? ⟨g, o + 3, none⟩ = some (.int .u64 ((wd x.p 1 : Nat) : Int)) ∧
    w.cell? ⟨g, o + 4, none⟩ = some (.int .u64 ((wd x.p 2 : Nat) : Int)) ∧ w.cell? ⟨g, o + 5, none⟩ = some (.int .u64 ((wd x.p 3 : Nat) : Int)) ∧ w.cell? ⟨g, o + 6, none⟩ = some (.bool x.b)
theorem EdAt.getN {w : World} {a : Option Addr} {l : List En} (h : EdAt w a (l.map En.z)) (k : Nat) (hk : k < l.length) :
    ∃ g off, a = some ⟨g, off, none⟩ ∧ g < w.heap.size ∧ At7n w g (off + k * 7) l[k] := by
  obtain ⟨g, off, h1, h2, h3⟩ := h.get k (by simpa using hk)
  rw [List.getElem_map] at h3
  exact ⟨g, off, h1, h2, h3⟩
/-- What a set of states is told by. -/
def SetPost (w : World) (N : Nat) (P : Nat → Prop) (e : Ending) (w' : World) : Prop :=
  ∃ (f : Nat → Bool) (a : Option Addr) (c : Nat), e = .returned (.slice a N c) ∧ w'.ownsRow w.heap.size 4 1 (.slice a N c) N (bls f N) ∧ (∀ x, f x = true ↔ P x) ∧ Below w.heap.size w w'
def On (g : Nat → Bool) (m : Nat) (x : Nat) : Prop := x < m ∧ g x = true


theorem mv_succ {L : List En} {A : Nat → Prop} {c k : Nat} (hk : k < L.length) (y : Nat) : Mv (L.take (k + 1)) A c y ↔ Mv (L.take k) A c y ∨ (L[k].b = false ∧ L[k].p c = true ∧ A L[k].f ∧ L[k].t = y) := by
  rw [List.take_succ_eq_append_getElem hk]
  constructor
  · rintro ⟨e, h1, h2⟩
    rcases List.mem_append.1 h1 with h | h
    · exact Or.inl ⟨e, h, h2⟩
    · rw [List.mem_singleton.1 h] at h2; exact Or.inr h2
  · rintro (⟨e, h1, h2⟩ | h)
    · exact ⟨e, List.mem_append_left _ h1, h2⟩
    · exact ⟨L[k], List.mem_append_right _ (List.mem_singleton.2 rfl), h⟩

end Go.Proofs.Ytgmcfgkjhobiaaa

namespace Go.Proofs.Ytgmcfgkjhobiaaa
open Go.RowKit Go.Maps Go.WideElems Go.ChangeMaps Go.MapKept
set_option linter.unusedVariables false

def nums64 (l : List Nat) : List Value := l.map fun n => .int .i64 ((n : Nat) : Int)
theorem nums64_snoc (l : List Nat) (n : Nat) : nums64 (l ++ [n]) = nums64 l ++ [.int .i64 ((n : Nat) : Int)] := by simp [nums64]
theorem nums64_len (l : List Nat) : (nums64 l).length = l.length := by simp [nums64]
theorem nums64_get (l : List Nat) (j : Nat) (h : j < l.length) : (nums64 l)[j]? = some (.int .i64 ((l[j] : Nat) : Int)) := by simp [nums64, List.getElem?_eq_getElem h]
theorem law_int9 : Keyed Try.prog 3 := int_keyed Try.underlying3
theorem zero_int9 (w : World) : (zeroValue 3).run Try.prog w = .ok (.int .i64 0) w := by kernel_rfl
theorem Try.info_int9 : (Try.prog.info? 3).map (fun i => (i.zero, i.size, i.bytes)) = some (some (.int .i64 0), 1, 8) := by kernel_rfl
theorem int_key9 (k : Nat) (hk : k ≤ 9223372036854775807) : keyOf Try.prog 3 (.int .i64 ((k : Nat) : Int)) = some (.int .i64 ((k : Nat) : Int)) := by
  have hw : (Lit.int .i64 ((k : Nat) : Int)).wf = true := wf64 (by omega)
  unfold keyOf
  simp [Try.underlying3, mapKey, hw]
theorem key_inj9 {a b : Nat} (h : (Value.int .i64 ((a : Nat) : Int)) = .int .i64 ((b : Nat) : Int)) : a = b := by
  injection h with _ h
  exact Int.ofNat.inj h
/-- A look-up, with what it says of the keys. -/
theorem MapEx.look2 {w : World} {k t e : TypeId} {b n : Nat} {Q : Value → Value → Prop} (h : MapEx w k b n Q) (K : Keyed Try.prog k) (ht : Try.prog.underlying t = some (.map k e)) {z : Value} (hz : (zeroValue e).run Try.prog w = .ok z w)
    {key : Value} {kl : Lit} (hkey : keyOf Try.prog k key = some kl) :
    ((Instr.lookup t (.map (some b)) key true).run Try.prog w = .ok (.tuple #[z, .bool false]) w ∧ ∀ y, ¬ Q key y) ∨ ∃ v, Q key v ∧ (Instr.lookup t (.map (some b)) key true).run Try.prog w = .ok (.tuple #[v, .bool true]) w := by
  obtain ⟨es, clock, hb, F, _, hq, hall⟩ := h
  rcases Maps.fit_look true K ht hz hb F hkey with ⟨hrun, hno, _⟩ | ⟨e0, y, hm, hk, hrun, _⟩
  · refine Or.inl ⟨by simpa using hrun, fun y hy => ?_⟩
    obtain ⟨e1, h1, h2⟩ := hall _ _ hy
    exact hno e1 h1 h2
  · exact Or.inr ⟨e0.val, by rw [← hk]; exact hq e0 hm, by simpa using hrun⟩

/-- Which number a name has. -/
def NmQ (nm : List Nat) (x y : Value) : Prop := ∃ k s : Nat, nm[k]? = some s ∧ x = .int .i64 ((s : Nat) : Int) ∧ y = .int .i64 ((k : Nat) : Int)
/-- Names and their numbers, in two variables. -/
structure NumAt (w : World) (B bMv bNv bM : Nat) (vN : Value) (nm : List Nat) : Prop where
  sM : St w 77 bMv #[.map (some bM)]
  sN : St w 24 bNv #[vN]
  own : w.ownsRow B 3 1 vN nm.length (nums64 nm)
  map : MapEx w 3 bM nm.length (NmQ nm)
  nd : nm.Nodup
  le : ∀ x ∈ nm, x ≤ 9223372036854775807
  bM : B ≤ bM
  bN : B ≤ bNv
theorem NumAt.keep {w w' : World} {B bMv bNv bM : Nat} {vN : Value} {nm : List Nat} (h : NumAt w B bMv bNv bM vN nm) (k : Below w.heap.size w w') : NumAt w' B bMv bNv bM vN nm :=
  ⟨h.sM.keep k, h.sN.keep k, ownsRow_keep h.own k, h.map.same (k.block _ h.map.lt), h.nd, h.le, h.bM, h.bN⟩
def NumPost (w : World) (B bMv bNv bM : Nat) (nm : List Nat) (s : Nat) (e : Ending) (w' : World) : Prop :=
  ∃ (k : Nat) (nm' : List Nat) (vN' : Value), e = .returned (.int .i64 ((k : Nat) : Int)) ∧ NumAt w' B bMv bNv bM vN' nm' ∧ nm'[k]? = some s ∧ (nm' = nm ∨ nm' = nm ++ [s]) ∧ Below B w w' ∧ Kept [3] [bM, bNv] w w'

end Go.Proofs.Ytgmcfgkjhobiaaa

namespace Go.Proofs.Ytgmcfgkjhobiaaa
open Go.RowKit Go.Maps Go.WideElems Go.ChangeMaps Go.MapKept
set_option linter.unusedVariables false
set_option linter.unusedSimpArgs false

theorem Try.info_ints : (Try.prog.info? 24).map (fun i => (i.zero, i.size, i.bytes)) = some (some (.slice none 0 0), 1, 24) := by kernel_rfl
theorem make_ints (N : Nat) (hN : N ≤ 2147483647) (W : World) : (Instr.makeSlice 23 (.int .i64 ((N : Nat) : Int)) (.int .i64 ((N : Nat) : Int))).run Try.prog W = .ok (.slice (some ⟨W.heap.size, 0, none⟩) N N) (W.alloc (.cells (madeCells #[.slice none 0 0] N) 24)) := by
  have := run_make_row' (P := Try.prog) 23 24 (.slice none 0 0) 24 Try.underlying23 Try.info_ints rfl .i64 .i64 N (by omega) (by omega) W
  simpa using this

/-- Rows of rows of the call's own: block g (of type ts) holds M slices, each of cells of type te. -/
def GridAt (w : World) (B ts te sz g M : Nat) (vs : Nat → Value) (len : Nat → Nat) (xs : Nat → List Value) : Prop :=
  St w ts g ((List.range M).map vs).toArray ∧ (∀ i, i < M → w.ownsRow B te sz (vs i) (len i) (xs i)) ∧ ∀ i j, i < M → j < M → i ≠ j → ∀ b, (vs i).ownBlock = some b → (vs j).ownBlock ≠ some b
theorem GridAt.keep {w w' : World} {B ts te sz g M : Nat} {vs : Nat → Value} {len : Nat → Nat} {xs : Nat → List Value} (h : GridAt w B ts te sz g M vs len xs) (k : Below w.heap.size w w') : GridAt w' B ts te sz g M vs len xs :=
  ⟨h.1.keep k, fun i hi => ownsRow_keep (h.2.1 i hi) k, h.2.2⟩
theorem GridAt.cell {w : World} {B ts te sz g M : Nat} {vs : Nat → Value} {len : Nat → Nat} {xs : Nat → List Value} (h : GridAt w B ts te sz g M vs len xs) (i : Nat) (hi : i < M) : w.cell? ⟨g, i, none⟩ = some (vs i) ∧ w.frozen? ⟨g, i, none⟩ = false :=
  ⟨by rw [h.1.at_]; simp [hi], h.1.thaw_ i⟩
theorem GridAt.congr {w : World} {B ts te sz g M : Nat} {vs : Nat → Value} {len len' : Nat → Nat} {xs xs' : Nat → List Value} (h : GridAt w B ts te sz g M vs len xs) (e : ∀ i, i < M → len i = len' i ∧ xs i = xs' i) : GridAt w B ts te sz g M vs len' xs' :=
  ⟨h.1, fun i hi => by rw [← (e i hi).1, ← (e i hi).2]; exact h.2.1 i hi, h.2.2⟩
theorem GridAt.made (w : World) (B ts te sz M : Nat) : GridAt (w.alloc (.cells (madeCells #[.slice none 0 0] M) ts)) B ts te sz w.heap.size M (fun _ => .slice none 0 0) (fun _ => 0) (fun _ => []) := by
  refine ⟨?_, fun i _ => World.ownsRow_nil _ _ _ _, fun i j _ _ _ b h => by simp [Value.ownBlock] at h⟩
  have e1 : madeCells #[.slice none 0 0] M = ((List.range M).map (fun _ => Value.slice none 0 0)).toArray := by
    apply Array.ext'
    apply List.ext_getElem?
    intro i
    by_cases hi : i < M
    · simp [madeCells, hi, Nat.mod_one]
    · simp [madeCells, hi]
  rw [← e1]
  exact St.new _ _ _
/-- A store into a block of yet another type. -/
theorem GridAt.far {w : World} {B ts te sz g M : Nat} {vs : Nat → Value} {len : Nat → Nat} {xs : Nat → List Value} (h : GridAt w B ts te sz g M vs len xs) {t b : Nat} {cs : Array Value} (hs : St w t b cs) (h1 : ts ≠ t) (h2 : te ≠ t) (i : Nat) (u : Value) : GridAt (w.setCell ⟨b, i, none⟩ u) B ts te sz g M vs len xs :=
  ⟨h.1.set_far hs h1 i u, fun j hj => own_set (h.2.1 j hj) hs h2 i u, h.2.2⟩
/-- What grew is a row of another type. -/
theorem GridAt.grown_own {w w' : World} {B ts te sz g M : Nat} {vs : Nat → Value} {len : Nat → Nat} {xs : Nat → List Value} (h : GridAt w B ts te sz g M vs len xs) {B' t size n : Nat} {v : Value} {ys : List Value} (ho : w.ownsRow B' t size v n ys) (h1 : t ≠ ts) (h2 : t ≠ te) (hg : w.grownBy w' v.ownBlock) : GridAt w' B ts te sz g M vs len xs :=
  ⟨h.1.grown_own ho h1 hg, fun j hj => own_grown_own (h.2.1 j hj) ho h2 hg, h.2.2⟩
/-- One row has grown, and is stored back. -/
theorem GridAt.app {w w' : World} {B ts te sz g M : Nat} {vs : Nat → Value} {len : Nat → Nat} {xs : Nat → List Value} (h : GridAt w B ts te sz g M vs len xs) (ht : te ≠ ts) {i : Nat} (hi : i < M) {v' : Value} {n' : Nat} {ys : List Value} (ho : w'.ownsRow B te sz v' n' ys) (hg : w.grownBy w' (vs i).ownBlock)
    (hat : ∀ b, v'.ownBlock = some b → (vs i).ownBlock = some b ∨ w.heap.size ≤ b) : GridAt (w'.setCell ⟨g, i, none⟩ v') B ts te sz g M (fun j => if j = i then v' else vs j) (fun j => if j = i then n' else len j) (fun j => if j = i then ys else xs j) := by
  have hs := h.1.grown_own (h.2.1 i hi) ht hg
  have hlt : ∀ j, j < M → ∀ b, (vs j).ownBlock = some b → b < w.heap.size := fun j hj b e => by
    obtain ⟨c, fz, hc⟩ := own_kind (h.2.1 j hj) b e
    exact (Array.getElem?_eq_some_iff.1 hc).1
  refine ⟨?_, fun j hj => ?_, fun j k hj hk hjk b => ?_⟩
  · have := hs.set i v'
    have e : (((List.range M).map vs).toArray).setIfInBounds i v' = ((List.range M).map (fun j => if j = i then v' else vs j)).toArray := by
      apply Array.ext'
      apply List.ext_getElem?
      intro j
      rw [Array.toList_setIfInBounds, List.getElem?_set]
      by_cases e : i = j
      · subst e; simp [hi]
      · have e' : ¬ j = i := fun h => e h.symm
        simp only [if_neg e, List.getElem?_map]
        by_cases hj : j < M
        · simp [hj, e']
        · simp [hj]
    rw [e] at this
    exact this
  · by_cases e : j = i
    · subst e
      simp only [if_pos rfl]
      exact own_set ho hs ht j v'
    · simp only [if_neg e]
      refine own_set (own_grown (h.2.1 j hj) hg (fun b e1 e2 => h.2.2 j i hj hi e b e1 e2.symm)) hs ht i v'
  · by_cases e1 : j = i
    · subst e1
      have e2 : ¬ k = j := fun e => hjk e.symm
      simp only [if_pos rfl, if_neg e2]
      intro e3 e4
      rcases hat b e3 with h1 | h1
      · exact h.2.2 j k hj hk hjk b h1 e4
      · have := hlt k hk b e4; omega
    · by_cases e2 : k = i
      · subst e2
        simp only [if_pos rfl, if_neg e1]
        intro e3 e4
        rcases hat b e4 with h1 | h1
        · exact h.2.2 j k hj hk hjk b e3 h1
        · have := hlt j hj b e3; omega
      · simp only [if_neg e1, if_neg e2]
        exact h.2.2 j k hj hk hjk b
/-- The rows by their states. -/
def rowF (L : List En) (i : Nat) : List Nat := (L.filter fun e => e.b && e.f == i).map (·.t)
def rowB (L : List En) (i : Nat) : List En := L.filter fun e => !e.b && e.f == i
theorem rowF_snoc (L : List En) (x : En) (i : Nat) : rowF (L ++ [x]) i = if x.b = true ∧ x.f = i then rowF L i ++ [x.t] else rowF L i := by
  unfold rowF
  rw [List.filter_append, List.map_append]
  by_cases h : x.b = true ∧ x.f = i
  · rw [if_pos h]; simp [h.1, h.2]
  · rw [if_neg h]
    by_cases hb : x.b = true
    · have : ¬ x.f = i := fun e => h ⟨hb, e⟩
      simp [hb, this]
    · simp [hb]
theorem rowB_snoc (L : List En) (x : En) (i : Nat) : rowB (L ++ [x]) i = if x.b = false ∧ x.f = i then rowB L i ++ [x] else rowB L i := by
  unfold rowB
  rw [List.filter_append]
  by_cases h : x.b = false ∧ x.f = i
  · rw [if_pos h]; simp [h.1, h.2]
  · rw [if_neg h]
    by_cases hb : x.b = false
    · have : ¬ x.f = i := fun e => h ⟨hb, e⟩
      simp [hb, this]
    · simp [hb]
theorem rowF_len (L : List En) (i : Nat) : (rowF L i).length ≤ L.length := by simp [rowF]; exact List.length_filter_le _ _
theorem rowB_len (L : List En) (i : Nat) : (rowB L i).length ≤ L.length := List.length_filter_le _ _
theorem rowF_mem (L : List En) (i y : Nat) : y ∈ rowF L i ↔ ∃ e ∈ L, e.b = true ∧ e.f = i ∧ e.t = y := by
  simp only [rowF, List.mem_map, List.mem_filter, Bool.and_eq_true, beq_iff_eq]
  exact ⟨fun ⟨e, ⟨h1, h2, h3⟩, h4⟩ => ⟨e, h1, h2, h3, h4⟩, fun ⟨e, h1, h2, h3, h4⟩ => ⟨e, ⟨h1, h2, h3⟩, h4⟩⟩
theorem rowB_mem (L : List En) (i : Nat) (e : En) : e ∈ rowB L i ↔ e ∈ L ∧ e.b = false ∧ e.f = i := by
  simp [rowB, List.mem_filter]
end Go.Proofs.Ytgmcfgkjhobiaaa

namespace Go.Proofs.Ytgmcfgkjhobiaaa
open Go.RowKit Go.Maps Go.WideElems Go.ChangeMaps Go.MapKept
set_option linter.unusedVariables false
set_option linter.unusedSimpArgs false


theorem al (w : World) (o : Obj) : Below w.heap.size w (w.alloc o) := (Below.refl _ _).alloc (Nat.le_refl _) _
theorem below3 (W : World) (a b c : Obj) : Below W.heap.size W (((W.alloc a).alloc b).alloc c) := ((al W a).alloc (by simp) b).alloc (by simp; omega) c


end Go.Proofs.Ytgmcfgkjhobiaaa
