import Derived.Test.YtgmcfgkjhobiaaaRows
import Derived.Test.YtgmcfgkjhobiaaaChecked
import Derived.Test.YtgmcfgkjhobiaaaZNMath
import Derived.WalkKit
import Derived.ProofKit
import Derived.OpenShut
import Derived.ShutString
import Derived.ChangeOld
import Derived.ChangeMaps5
import Derived.Below
import Derived.Deep.Slices
import Derived.Deep.Fields
import Derived.ChangeSame
import Derived.WalkLawsBesides
import Derived.WalkSpells
import Derived.Outline
import Derived.Lib.Hide
import Derived.LoopTactic
import Derived.Laws.Rows
import Derived.Lib.Walk
import Derived.Deep.RegionWith
import Derived.Lib.OwnKind
import Derived.OwnWalk
import Derived.Laws.AppendOwn
import Derived.Deep.RegionHeld3
import Derived.Deep.DeepCutAuto
import Derived.Maps.OwnOps
import Derived.Maps.OwnSet
import Derived.DeepKeys4
import Derived.Laws.Cover3
namespace Go.Proofs.Ytgmcfgkjhobiaaa
open Go.ChangeShapes Go.WideShapes Go.ChangeAt Go.RowKit Go.Deep

theorem own : ownKnob Try.prog.godebug = none := by kernel_rfl
theorem laidOut : laidOutB Try.prog = true := by kernel_rfl
end Go.Proofs.Ytgmcfgkjhobiaaa

namespace Go.Proofs.Ytgmcfgkjhobiaaa
open Go.RowKit

theorem ownsRow_keep {w w' : World} {base : Nat} {e : TypeId} {size : Nat} {v : Value} {n : Nat} {xs : List Value} (h : w.ownsRow base e size v n xs) (k : Below w.heap.size w w') : w'.ownsRow base e size v n xs := by
  obtain ⟨h1, h2⟩ := h
  refine ⟨h1, ?_⟩
  rcases h2 with h2 | ⟨g, cap, cur, hv, hg, hh, r⟩
  · exact Or.inl h2
  · refine Or.inr ⟨g, cap, cur, hv, hg, ?_, r⟩
    rw [k.block g (Array.getElem?_eq_some_iff.1 hh).1]
    exact hh
theorem ownsRow_slice {w : World} {base : Nat} {e : TypeId} {size : Nat} {v : Value} {n : Nat} {xs : List Value} (h : w.ownsRow base e size v n xs) : ∃ a cap, v = .slice a n cap := by
  rcases h.2 with ⟨h1, h2⟩ | ⟨g, cap, cur, hv, _⟩
  · subst h2; exact ⟨_, _, h1⟩
  · exact ⟨_, _, hv⟩
theorem ownsRow_read {w : World} {base : Nat} {e : TypeId} {size : Nat} {a : Option Addr} {n cap : Nat} {xs : List Value} (h : w.ownsRow base e size (.slice a n cap) n xs) (hn : 0 < n) : ∃ g, a = some ⟨g, 0, none⟩ ∧ base ≤ g ∧ g < w.heap.size ∧ ∀ j, j < n * size → w.cell? ⟨g, j, none⟩ = xs[j]? ∧ w.frozen? ⟨g, j, none⟩ = false := by
  have h0 := h
  rcases h.2 with ⟨h1, h2⟩ | ⟨g, cap', cur, hv, hg, hh, _⟩
  · omega
  · simp at hv
    obtain ⟨rfl, rfl⟩ := hv
    exact ⟨g, rfl, hg, (Array.getElem?_eq_some_iff.1 hh).1, fun j hj => ⟨h0.cellAt j hj, h0.frozenAt j⟩⟩
theorem ownsRow_base {w : World} {base base' : Nat} {e : TypeId} {size : Nat} {v : Value} {n : Nat} {xs : List Value} (h : w.ownsRow base' e size v n xs) (hb : base ≤ base') : w.ownsRow base e size v n xs := by
  obtain ⟨h1, h2⟩ := h
  refine ⟨h1, ?_⟩
  rcases h2 with h2 | ⟨g, cap, cur, hv, hg, r⟩
  · exact Or.inl h2
  · exact Or.inr ⟨g, cap, cur, hv, by omega, r⟩
theorem Try.info_u8 : (Try.prog.info? 5).map (fun i => (i.zero, i.size, i.bytes)) = some (some (.int .u8 0), 1, 1) := by kernel_rfl

/-- Numbers as bytes in memory. -/
def u8s (l : List Nat) : List Value := l.map fun n => .int .u8 ((n : Nat) : Int)
theorem u8s_get (l : List Nat) (j : Nat) (h : j < l.length) : (u8s l)[j]? = some (.int .u8 ((l.getD j 0 : Nat) : Int)) := by simp [u8s, List.getElem?_eq_getElem h]
end Go.Proofs.Ytgmcfgkjhobiaaa

namespace Go.Proofs.Ytgmcfgkjhobiaaa
open Go.RowKit

/-- The numbers of a set below k, in order. -/
def lst (p : Nat → Bool) (k : Nat) : List Nat := (List.range k).filter p


end Go.Proofs.Ytgmcfgkjhobiaaa

namespace Go.Proofs.Ytgmcfgkjhobiaaa
open Go.RowKit

/-- A piece of an expression: its kind, its set. -/
structure Pc where
  k : Int
  p : Nat → Bool
/-- Nothing in it. -/
def noneB (p : Nat → Bool) : Bool := decide ((lst p 256).length = 0)
/-- The cells of a piece. -/
def pcCells (x : Pc) : List Value := .int .i64 x.k :: (#[.int .u64 ((wd x.p 0 : Nat) : Int), .int .u64 ((wd x.p 1 : Nat) : Int), .int .u64 ((wd x.p 2 : Nat) : Int), .int .u64 ((wd x.p 3 : Nat) : Int)]).toList
/-- Pieces in memory. -/
def pcs (l : List Pc) : List Value := l.flatMap pcCells
theorem pcs_get (l : List Pc) (i : Nat) (h : i < l.length) (j : Nat) (hj : j < 5) : (pcs l)[i * 5 + j]? = (pcCells l[i])[j]? := by
  induction l generalizing i with
  | nil => simp at h
  | cons x l ih =>
    have hc : (pcCells x).length = 5 := by simp [pcCells]
    show (pcCells x ++ pcs l)[i * 5 + j]? = _
    match i, h with
    | 0, _ =>
      rw [Nat.zero_mul, Nat.zero_add, List.getElem?_append_left (by omega)]
      rfl
    | i + 1, h =>
      rw [List.getElem?_append_right (by omega), hc, show (i + 1) * 5 + j - 5 = i * 5 + j by omega, ih i (by simpa using h)]
      rfl
theorem pcs_cells (l : List Pc) (i : Nat) (h : i < l.length) :
    (pcs l)[i * 5]? = some (.int .i64 l[i].k) ∧ (pcs l)[i * 5 + 1]? = some (.int .u64 ((wd l[i].p 0 : Nat) : Int)) ∧ (pcs l)[i * 5 + 2]? = some (.int .u64 ((wd l[i].p 1 : Nat) : Int)) ∧
    (pcs l)[i * 5 + 3]? = some (.int .u64 ((wd l[i].p 2 : Nat) : Int)) ∧ (pcs l)[i * 5 + 4]? = some (.int .u64 ((wd l[i].p 3 : Nat) : Int)) :=
  ⟨pcs_get l i h 0 (by omega), pcs_get l i h 1 (by omega), pcs_get l i h 2 (by omega), pcs_get l i h 3 (by omega), pcs_get l i h 4 (by omega)⟩

/-- How many operands a piece of a kind takes; -1: there is no such kind. -/
def takesZ (k : Int) : Int := if k = 0 ∨ k = 1 then 0 else if k = 2 ∨ k = 3 then 2 else if k = 4 ∨ k = 5 ∨ k = 6 then 1 else -1
/-- Has a piece a set where it should, and none where not? -/
def okSet (x : Pc) : Bool := noneB x.p != (x.k == 1)

/-- An expression as a tree. -/
inductive Rx where
  | leaf (x : Pc)
  | un (x : Pc) (a : Rx)
  | bin (x : Pc) (a b : Rx)
def Rx.wf : Rx → Prop
  | .leaf x => takesZ x.k = 0 ∧ okSet x = true
  | .un x a => takesZ x.k = 1 ∧ okSet x = true ∧ a.wf
  | .bin x a b => takesZ x.k = 2 ∧ okSet x = true ∧ a.wf ∧ b.wf


end Go.Proofs.Ytgmcfgkjhobiaaa

namespace Go.Proofs.Ytgmcfgkjhobiaaa
open Go.RowKit

/-- Where a list of pieces lies. -/
def RxAt (w : World) (a : Option Addr) (l : List Pc) : Prop := 0 < l.length → ∃ g off, a = some ⟨g, off, none⟩ ∧ g < w.heap.size ∧ ∀ j, j < l.length * 5 → w.cell? ⟨g, off + j, none⟩ = (pcs l)[j]?
theorem RxAt.below {w w' : World} {a : Option Addr} {l : List Pc} (h : RxAt w a l) (k : Below w.heap.size w w') : RxAt w' a l := by
  intro h0
  obtain ⟨g, off, rfl, hg, hc⟩ := h h0
  have := k.size
  exact ⟨g, off, rfl, by omega, fun j hj => (k.cell (p := ⟨g, off + j, none⟩) hg).trans (hc j hj)⟩
/-- The cells of one piece. -/
theorem RxAt.get {w : World} {a : Option Addr} {l : List Pc} (h : RxAt w a l) (k : Nat) (hk : k < l.length) :
    ∃ g off, a = some ⟨g, off, none⟩ ∧ g < w.heap.size ∧ w.cell? ⟨g, off + k * 5, none⟩ = some (.int .i64 l[k].k) ∧ w.cell? ⟨g, off + k * 5 + 1, none⟩ = some (.int .u64 ((wd l[k].p 0 : Nat) : Int)) ∧ w.cell? ⟨g, off + k * 5 + 2, none⟩ = some (.int .u64 ((wd l[k].p 1 : Nat) : Int)) ∧
    w.cell? ⟨g, off + k * 5 + 3, none⟩ = some (.int .u64 ((wd l[k].p 2 : Nat) : Int)) ∧ w.cell? ⟨g, off + k * 5 + 4, none⟩ = some (.int .u64 ((wd l[k].p 3 : Nat) : Int)) := by
  obtain ⟨g, off, rfl, hg, hc⟩ := h (by omega)
  obtain ⟨c0, c1, c2, c3, c4⟩ := pcs_cells l k hk
  refine ⟨g, off, rfl, hg, ?_, ?_, ?_, ?_, ?_⟩
  · rw [hc _ (by omega), c0]
  · rw [Nat.add_assoc, hc _ (by omega), c1]
  · rw [Nat.add_assoc, hc _ (by omega), c2]
  · rw [Nat.add_assoc, hc _ (by omega), c3]
  · rw [Nat.add_assoc, hc _ (by omega), c4]


end Go.Proofs.Ytgmcfgkjhobiaaa

namespace Go.Proofs.Ytgmcfgkjhobiaaa
open Go.RowKit


end Go.Proofs.Ytgmcfgkjhobiaaa

namespace Go.Proofs.Ytgmcfgkjhobiaaa
open Go.RowKit
set_option linter.unusedVariables false


/-- A row in a new block is the call's own. -/
theorem own_lit (w : World) (base : Nat) (e : TypeId) (size : Nat) (cs : Array Value) (n : Nat) (hn : cs.size = n * size) (hb : base ≤ w.heap.size) (hm : n ≤ maxLen) : (w.alloc (.cells cs e)).ownsRow base e size (.slice (some ⟨w.heap.size, 0, none⟩) n n) n cs.toList :=
  ⟨by simpa using hn, Or.inr ⟨w.heap.size, n, cs, rfl, hb, St.new w e cs, Nat.le_refl _, hm, hn, by rw [← hn]; exact List.take_of_length_le (by simp)⟩⟩



end Go.Proofs.Ytgmcfgkjhobiaaa

namespace Go.Proofs.Ytgmcfgkjhobiaaa
open Go.RowKit
set_option linter.unusedVariables false

/-- A row of expressions, none where there are none. -/
def PartsIn (w : World) (a : Option Addr) (L : List (List Pc)) : Prop :=
  ∀ i (h : i < L.length), ∃ b g off c, a = some ⟨b, 0, none⟩ ∧ w.cell? ⟨b, i, none⟩ = some (.slice (some ⟨g, off, none⟩) L[i].length c) ∧ RxAt w (some ⟨g, off, none⟩) L[i] ∧ 1 ≤ L[i].length ∧ b < w.heap.size
theorem PartsIn.below {w w' : World} {a : Option Addr} {L : List (List Pc)} (h : PartsIn w a L) (k : Below w.heap.size w w') : PartsIn w' a L := by
  intro i hi
  obtain ⟨b, g, off, c, e, h1, h2, h3, h4⟩ := h i hi
  have := k.size
  exact ⟨b, g, off, c, e, (k.cell (p := ⟨b, i, none⟩) h4).trans h1, h2.below k, h3, by omega⟩
end Go.Proofs.Ytgmcfgkjhobiaaa

namespace Go.Proofs.Ytgmcfgkjhobiaaa
open Go.RowKit Go.Maps Go.WideElems Go.ChangeMaps Go.MapKept
set_option linter.unusedVariables false

/-! ### What a call leaves as it was -/
/-- Every block of w stands in w', but for rows of the types ts, and the blocks bs. -/
def Kept (ts : List TypeId) (bs : List Nat) (w w' : World) : Prop :=
  ∀ k o, w.heap[k]? = some o → (∀ c e fz, o = .cells c e fz → e ∉ ts) → k ∉ bs → w'.heap[k]? = some o
theorem Kept.refl (ts : List TypeId) (bs : List Nat) (w : World) : Kept ts bs w w := fun _ _ h _ _ => h
theorem Kept.trans {ts : List TypeId} {bs : List Nat} {a b c : World} (h : Kept ts bs a b) (k : Kept ts bs b c) : Kept ts bs a c :=
  fun i o hi ho hb => k i o (h i o hi ho hb) ho hb
theorem Kept.mono {ts ts' : List TypeId} {bs bs' : List Nat} {a b : World} (h : Kept ts bs a b) (ht : ∀ t ∈ ts, t ∈ ts') (hb : ∀ t ∈ bs, t ∈ bs') : Kept ts' bs' a b :=
  fun i o hi ho hn => h i o hi (fun c e fz e0 hm => ho c e fz e0 (ht e hm)) (fun hm => hn (hb i hm))
theorem Kept.drew {ts : List TypeId} {bs : List Nat} {a w : World} (h : Kept ts bs a w) : Kept ts bs a w.drew := h
theorem Kept.drewN {ts : List TypeId} {bs : List Nat} {a w : World} (h : Kept ts bs a w) (n : Nat) : Kept ts bs a (w.drewN n) := fun i o hi ho hb => by
  have := h i o hi ho hb
  simpa using this
theorem Kept.alloc {ts : List TypeId} {bs : List Nat} {a w : World} (h : Kept ts bs a w) (o : Obj) : Kept ts bs a (w.alloc o) := by
  intro k x hk hx hb
  have h1 := h k x hk hx hb
  have hlt : k < w.heap.size := (Array.getElem?_eq_some_iff.1 h1).1
  exact (Below.heap_alloc w o k hlt).trans h1
theorem Kept.below {ts : List TypeId} {bs : List Nat} {a w w' : World} (h : Kept ts bs a w) (k : Below w.heap.size w w') : Kept ts bs a w' := by
  intro i x hi hx hb
  have h1 := h i x hi hx hb
  exact (k.block i (Array.getElem?_eq_some_iff.1 h1).1).trans h1
theorem Kept.setCell {ts : List TypeId} {bs : List Nat} {a w : World} (h : Kept ts bs a w) (p : Addr) (v : Value) (hp : p.block ∈ bs ∨ a.heap.size ≤ p.block ∨ ∃ c e fz, w.heap[p.block]? = some (.cells c e fz) ∧ e ∈ ts) : Kept ts bs a (w.setCell p v) := by
  intro k x hk hx hb
  have h1 := h k x hk hx hb
  rw [Below.heap_setCell _ _ _ _ (fun e => ?_)]
  · exact h1
  · rcases hp with hp | hp | ⟨c, e', fz, hc, he⟩
    · exact hb (by rw [e]; exact hp)
    · have := (Array.getElem?_eq_some_iff.1 hk).1; omega
    · rw [← e, h1] at hc
      exact hx c e' fz (Option.some.inj hc) he
theorem Kept.grown {ts : List TypeId} {bs : List Nat} {a w w' : World} {row : Option Nat} (h : Kept ts bs a w) (hg : w.grownBy w' row)
    (hrow : ∀ g, row = some g → g ∈ bs ∨ a.heap.size ≤ g ∨ ∃ c e fz, w.heap[g]? = some (.cells c e fz) ∧ e ∈ ts) : Kept ts bs a w' := by
  intro k x hk hx hb
  have h1 := h k x hk hx hb
  have hlt : k < w.heap.size := (Array.getElem?_eq_some_iff.1 h1).1
  rw [hg.block k hlt ?_]
  · exact h1
  · intro hk2
    rcases hrow k hk2.symm with hm | hm | ⟨c, e', fz, hc, he⟩
    · exact hb hm
    · have := (Array.getElem?_eq_some_iff.1 hk).1; omega
    · rw [h1] at hc
      exact hx c e' fz (Option.some.inj hc) he
theorem St.kept {w w' : World} {t g : Nat} {cs : Array Value} {ts : List TypeId} {bs : List Nat} (h : St w t g cs) (k : Kept ts bs w w') (ht : t ∉ ts) (hg : g ∉ bs) : St w' t g cs :=
  k g _ h (fun c e fz e0 => by injection e0 with _ e1; subst e1; exact ht) hg
/-- What an owned value's block holds. -/
theorem own_kind {w : World} {B : Nat} {e : TypeId} {size : Nat} {v : Value} {n : Nat} {xs : List Value} (h : w.ownsRow B e size v n xs) : ∀ g, v.ownBlock = some g → ∃ c fz, w.heap[g]? = some (.cells c e fz) := by
  intro g hg
  rcases h.2 with ⟨rfl, _⟩ | ⟨g', cap, cur, rfl, _, hgg, _⟩
  · simp [Value.ownBlock] at hg
  · simp [Value.ownBlock] at hg
    subst hg
    exact ⟨cur, _, hgg⟩
theorem own_kept {w w' : World} {B : Nat} {t : TypeId} {size : Nat} {v : Value} {n : Nat} {xs : List Value} {ts : List TypeId} {bs : List Nat} (h : w.ownsRow B t size v n xs) (k : Kept ts bs w w') (ht : t ∉ ts) (hg : ∀ g, v.ownBlock = some g → g ∉ bs) : w'.ownsRow B t size v n xs := by
  refine ⟨h.1, ?_⟩
  rcases h.2 with h0 | ⟨g, cap, cur, rfl, hB, hgg, r⟩
  · exact Or.inl h0
  · exact Or.inr ⟨g, cap, cur, rfl, hB, k g _ hgg (fun c e fz e0 => by injection e0 with _ e1; subst e1; exact ht) (hg g (by simp [Value.ownBlock])), r⟩

theorem St.ne {w : World} {t t' g g' : Nat} {cs cs' : Array Value} (h : St w t g cs) (h' : St w t' g' cs') (ht : t ≠ t') : g ≠ g' := by
  intro e
  subst e
  have h1 : w.heap[g]? = _ := h
  have h2 : w.heap[g]? = _ := h'
  rw [h1] at h2
  injection h2 with h2
  injection h2 with _ h2
  exact ht h2
theorem own_ne {w : World} {B : Nat} {t t' g' : Nat} {size : Nat} {v : Value} {n : Nat} {xs : List Value} {cs' : Array Value} (h : w.ownsRow B t size v n xs) (h' : St w t' g' cs') (ht : t ≠ t') : ∀ g, v.ownBlock = some g → g ≠ g' := by
  intro g hg e
  subst e
  obtain ⟨c, fz, hc⟩ := own_kind h g hg
  have h2 : w.heap[g]? = _ := h'
  rw [hc] at h2
  injection h2 with h2
  injection h2 with _ h2
  exact ht h2
/-- A store into a block of another type. -/
theorem own_set {w : World} {B : Nat} {t t' g' : Nat} {size : Nat} {v : Value} {n : Nat} {xs : List Value} {cs' : Array Value} (h : w.ownsRow B t size v n xs) (h' : St w t' g' cs') (ht : t ≠ t') (i : Nat) (u : Value) : (w.setCell ⟨g', i, none⟩ u).ownsRow B t size v n xs :=
  own_kept (ts := []) (bs := [g']) h ((Kept.refl _ _ _).setCell _ _ (Or.inl (by simp))) (by simp) (fun g hg => by
    have := own_ne h h' ht g hg
    simpa using this)
theorem St.set_far {w : World} {t t' g g' : Nat} {cs cs' : Array Value} (h : St w t g cs) (h' : St w t' g' cs') (ht : t ≠ t') (i : Nat) (u : Value) : St (w.setCell ⟨g', i, none⟩ u) t g cs :=
  h.far (p := ⟨g', i, none⟩) (h.ne h' ht) u
/-! ### A map of the call's own, by what holds of its entries -/
def anyR : Value → Option (DataW Value × List MemPlace) := fun v => some (.held v, [])
def MapOf (w : World) (k : TypeId) (b n : Nat) (Q : Value → Value → Prop) : Prop :=
  ∃ es clock, w.heap[b]? = some (.map es clock) ∧ Fit Try.prog k anyR es clock ∧ es.size ≤ n ∧ ∀ e ∈ es.toList, Q e.key e.val
theorem MapOf.made (w : World) (k : TypeId) (Q : Value → Value → Prop) : MapOf (w.alloc (.map #[] 0)) k w.heap.size 0 Q :=
  ⟨#[], 0, (MapKept.heap_alloc w _).1, ⟨by simp, stamped_empty 0, by simp⟩, Nat.le_refl _, by simp⟩
theorem MapOf.lt {w : World} {k : TypeId} {b n : Nat} {Q : Value → Value → Prop} (h : MapOf w k b n Q) : b < w.heap.size := by
  obtain ⟨es, clock, hb, _⟩ := h
  exact (Array.getElem?_eq_some_iff.1 hb).1
theorem MapOf.same {w w' : World} {k : TypeId} {b n : Nat} {Q : Value → Value → Prop} (h : MapOf w k b n Q) (e : w'.heap[b]? = w.heap[b]?) : MapOf w' k b n Q := by
  obtain ⟨es, clock, hb, r⟩ := h
  exact ⟨es, clock, e.trans hb, r⟩
theorem MapOf.kept {w w' : World} {k : TypeId} {b n : Nat} {Q : Value → Value → Prop} {ts : List TypeId} {bs : List Nat} (h : MapOf w k b n Q) (hk : Kept ts bs w w') (hb : b ∉ bs) : MapOf w' k b n Q := by
  obtain ⟨es, clock, hbb, r⟩ := h
  exact ⟨es, clock, hk b _ hbb (fun c e fz e0 => by cases e0) hb, r⟩
theorem MapOf.mono {w : World} {k : TypeId} {b n n' : Nat} {Q Q' : Value → Value → Prop} (h : MapOf w k b n Q) (hn : n ≤ n') (hQ : ∀ x y, Q x y → Q' x y) : MapOf w k b n' Q' := by
  obtain ⟨es, clock, hb, F, hs, hq⟩ := h
  exact ⟨es, clock, hb, F, Nat.le_trans hs hn, fun e he => hQ _ _ (hq e he)⟩
theorem MapOf.set {w : World} {k : TypeId} {b n t g i : Nat} {u : Value} {cs : Array Value} {Q : Value → Value → Prop} (h : MapOf w k b n Q) (h' : St w t g cs) : MapOf (w.setCell ⟨g, i, none⟩ u) k b n Q := by
  refine h.same (Below.heap_setCell _ _ _ _ ?_)
  intro e
  obtain ⟨es, clock, hb, _⟩ := h
  have h2 : w.heap[g]? = _ := h'
  rw [show b = g from e, h2] at hb
  cases hb
/-! ### Behind an append to a row of the call's own, and behind a store into a map -/
theorem St.grown {w w' : World} {t g : Nat} {cs : Array Value} {row : Option Nat} (h : St w t g cs) (hg : w.grownBy w' row) (hn : some g ≠ row) : St w' t g cs := (hg.block g h.lt hn).trans h
theorem St.grown_own {w w' : World} {B t t' g size n : Nat} {cs : Array Value} {v : Value} {xs : List Value} (h : St w t g cs) (ho : w.ownsRow B t' size v n xs) (ht : t' ≠ t) (hg : w.grownBy w' v.ownBlock) : St w' t g cs :=
  h.grown hg (fun e => own_ne ho h ht g e.symm rfl)
theorem MapOf.grown_own {w w' : World} {B t' size n k b N : Nat} {v : Value} {xs : List Value} {Q : Value → Value → Prop} (h : MapOf w k b N Q) (ho : w.ownsRow B t' size v n xs) (hg : w.grownBy w' v.ownBlock) : MapOf w' k b N Q := by
  refine h.same (hg.block b h.lt (fun e => ?_))
  obtain ⟨c, fz, hc⟩ := own_kind ho b e.symm
  obtain ⟨es, clock, hb, _⟩ := h
  rw [hc] at hb
  cases hb
theorem own_grown {w w' : World} {B t size n : Nat} {v : Value} {xs : List Value} {row : Option Nat} (h : w.ownsRow B t size v n xs) (hg : w.grownBy w' row) (hn : ∀ g, v.ownBlock = some g → some g ≠ row) : w'.ownsRow B t size v n xs := by
  refine ⟨h.1, ?_⟩
  rcases h.2 with h0 | ⟨g, cap, cur, rfl, hB, hgg, r⟩
  · exact Or.inl h0
  · exact Or.inr ⟨g, cap, cur, rfl, hB, (hg.block g (Array.getElem?_eq_some_iff.1 hgg).1 (hn g (by simp [Value.ownBlock]))).trans hgg, r⟩
theorem own_grown_own {w w' : World} {B t size n B' t' size' n' : Nat} {v v' : Value} {xs xs' : List Value} (h : w.ownsRow B t size v n xs) (ho : w.ownsRow B' t' size' v' n' xs') (ht : t' ≠ t) (hg : w.grownBy w' v'.ownBlock) : w'.ownsRow B t size v n xs :=
  own_grown h hg (fun g e1 e2 => by
    obtain ⟨c, fz, hc⟩ := own_kind h g e1
    obtain ⟨c', fz', hc'⟩ := own_kind ho g e2.symm
    rw [hc] at hc'
    injection hc' with hc'
    injection hc' with _ hc'
    exact ht hc'.symm)
theorem own_grown_map {w w' : World} {B t size n k b N : Nat} {v : Value} {xs : List Value} {Q : Value → Value → Prop} (h : w.ownsRow B t size v n xs) (hm : MapOf w k b N Q) (hg : w.grownBy w' (some b)) : w'.ownsRow B t size v n xs :=
  own_grown h hg (fun g e1 e2 => by
    obtain ⟨c, fz, hc⟩ := own_kind h g e1
    obtain ⟨es, clock, hb, _⟩ := hm
    injection e2 with e2
    subst e2
    rw [hc] at hb
    cases hb)
theorem St.grown_map {w w' : World} {t g k b N : Nat} {cs : Array Value} {Q : Value → Value → Prop} (h : St w t g cs) (hm : MapOf w k b N Q) (hg : w.grownBy w' (some b)) : St w' t g cs :=
  h.grown hg (fun e2 => by
    obtain ⟨es, clock, hb, _⟩ := hm
    injection e2 with e2
    subst e2
    have h1 : w.heap[g]? = _ := h
    rw [h1] at hb
    cases hb)
theorem Kept.grown_own {ts : List TypeId} {bs : List Nat} {a w w' : World} {B t size n : Nat} {v : Value} {xs : List Value} (h : Kept ts bs a w) (ho : w.ownsRow B t size v n xs) (ht : t ∈ ts) (hg : w.grownBy w' v.ownBlock) : Kept ts bs a w' :=
  h.grown hg (fun g e => by
    obtain ⟨c, fz, hc⟩ := own_kind ho g e
    exact Or.inr (Or.inr ⟨c, t, fz, hc, ht⟩))
theorem own_above {w : World} {B t size n : Nat} {v : Value} {xs : List Value} (ho : w.ownsRow B t size v n xs) : ∀ g, v.ownBlock = some g → B ≤ g := by
  intro g hg
  rcases ho.2 with ⟨rfl, _⟩ | ⟨g', cap, cur, rfl, hB, _⟩
  · simp [Value.ownBlock] at hg
  · simp [Value.ownBlock] at hg
    omega
theorem below_grown_own {a w w' : World} {B t size n : Nat} {v : Value} {xs : List Value} (h : Below B a w) (ho : w.ownsRow B t size v n xs) (hB : B ≤ w.heap.size) (hg : w.grownBy w' v.ownBlock) : Below B a w' :=
  h.grown hg hB (own_above ho)
/-- 'v, ok := m[k]'. -/
theorem MapOf.look {w : World} {k t e : TypeId} {b n : Nat} {Q : Value → Value → Prop} (h : MapOf w k b n Q) (K : Keyed Try.prog k) (ht : Try.prog.underlying t = some (.map k e)) {z : Value} (hz : (zeroValue e).run Try.prog w = .ok z w)
    {key : Value} {kl : Lit} (hkey : keyOf Try.prog k key = some kl) :
    (Instr.lookup t (.map (some b)) key true).run Try.prog w = .ok (.tuple #[z, .bool false]) w ∨ ∃ v, Q key v ∧ (Instr.lookup t (.map (some b)) key true).run Try.prog w = .ok (.tuple #[v, .bool true]) w := by
  obtain ⟨es, clock, hb, F, _, hq⟩ := h
  rcases Maps.fit_look true K ht hz hb F hkey with ⟨hrun, _, _⟩ | ⟨e0, y, hm, hk, hrun, _⟩
  · exact Or.inl (by simpa using hrun)
  · exact Or.inr ⟨e0.val, by rw [← hk]; exact hq e0 hm, by simpa using hrun⟩
/-- 'm[k] = v'. -/
theorem MapOf.update {w : World} {k t e : TypeId} {b n : Nat} {Q Q' : Value → Value → Prop} (h : MapOf w k b n Q) (K : Keyed Try.prog k) (ht : Try.prog.underlying t = some (.map k e)) (hn : n < maxLen)
    {key val : Value} {kl : Lit} (hkey : keyOf Try.prog k key = some kl) (hQ : ∀ x y, Q x y → x ≠ key → Q' x y) (hv : Q' key val) :
    ∃ w', (Instr.mapUpdate t (.map (some b)) key val).run Try.prog w = .ok () w' ∧ MapOf w' k b (n + 1) Q' ∧ w.grownBy w' (some b) := by
  obtain ⟨es, clock, hb, F, hs, hq⟩ := h
  obtain ⟨es', clock', hrun, F', hput, _, _, hall⟩ := Maps.fit_store (R' := anyR) K ht hb F (Nat.lt_of_le_of_lt hs hn) (fun _ _ _ _ hz => hz) hkey (yv := (.held val, [])) rfl
  refine ⟨_, hrun, ⟨es', clock', heap_setBlock_same hb _, F', ?_, fun x hx => ?_⟩, ⟨rfl, rfl, rfl, by simp [setBlock], fun i _ hi => heap_setBlock_other hb _ (fun e => hi (by rw [e]))⟩⟩
  · have e1 : es'.size = ((es'.toList.map (rg Try.prog k anyR)).foldr DataW.insert []).length := by rw [length_sorted]; simp
    rw [e1, hput]
    unfold putKey
    rw [length_insert]
    have e2 := List.length_filter_le (notKey kl) ((es.toList.map (rg Try.prog k anyR)).foldr DataW.insert [])
    rw [length_sorted] at e2
    simp at e2
    omega
  · rcases hall x hx with ⟨h1, h2⟩ | ⟨h1, h2⟩
    · exact hQ _ _ (hq x h1) h2
    · rw [h1, h2]; exact hv

/-! ### .. and by all that it should hold -/
def MapEx (w : World) (k : TypeId) (b n : Nat) (Q : Value → Value → Prop) : Prop :=
  ∃ es clock, w.heap[b]? = some (.map es clock) ∧ Fit Try.prog k anyR es clock ∧ es.size ≤ n ∧ (∀ e ∈ es.toList, Q e.key e.val) ∧ ∀ x y, Q x y → ∃ e ∈ es.toList, e.key = x
theorem MapEx.of {w : World} {k : TypeId} {b n : Nat} {Q : Value → Value → Prop} (h : MapEx w k b n Q) : MapOf w k b n Q := by
  obtain ⟨es, clock, h1, h2, h3, h4, _⟩ := h
  exact ⟨es, clock, h1, h2, h3, h4⟩
theorem MapEx.made (w : World) (k : TypeId) (Q : Value → Value → Prop) (h0 : ∀ x y, ¬ Q x y) : MapEx (w.alloc (.map #[] 0)) k w.heap.size 0 Q :=
  ⟨#[], 0, (MapKept.heap_alloc w _).1, ⟨by simp, stamped_empty 0, by simp⟩, Nat.le_refl _, by simp, fun x y h => absurd h (h0 x y)⟩
theorem MapEx.lt {w : World} {k : TypeId} {b n : Nat} {Q : Value → Value → Prop} (h : MapEx w k b n Q) : b < w.heap.size := h.of.lt
theorem MapEx.same {w w' : World} {k : TypeId} {b n : Nat} {Q : Value → Value → Prop} (h : MapEx w k b n Q) (e : w'.heap[b]? = w.heap[b]?) : MapEx w' k b n Q := by
  obtain ⟨es, clock, hb, r⟩ := h
  exact ⟨es, clock, e.trans hb, r⟩
theorem MapEx.kept {w w' : World} {k : TypeId} {b n : Nat} {Q : Value → Value → Prop} {ts : List TypeId} {bs : List Nat} (h : MapEx w k b n Q) (hk : Kept ts bs w w') (hb : b ∉ bs) : MapEx w' k b n Q := by
  obtain ⟨es, clock, hbb, r⟩ := h
  exact ⟨es, clock, hk b _ hbb (fun c e fz e0 => by cases e0) hb, r⟩
theorem MapEx.more {w : World} {k : TypeId} {b n n' : Nat} {Q : Value → Value → Prop} (h : MapEx w k b n Q) (hn : n ≤ n') : MapEx w k b n' Q := by
  obtain ⟨es, clock, hb, F, hs, r⟩ := h
  exact ⟨es, clock, hb, F, Nat.le_trans hs hn, r⟩
theorem MapEx.set {w : World} {k : TypeId} {b n t g i : Nat} {u : Value} {cs : Array Value} {Q : Value → Value → Prop} (h : MapEx w k b n Q) (h' : St w t g cs) : MapEx (w.setCell ⟨g, i, none⟩ u) k b n Q := by
  refine h.same (Below.heap_setCell _ _ _ _ ?_)
  intro e
  obtain ⟨es, clock, hb, _⟩ := h
  have h2 : w.heap[g]? = _ := h'
  rw [show b = g from e, h2] at hb
  cases hb
/-- 'm[k] = v' at a key that is new. -/
theorem MapEx.update {w : World} {k t e : TypeId} {b n : Nat} {Q Q' : Value → Value → Prop} (h : MapEx w k b n Q) (K : Keyed Try.prog k) (ht : Try.prog.underlying t = some (.map k e)) (hn : n < maxLen)
    {key val : Value} {kl : Lit} (hkey : keyOf Try.prog k key = some kl) (hnew : ∀ y, ¬ Q key y) (hQ : ∀ x y, Q x y → Q' x y) (hv : Q' key val) (hback : ∀ x y, Q' x y → x ≠ key → ∃ y', Q x y') :
    ∃ w', (Instr.mapUpdate t (.map (some b)) key val).run Try.prog w = .ok () w' ∧ MapEx w' k b (n + 1) Q' ∧ w.grownBy w' (some b) := by
  obtain ⟨es, clock, hb, F, hs, hq, hall⟩ := h
  have hno : ∀ x ∈ es.toList, x.key ≠ key := fun x hx e0 => hnew x.val (by rw [← e0]; exact hq x hx)
  obtain ⟨F1, _, _⟩ := F.stay (R' := anyR) (fun x hx z hz => hz)
  have hrd : WideElems.rd Try.prog k anyR ⟨key, val, clock⟩ = some (kl, .held val) := by unfold WideElems.rd anyR; rw [hkey]; rfl
  rcases K.find w hkey es.toList F.keys with ⟨h1, h2⟩ | ⟨j, e0, h1, h2, h3⟩
  · refine ⟨setBlock w b (.map (es.push ⟨key, val, clock⟩) (clock + 1)), ?_, ⟨es.push ⟨key, val, clock⟩, clock + 1, heap_setBlock_same hb _, ⟨by simp; omega, stamped_push F.stamped h2, ?_⟩, by simp; omega, fun x hx => ?_, fun x y hx => ?_⟩, ⟨rfl, rfl, rfl, by simp [setBlock], fun i _ hi => heap_setBlock_other hb _ (fun e => hi (by rw [e]))⟩⟩
    · simp [Instr.mapUpdate, run_underlying ht, MapKept.run_getObj_map hb, K.check w false hkey, h1, MapKept.run_setObj_map _ hb, Result.andThen, setBlock]
    · intro x hx
      simp only [Array.toList_push, List.mem_append, List.mem_singleton] at hx
      rcases hx with hx | rfl
      · exact F1.reads x hx
      · exact ⟨_, hrd⟩
    · simp only [Array.toList_push, List.mem_append, List.mem_singleton] at hx
      rcases hx with hx | rfl
      · exact hQ _ _ (hq x hx)
      · exact hv
    · by_cases e0 : x = key
      · exact ⟨⟨key, val, clock⟩, by rw [Array.toList_push]; exact List.mem_append_right _ (List.mem_singleton.2 rfl), e0.symm⟩
      · obtain ⟨y', hy⟩ := hback x y hx e0
        obtain ⟨e1, h4, h5⟩ := hall x y' hy
        exact ⟨e1, by rw [Array.toList_push]; exact List.mem_append_left _ h4, h5⟩
  · exact absurd h3 (hno e0 (List.mem_of_getElem? h2))
theorem MapEx.grown_own {w w' : World} {B t' size n k b N : Nat} {v : Value} {xs : List Value} {Q : Value → Value → Prop} (h : MapEx w k b N Q) (ho : w.ownsRow B t' size v n xs) (hg : w.grownBy w' v.ownBlock) : MapEx w' k b N Q := by
  refine h.same (hg.block b h.lt (fun e => ?_))
  obtain ⟨c, fz, hc⟩ := own_kind ho b e.symm
  obtain ⟨es, clock, hb, _⟩ := h
  rw [hc] at hb
  cases hb

/-! ### Keys -/
theorem wf64 {n : Int} (h : -9223372036854775808 ≤ n ∧ n ≤ 9223372036854775807) : (Lit.int .i64 n).wf = true := by
  simp [Lit.wf, IntKind.min, IntKind.max, IntKind.bits, IntKind.signed]; omega
end Go.Proofs.Ytgmcfgkjhobiaaa
