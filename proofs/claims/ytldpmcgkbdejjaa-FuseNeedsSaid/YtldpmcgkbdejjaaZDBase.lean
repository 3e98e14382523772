import Derived.Test.YtldpmcgkbdejjaaRows
import Derived.Test.YtldpmcgkbdejjaaChecked
import Derived.Test.YtldpmcgkbdejjaaZNMath
import Derived.WalkKit
import Derived.ProofKit
import Derived.OpenShut
import Derived.ShutString
import Derived.ChangeOld
import Derived.ChangeMaps5
import Derived.Below
import Derived.Deep.Slices
import Derived.Deep.Fields
import Derived.ChangeSame
import Derived.WalkLawsBesides
import Derived.WalkSpells
import Derived.Outline
import Derived.Lib.Hide
import Derived.LoopTactic
import Derived.Laws.Rows
import Derived.Lib.Walk
import Derived.Deep.RegionWith
import Derived.Lib.OwnKind
import Derived.OwnWalk
import Derived.Laws.AppendOwn
import Derived.Deep.RegionHeld3
import Derived.Deep.DeepCutAuto
import Derived.Maps.OwnOps
import Derived.Maps.OwnSet
import Derived.DeepKeys4
import Derived.Laws.Cover3
namespace Go.Proofs.Ytldpmcgkbdejjaa
open Go.ChangeShapes Go.WideShapes Go.ChangeAt Go.RowKit Go.Deep

theorem own : ownKnob Try.prog.godebug = none := by kernel_rfl
theorem laidOut : laidOutB Try.prog = true := by kernel_rfl
end Go.Proofs.Ytldpmcgkbdejjaa

namespace Go.Proofs.Ytldpmcgkbdejjaa
open Go.RowKit

theorem ownsRow_keep {w w' : World} {base : Nat} {e : TypeId} {size : Nat} {v : Value} {n : Nat} {xs : List Value} (h : w.ownsRow base e size v n xs) (k : Below w.heap.size w w') : w'.ownsRow base e size v n xs := by
  obtain ⟨h1, h2⟩ := h
  refine ⟨h1, ?_⟩
  rcases h2 with h2 | ⟨g, cap, cur, hv, hg, hh, r⟩
  · exact Or.inl h2
  · refine Or.inr ⟨g, cap, cur, hv, hg, ?_, r⟩
    rw [k.block g (Array.getElem?_eq_some_iff.1 hh).1]
    exact hh
theorem ownsRow_slice {w : World} {base : Nat} {e : TypeId} {size : Nat} {v : Value} {n : Nat} {xs : List Value} (h : w.ownsRow base e size v n xs) : ∃ a cap, v = .slice a n cap := by
  rcases h.2 with ⟨h1, h2⟩ | ⟨g, cap, cur, hv, _⟩
  · subst h2; exact ⟨_, _, h1⟩
  · exact ⟨_, _, hv⟩
theorem ownsRow_read {w : World} {base : Nat} {e : TypeId} {size : Nat} {a : Option Addr} {n cap : Nat} {xs : List Value} (h : w.ownsRow base e size (.slice a n cap) n xs) (hn : 0 < n) : ∃ g, a = some ⟨g, 0, none⟩ ∧ base ≤ g ∧ g < w.heap.size ∧ ∀ j, j < n * size → w.cell? ⟨g, j, none⟩ = xs[j]? ∧ w.frozen? ⟨g, j, none⟩ = false := by
  have h0 := h
  rcases h.2 with ⟨h1, h2⟩ | ⟨g, cap', cur, hv, hg, hh, _⟩
  · omega
  · simp at hv
    obtain ⟨rfl, rfl⟩ := hv
    exact ⟨g, rfl, hg, (Array.getElem?_eq_some_iff.1 hh).1, fun j hj => ⟨h0.cellAt j hj, h0.frozenAt j⟩⟩
theorem ownsRow_base {w : World} {base base' : Nat} {e : TypeId} {size : Nat} {v : Value} {n : Nat} {xs : List Value} (h : w.ownsRow base' e size v n xs) (hb : base ≤ base') : w.ownsRow base e size v n xs := by
  obtain ⟨h1, h2⟩ := h
  refine ⟨h1, ?_⟩
  rcases h2 with h2 | ⟨g, cap, cur, hv, hg, r⟩
  · exact Or.inl h2
  · exact Or.inr ⟨g, cap, cur, hv, by omega, r⟩
theorem Try.info_u8 : (Try.prog.info? 5).map (fun i => (i.zero, i.size, i.bytes)) = some (some (.int .u8 0), 1, 1) := by kernel_rfl

/-- Numbers as bytes in memory. -/
def u8s (l : List Nat) : List Value := l.map fun n => .int .u8 ((n : Nat) : Int)
theorem u8s_snoc (l : List Nat) (n : Nat) : u8s (l ++ [n]) = u8s l ++ [.int .u8 ((n : Nat) : Int)] := by simp [u8s]
theorem u8s_length (l : List Nat) : (u8s l).length = l.length := by simp [u8s]
end Go.Proofs.Ytldpmcgkbdejjaa

namespace Go.Proofs.Ytldpmcgkbdejjaa
open Go.RowKit



end Go.Proofs.Ytldpmcgkbdejjaa

namespace Go.Proofs.Ytldpmcgkbdejjaa
open Go.RowKit





end Go.Proofs.Ytldpmcgkbdejjaa

namespace Go.Proofs.Ytldpmcgkbdejjaa
open Go.RowKit



end Go.Proofs.Ytldpmcgkbdejjaa

namespace Go.Proofs.Ytldpmcgkbdejjaa
open Go.RowKit


end Go.Proofs.Ytldpmcgkbdejjaa

namespace Go.Proofs.Ytldpmcgkbdejjaa
open Go.RowKit
set_option linter.unusedVariables false


/-- A row in a new block is the call's own. -/
theorem own_lit (w : World) (base : Nat) (e : TypeId) (size : Nat) (cs : Array Value) (n : Nat) (hn : cs.size = n * size) (hb : base ≤ w.heap.size) (hm : n ≤ maxLen) : (w.alloc (.cells cs e)).ownsRow base e size (.slice (some ⟨w.heap.size, 0, none⟩) n n) n cs.toList :=
  ⟨by simpa using hn, Or.inr ⟨w.heap.size, n, cs, rfl, hb, St.new w e cs, Nat.le_refl _, hm, hn, by rw [← hn]; exact List.take_of_length_le (by simp)⟩⟩



end Go.Proofs.Ytldpmcgkbdejjaa

namespace Go.Proofs.Ytldpmcgkbdejjaa
open Go.RowKit
set_option linter.unusedVariables false

end Go.Proofs.Ytldpmcgkbdejjaa

namespace Go.Proofs.Ytldpmcgkbdejjaa
open Go.RowKit Go.Maps Go.WideElems Go.ChangeMaps Go.MapKept
set_option linter.unusedVariables false

/-! ### What a call leaves as it was -/
/-- Every block of w stands in w', but for rows of the types ts, and the blocks bs. -/
def Kept (ts : List TypeId) (bs : List Nat) (w w' : World) : Prop :=
  ∀ k o, w.heap[k]? = some o → (∀ c e fz, o = .cells c e fz → e ∉ ts) → k ∉ bs → w'.heap[k]? = some o
theorem Kept.refl (ts : List TypeId) (bs : List Nat) (w : World) : Kept ts bs w w := fun _ _ h _ _ => h
theorem Kept.below {ts : List TypeId} {bs : List Nat} {a w w' : World} (h : Kept ts bs a w) (k : Below w.heap.size w w') : Kept ts bs a w' := by
  intro i x hi hx hb
  have h1 := h i x hi hx hb
  exact (k.block i (Array.getElem?_eq_some_iff.1 h1).1).trans h1
theorem Kept.setCell {ts : List TypeId} {bs : List Nat} {a w : World} (h : Kept ts bs a w) (p : Addr) (v : Value) (hp : p.block ∈ bs ∨ a.heap.size ≤ p.block ∨ ∃ c e fz, w.heap[p.block]? = some (.cells c e fz) ∧ e ∈ ts) : Kept ts bs a (w.setCell p v) := by
  intro k x hk hx hb
  have h1 := h k x hk hx hb
  rw [Below.heap_setCell _ _ _ _ (fun e => ?_)]
  · exact h1
  · rcases hp with hp | hp | ⟨c, e', fz, hc, he⟩
    · exact hb (by rw [e]; exact hp)
    · have := (Array.getElem?_eq_some_iff.1 hk).1; omega
    · rw [← e, h1] at hc
      exact hx c e' fz (Option.some.inj hc) he
theorem Kept.grown {ts : List TypeId} {bs : List Nat} {a w w' : World} {row : Option Nat} (h : Kept ts bs a w) (hg : w.grownBy w' row)
    (hrow : ∀ g, row = some g → g ∈ bs ∨ a.heap.size ≤ g ∨ ∃ c e fz, w.heap[g]? = some (.cells c e fz) ∧ e ∈ ts) : Kept ts bs a w' := by
  intro k x hk hx hb
  have h1 := h k x hk hx hb
  have hlt : k < w.heap.size := (Array.getElem?_eq_some_iff.1 h1).1
  rw [hg.block k hlt ?_]
  · exact h1
  · intro hk2
    rcases hrow k hk2.symm with hm | hm | ⟨c, e', fz, hc, he⟩
    · exact hb hm
    · have := (Array.getElem?_eq_some_iff.1 hk).1; omega
    · rw [h1] at hc
      exact hx c e' fz (Option.some.inj hc) he
theorem St.kept {w w' : World} {t g : Nat} {cs : Array Value} {ts : List TypeId} {bs : List Nat} (h : St w t g cs) (k : Kept ts bs w w') (ht : t ∉ ts) (hg : g ∉ bs) : St w' t g cs :=
  k g _ h (fun c e fz e0 => by injection e0 with _ e1; subst e1; exact ht) hg
/-- What an owned value's block holds. -/
theorem own_kind {w : World} {B : Nat} {e : TypeId} {size : Nat} {v : Value} {n : Nat} {xs : List Value} (h : w.ownsRow B e size v n xs) : ∀ g, v.ownBlock = some g → ∃ c fz, w.heap[g]? = some (.cells c e fz) := by
  intro g hg
  rcases h.2 with ⟨rfl, _⟩ | ⟨g', cap, cur, rfl, _, hgg, _⟩
  · simp [Value.ownBlock] at hg
  · simp [Value.ownBlock] at hg
    subst hg
    exact ⟨cur, _, hgg⟩
theorem own_kept {w w' : World} {B : Nat} {t : TypeId} {size : Nat} {v : Value} {n : Nat} {xs : List Value} {ts : List TypeId} {bs : List Nat} (h : w.ownsRow B t size v n xs) (k : Kept ts bs w w') (ht : t ∉ ts) (hg : ∀ g, v.ownBlock = some g → g ∉ bs) : w'.ownsRow B t size v n xs := by
  refine ⟨h.1, ?_⟩
  rcases h.2 with h0 | ⟨g, cap, cur, rfl, hB, hgg, r⟩
  · exact Or.inl h0
  · exact Or.inr ⟨g, cap, cur, rfl, hB, k g _ hgg (fun c e fz e0 => by injection e0 with _ e1; subst e1; exact ht) (hg g (by simp [Value.ownBlock])), r⟩

theorem own_ne {w : World} {B : Nat} {t t' g' : Nat} {size : Nat} {v : Value} {n : Nat} {xs : List Value} {cs' : Array Value} (h : w.ownsRow B t size v n xs) (h' : St w t' g' cs') (ht : t ≠ t') : ∀ g, v.ownBlock = some g → g ≠ g' := by
  intro g hg e
  subst e
  obtain ⟨c, fz, hc⟩ := own_kind h g hg
  have h2 : w.heap[g]? = _ := h'
  rw [hc] at h2
  injection h2 with h2
  injection h2 with _ h2
  exact ht h2
/-- A store into a block of another type. -/
theorem own_set {w : World} {B : Nat} {t t' g' : Nat} {size : Nat} {v : Value} {n : Nat} {xs : List Value} {cs' : Array Value} (h : w.ownsRow B t size v n xs) (h' : St w t' g' cs') (ht : t ≠ t') (i : Nat) (u : Value) : (w.setCell ⟨g', i, none⟩ u).ownsRow B t size v n xs :=
  own_kept (ts := []) (bs := [g']) h ((Kept.refl _ _ _).setCell _ _ (Or.inl (by simp))) (by simp) (fun g hg => by
    have := own_ne h h' ht g hg
    simpa using this)
/-! ### A map of the call's own, by what holds of its entries -/
/-! ### Behind an append to a row of the call's own, and behind a store into a map -/
theorem St.grown {w w' : World} {t g : Nat} {cs : Array Value} {row : Option Nat} (h : St w t g cs) (hg : w.grownBy w' row) (hn : some g ≠ row) : St w' t g cs := (hg.block g h.lt hn).trans h
theorem St.grown_own {w w' : World} {B t t' g size n : Nat} {cs : Array Value} {v : Value} {xs : List Value} (h : St w t g cs) (ho : w.ownsRow B t' size v n xs) (ht : t' ≠ t) (hg : w.grownBy w' v.ownBlock) : St w' t g cs :=
  h.grown hg (fun e => own_ne ho h ht g e.symm rfl)
theorem own_grown {w w' : World} {B t size n : Nat} {v : Value} {xs : List Value} {row : Option Nat} (h : w.ownsRow B t size v n xs) (hg : w.grownBy w' row) (hn : ∀ g, v.ownBlock = some g → some g ≠ row) : w'.ownsRow B t size v n xs := by
  refine ⟨h.1, ?_⟩
  rcases h.2 with h0 | ⟨g, cap, cur, rfl, hB, hgg, r⟩
  · exact Or.inl h0
  · exact Or.inr ⟨g, cap, cur, rfl, hB, (hg.block g (Array.getElem?_eq_some_iff.1 hgg).1 (hn g (by simp [Value.ownBlock]))).trans hgg, r⟩
theorem own_above {w : World} {B t size n : Nat} {v : Value} {xs : List Value} (ho : w.ownsRow B t size v n xs) : ∀ g, v.ownBlock = some g → B ≤ g := by
  intro g hg
  rcases ho.2 with ⟨rfl, _⟩ | ⟨g', cap, cur, rfl, hB, _⟩
  · simp [Value.ownBlock] at hg
  · simp [Value.ownBlock] at hg
    omega
theorem below_grown_own {a w w' : World} {B t size n : Nat} {v : Value} {xs : List Value} (h : Below B a w) (ho : w.ownsRow B t size v n xs) (hB : B ≤ w.heap.size) (hg : w.grownBy w' v.ownBlock) : Below B a w' :=
  h.grown hg hB (own_above ho)

/-! ### .. and by all that it should hold -/

/-! ### Keys -/
end Go.Proofs.Ytldpmcgkbdejjaa
