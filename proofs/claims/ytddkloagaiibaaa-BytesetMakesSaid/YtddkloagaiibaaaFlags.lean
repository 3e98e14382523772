import Derived.Test.YtddkloagaiibaaaOf
namespace Go.Proofs.Ytddkloagaiibaaa
open Go.RowKit

/-- Block b is a row of 256 truths. -/
def Flags (w : World) (b : Nat) (p : Nat → Bool) : Prop := ∃ cs, St w 4 b cs ∧ cs.size = 256 ∧ ∀ j, j < 256 → cs[j]? = some (.bool (p j))
theorem Flags.lt {w : World} {b : Nat} {p : Nat → Bool} (h : Flags w b p) : b < w.heap.size := by obtain ⟨cs, h, _⟩ := h; exact h.lt
theorem Flags.cell {w : World} {b : Nat} {p : Nat → Bool} (h : Flags w b p) (j : Nat) (hj : j < 256) : w.cell? ⟨b, j, none⟩ = some (.bool (p j)) ∧ w.frozen? ⟨b, j, none⟩ = false := by
  obtain ⟨cs, h, _, hc⟩ := h
  have h' : w.heap[b]? = some (.cells cs 4 (0, 0)) := h
  exact ⟨by rw [cell_of_row w b j _ _ _ h', hc j hj], frozen_of_row w b j _ _ h'⟩
theorem Flags.set {w : World} {b : Nat} {p : Nat → Bool} (h : Flags w b p) (k : Nat) (hk : k < 256) : Flags (w.setCell ⟨b, k, none⟩ (.bool true)) b (ins p k) := by
  obtain ⟨cs, h, hs, hc⟩ := h
  refine ⟨_, h.set k _, by simpa using hs, fun j hj => ?_⟩
  rw [Array.getElem?_setIfInBounds]
  by_cases e : k = j
  · subst e; rw [if_pos rfl, if_pos (by omega)]; simp [ins]
  · rw [if_neg e, hc j hj]
    have : (j == k) = false := by simp; omega
    simp [ins, this]
theorem Flags.far {w : World} {b : Nat} {p : Nat → Bool} (h : Flags w b p) {a : Addr} (hp : b ≠ a.block) (u : Value) : Flags (w.setCell a u) b p := by
  obtain ⟨cs, h, r⟩ := h; exact ⟨cs, h.far hp u, r⟩
theorem Flags.keep {w w' : World} {b : Nat} {p : Nat → Bool} (h : Flags w b p) (k : Below w.heap.size w w') : Flags w' b p := by
  obtain ⟨cs, h, r⟩ := h; exact ⟨cs, h.keep k, r⟩
theorem ElsB.keep {w w' : World} {a : Option Addr} {len : Nat} {z : Nat → Nat} (h : ElsB w a len z) (k : Below w.heap.size w w') : ElsB w' a len z := by
  intro h0
  obtain ⟨b, off, e, hb, hc⟩ := h h0
  exact ⟨b, off, e, Nat.lt_of_lt_of_le hb k.size, fun j hj => ⟨(k.cell (p := ⟨b, off + j, none⟩) hb).trans (hc j hj).1, (hc j hj).2⟩⟩

/-- The law's two rows. -/
structure Two (w : World) (bs ba : Nat) (p q : Nat → Bool) (wr : World) : Prop where
  s : Flags wr bs p
  a : Flags wr ba q
  ne : bs ≠ ba
  hs : w.heap.size ≤ bs
  ha : w.heap.size ≤ ba
  below : Below w.heap.size w wr
theorem Two.drew {w wr : World} {bs ba : Nat} {p q : Nat → Bool} (h : Two w bs ba p q wr) : Two w bs ba p q wr.drew := ⟨h.s, h.a, h.ne, h.hs, h.ha, h.below.drew⟩
end Go.Proofs.Ytddkloagaiibaaa
