import Derived.Test.YtcohjopbhopcgaaGAwk
import Derived.Test.YtcohjopbhopcgaaGRef
namespace Go.Proofs.Ytcohjopbhopcgaa
open Go.RowKit Go.Maps Go.WideElems Go.ChangeMaps Go.MapKept
set_option linter.unusedVariables false
set_option linter.unusedSimpArgs false

/-- The table (at the first block behind W) and the reference's list hold the names that the first k texts leave. -/
structure PlI (l : List ByteArray) (W : World) (k : Nat) (v : Value) (a : Option Addr) (m : Nat) (wr : World) : Prop where
  tb : TbM wr W.heap.size W.heap.size v (adU l k)
  rf : SsAt wr a (adU l k)
  len : (adU l k).length = m
  nil : m = 0 → a = none
  far : ∀ ad, a = some ad → ad.block < wr.heap.size ∧ ad.block ≠ W.heap.size ∧ some ad.block ≠ v.ownBlock
  bel : Below W.heap.size W wr
theorem PlI.keep {l : List ByteArray} {W : World} {k : Nat} {v : Value} {a : Option Addr} {m : Nat} {wr w' : World} (h : PlI l W k v a m wr) (b : Below wr.heap.size wr w') : PlI l W k v a m w' :=
  ⟨h.tb.keep b, h.rf.below b, h.len, h.nil, fun ad e => ⟨by have := (h.far ad e).1; have := b.size; omega, (h.far ad e).2⟩, h.bel.trans (b.mono h.bel.size)⟩
/-- Behind Add: the table is one further, the list is not. -/
theorem PlI.add {l : List ByteArray} {W : World} {k : Nat} {v v2 : Value} {a : Option Addr} {m : Nat} {wr w2 : World} (h : PlI l W k v a m wr) (hk : k < l.length)
    (m2 : TbM w2 W.heap.size W.heap.size v2 (adN (adU l k) l[k])) (c2 : TbC wr w2 W.heap.size v) (o2 : v2.ownBlock = v.ownBlock ∨ ∃ g, v2.ownBlock = some g ∧ wr.heap.size ≤ g) :
    TbM w2 W.heap.size W.heap.size v2 (adU l (k + 1)) ∧ SsAt w2 a (adU l k) ∧ (∀ ad, a = some ad → ad.block < w2.heap.size ∧ ad.block ≠ W.heap.size ∧ some ad.block ≠ v2.ownBlock) ∧ Below W.heap.size W w2 := by
  refine ⟨by rw [adU_succ hk]; exact m2, c2.ss (r := 0) h.rf (fun ad e => (h.far ad e).2), fun ad e => ?_, h.bel.trans (c2.below h.tb h.bel.size)⟩
  obtain ⟨h1, h2, h3⟩ := h.far ad e
  refine ⟨Nat.lt_of_lt_of_le h1 c2.size, h2, ?_⟩
  rcases o2 with o | ⟨g, o, hg⟩
  · rw [o]; exact h3
  · rw [o]; intro e2; injection e2 with e2; omega
theorem PlI.step {l : List ByteArray} {W : World} {k : Nat} {v2 : Value} {a a3 : Option Addr} {m m3 : Nat} {w2 w3 : World} (hk : k < l.length) (hn : m = 0 → a = none)
    (h : TbM w2 W.heap.size W.heap.size v2 (adU l (k + 1)) ∧ SsAt w2 a (adU l k) ∧ (∀ ad, a = some ad → ad.block < w2.heap.size ∧ ad.block ≠ W.heap.size ∧ some ad.block ≠ v2.ownBlock) ∧ Below W.heap.size W w2)
    (h1 : (adN (adU l k) l[k]).length = m3) (h2 : SsAt w3 a3 (adN (adU l k) l[k])) (b : Below w2.heap.size w2 w3) (h3 : (a3 = a ∧ m3 = m) ∨ 0 < m3 ∧ ∃ g, a3 = some ⟨g, 0, none⟩ ∧ w2.heap.size ≤ g ∧ g < w3.heap.size) : PlI l W (k + 1) v2 a3 m3 w3 := by
  have hlt := h.1.lt
  refine ⟨h.1.keep b, by rw [adU_succ hk]; exact h2, by rw [adU_succ hk]; exact h1, fun e => ?_, fun ad e => ?_, h.2.2.2.trans (b.mono h.2.2.2.size)⟩
  · rcases h3 with ⟨e1, e2⟩ | ⟨hp, _⟩
    · rw [e1]; exact hn (by omega)
    · omega
  · rcases h3 with ⟨e1, e2⟩ | ⟨_, g, e1, hg, hg3⟩
    · obtain ⟨i1, i2, i3⟩ := h.2.2.1 ad (by rw [← e1]; exact e)
      exact ⟨Nat.lt_of_lt_of_le i1 b.size, i2, i3⟩
    · rw [e1] at e
      injection e with e
      subst e
      refine ⟨hg3, by show g ≠ _; omega, fun e2 => ?_⟩
      have := (h.1.own.lt g e2.symm).2
      omega
end Go.Proofs.Ytcohjopbhopcgaa
