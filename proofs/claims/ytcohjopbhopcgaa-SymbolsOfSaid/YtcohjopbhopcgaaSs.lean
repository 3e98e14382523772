import Derived.Test.YtcohjopbhopcgaaStr
namespace Go.Proofs.Ytcohjopbhopcgaa
open Go.RowKit
set_option linter.unusedVariables false
set_option linter.unusedSimpArgs false

/-- Texts in memory. -/
def SsAt (w : World) (a : Option Addr) (l : List ByteArray) : Prop := 0 < l.length → ∃ g off, a = some ⟨g, off, none⟩ ∧ g < w.heap.size ∧ ∀ j (h : j < l.length), w.cell? ⟨g, off + j, none⟩ = some (.string l[j])
theorem SsAt.below {w w' : World} {a : Option Addr} {l : List ByteArray} (h : SsAt w a l) (k : Below w.heap.size w w') : SsAt w' a l := by
  intro h0
  obtain ⟨g, off, e, hg, hc⟩ := h h0
  have := k.size
  exact ⟨g, off, e, by omega, fun j hj => (k.cell (p := ⟨g, off + j, none⟩) hg).trans (hc j hj)⟩
def sss (l : List ByteArray) : List Value := l.map Value.string
theorem own_sss {w : World} {B n c : Nat} {a : Option Addr} {l : List ByteArray} (hl : l.length = n) (h : w.ownsRow B 9 1 (.slice a n c) n (sss l)) : SsAt w a l := by
  intro h0
  obtain ⟨g, e, _, hg, hc⟩ := ownsRow_read h (by omega)
  exact ⟨g, 0, e, hg, fun j hj => by rw [Nat.zero_add, (hc j (by omega)).1]; simp [sss, hj]⟩
theorem Try.info_str15 : (Try.prog.info? 9).map (fun i => (i.zero, i.size, i.bytes)) = some (some (.string ⟨#[]⟩), 1, 16) := by kernel_rfl
theorem str_eq15 (a b : ByteArray) : (a.toList == b.toList) = decide (a = b) := by
  by_cases h : a = b
  · subst h; simp
  · have : ¬ a.toList = b.toList := by
      intro e
      rw [ByteArray.toList_eq, ByteArray.toList_eq] at e
      exact h (bytes_ext e)
    simp [h, this]
end Go.Proofs.Ytcohjopbhopcgaa
