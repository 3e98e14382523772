import Derived.Test.YtohgbkajnhgnaaaZMCol
import Derived.Test.YtohgbkajnhgnaaaZPBy
import Derived.Laws.MakeOwn
namespace Go.Proofs.Ytohgbkajnhgnaaa
open Go.RowKit Go.Maps Go.WideElems Go.ChangeMaps Go.MapKept
set_option linter.unusedVariables false
set_option linter.unusedSimpArgs false

/-- A map and exactly how many entries it has. -/
def MapN (w : World) (k : TypeId) (b n : Nat) (Q : Value → Value → Prop) : Prop :=
  ∃ es clock, w.heap[b]? = some (.map es clock) ∧ Fit Try.prog k anyR es clock ∧ es.size = n ∧ (∀ e ∈ es.toList, Q e.key e.val) ∧ ∀ x y, Q x y → ∃ e ∈ es.toList, e.key = x
theorem MapN.ex {w : World} {k : TypeId} {b n : Nat} {Q : Value → Value → Prop} (h : MapN w k b n Q) : MapEx w k b n Q := by
  obtain ⟨es, clock, h1, h2, h3, h4⟩ := h
  exact ⟨es, clock, h1, h2, by omega, h4⟩
theorem MapN.made (w : World) (k : TypeId) (Q : Value → Value → Prop) (h0 : ∀ x y, ¬ Q x y) : MapN (w.alloc (.map #[] 0)) k w.heap.size 0 Q :=
  ⟨#[], 0, (MapKept.heap_alloc w _).1, ⟨by simp, stamped_empty 0, by simp⟩, rfl, by simp, fun x y h => absurd h (h0 x y)⟩
theorem MapN.lt {w : World} {k : TypeId} {b n : Nat} {Q : Value → Value → Prop} (h : MapN w k b n Q) : b < w.heap.size := h.ex.lt
theorem MapN.same {w w' : World} {k : TypeId} {b n : Nat} {Q : Value → Value → Prop} (h : MapN w k b n Q) (e : w'.heap[b]? = w.heap[b]?) : MapN w' k b n Q := by
  obtain ⟨es, clock, hb, r⟩ := h
  exact ⟨es, clock, e.trans hb, r⟩
theorem MapN.grown_own {w w' : World} {B t' size n k b N : Nat} {v : Value} {xs : List Value} {Q : Value → Value → Prop} (h : MapN w k b N Q) (ho : w.ownsRow B t' size v n xs) (hg : w.grownBy w' v.ownBlock) : MapN w' k b N Q := by
  refine h.same (hg.block b h.lt (fun e => ?_))
  obtain ⟨c, fz, hc⟩ := own_kind ho b e.symm
  obtain ⟨es, clock, hb, _⟩ := h
  rw [hc] at hb
  cases hb
/-- .. where a new key is put. -/
theorem MapN.update {w : World} {k t e : TypeId} {b n : Nat} {Q Q' : Value → Value → Prop} (h : MapN w k b n Q) (K : Keyed Try.prog k) (ht : Try.prog.underlying t = some (.map k e)) (hn : n < maxLen)
    {key val : Value} {kl : Lit} (hkey : keyOf Try.prog k key = some kl) (hnew : ∀ y, ¬ Q key y) (hQ : ∀ x y, Q x y → Q' x y) (hv : Q' key val) (hback : ∀ x y, Q' x y → x ≠ key → ∃ y', Q x y') :
    ∃ w', (Instr.mapUpdate t (.map (some b)) key val).run Try.prog w = .ok () w' ∧ MapN w' k b (n + 1) Q' ∧ w.grownBy w' (some b) := by
  obtain ⟨es, clock, hb, F, hs, hq, hall⟩ := h
  have hno : ∀ x ∈ es.toList, x.key ≠ key := fun x hx e0 => hnew x.val (by rw [← e0]; exact hq x hx)
  obtain ⟨F1, _, _⟩ := F.stay (R' := anyR) (fun x hx z hz => hz)
  have hrd : WideElems.rd Try.prog k anyR ⟨key, val, clock⟩ = some (kl, .held val) := by unfold WideElems.rd anyR; rw [hkey]; rfl
  rcases K.find w hkey es.toList F.keys with ⟨h1, h2⟩ | ⟨j, e0, h1, h2, h3⟩
  · refine ⟨setBlock w b (.map (es.push ⟨key, val, clock⟩) (clock + 1)), ?_, ⟨es.push ⟨key, val, clock⟩, clock + 1, heap_setBlock_same hb _, ⟨by simp; omega, stamped_push F.stamped h2, ?_⟩, by simp; omega, fun x hx => ?_, fun x y hx => ?_⟩, ⟨rfl, rfl, rfl, by simp [setBlock], fun i _ hi => heap_setBlock_other hb _ (fun e => hi (by rw [e]))⟩⟩
    · simp [Instr.mapUpdate, run_underlying ht, MapKept.run_getObj_map hb, K.check w false hkey, h1, MapKept.run_setObj_map _ hb, Result.andThen, setBlock]
    · intro x hx
      simp only [Array.toList_push, List.mem_append, List.mem_singleton] at hx
      rcases hx with hx | rfl
      · exact F1.reads x hx
      · exact ⟨_, hrd⟩
    · simp only [Array.toList_push, List.mem_append, List.mem_singleton] at hx
      rcases hx with hx | rfl
      · exact hQ _ _ (hq x hx)
      · exact hv
    · by_cases e0 : x = key
      · exact ⟨⟨key, val, clock⟩, by rw [Array.toList_push]; exact List.mem_append_right _ (List.mem_singleton.2 rfl), e0.symm⟩
      · obtain ⟨y', hy⟩ := hback x y hx e0
        obtain ⟨e1, h4, h5⟩ := hall x y' hy
        exact ⟨e1, by rw [Array.toList_push]; exact List.mem_append_left _ h4, h5⟩
  · exact absurd h3 (hno e0 (List.mem_of_getElem? h2))


end Go.Proofs.Ytohgbkajnhgnaaa

namespace Go.Proofs.Ytohgbkajnhgnaaa
open Go.RowKit Go.Maps Go.WideElems Go.ChangeMaps Go.MapKept
set_option linter.unusedVariables false
set_option linter.unusedSimpArgs false



end Go.Proofs.Ytohgbkajnhgnaaa
