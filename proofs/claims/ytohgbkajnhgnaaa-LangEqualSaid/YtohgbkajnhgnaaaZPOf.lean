import Derived.Test.YtohgbkajnhgnaaaZMUniq
import Derived.Test.YtohgbkajnhgnaaaZPMcW
import Derived.Test.YtohgbkajnhgnaaaZPMst
namespace Go.Proofs.Ytohgbkajnhgnaaa
open Go.RowKit Go.Maps Go.WideElems Go.ChangeMaps Go.MapKept
set_option linter.unusedVariables false
set_option linter.unusedSimpArgs false

theorem z_cell {i : Nat} {v : Value} (h : (zC 26)[i]? = some v) : v = .int .u8 0 ∨ v = .slice none 0 0 := by
  have hz := zDfa_size
  by_cases a : i < 256
  · rw [zDfa_cls11 i a] at h
    exact Or.inl (Option.some.inj h).symm
  · by_cases b : i = 256
    · subst b; rw [zDfa_tail.1] at h; exact Or.inr (Option.some.inj h).symm
    · by_cases c : i = 257
      · subst c; rw [zDfa_tail.2] at h; exact Or.inr (Option.some.inj h).symm
      · rw [Array.getElem?_eq_none (by omega)] at h; cases h
/-- A fresh variable is none of an automaton's rows. -/
theorem DM.setz {w : World} {b : Nat} {D : Dd} {C : Nat} (hR : DR D C) (h : DM w D) (hs : St w 26 b (zC 26)) (cs : Array Value) : DM (w.setRow b cs) D := by
  have hk := kept_setRow9 w b cs
  have hsz : (w.setRow b cs).heap.size = w.heap.size := setRow_size _ _ _
  have hC := (hR.c256 h.kl).1
  have key : ∀ {g i : Nat} {v : Value}, g < w.heap.size → w.cell? ⟨g, i, none⟩ = some v → v ≠ .int .u8 0 → v ≠ .slice none 0 0 → (w.setRow b cs).cell? ⟨g, i, none⟩ = some v := fun {g i v} hg hc h1 h2 => by
    have hgb : g ≠ b := fun e => by
      subst e
      rw [hs.at_] at hc
      rcases z_cell hc with e | e
      · exact h1 e
      · exact h2 e
    rw [hk.cell9 (g := g) (i := i) (by simpa using hgb) hg]
    exact hc
  refine ⟨h.sz, h.one, h.cl, h.kl, h.fN, h.fM, fun h0 => ?_, fun h0 => ?_⟩
  · obtain ⟨g, off, e, hg, hc⟩ := h.rN h0
    refine ⟨g, off, e, by rw [hsz]; exact hg, fun i hi => ⟨key hg (hc i hi).1 (fun e => by cases e) (fun e => by
      injection e with _ e _
      have := hR.len i hi
      omega), fun h1 => ?_⟩⟩
    obtain ⟨g', off', e', hg', hc'⟩ := (hc i hi).2 h1
    exact ⟨g', off', e', by rw [hsz]; exact hg', fun j hj => key hg' (hc' j hj) (fun e => by cases e) (fun e => by cases e)⟩
  · obtain ⟨g, off, e, hg, hc⟩ := h.rM h0
    exact ⟨g, off, e, by rw [hsz]; exact hg, fun j hj => key hg (hc j hj) (fun e => by cases e) (fun e => by cases e)⟩
theorem DBx.stored {w : World} {b : Nat} {D : Dd} {C : Nat} (hR : DR D C) (hD : DM w D) (h : St w 26 b (zC 26)) : DBx (w.setRow b D.cD) b D := ⟨h.setRow, hD.setz hR h _⟩

end Go.Proofs.Ytohgbkajnhgnaaa
