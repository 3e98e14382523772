import Derived.Test.YtghhjonhmelohaaYKind
import Derived.Test.YtghhjonhmelohaaShelf
namespace Go.Proofs.Ytghhjonhmelohaa
open Go.RowKit Go.Maps Go.WideElems Go.ChangeMaps Go.MapKept
set_option linter.unusedVariables false
set_option linter.unusedSimpArgs false

set_option maxHeartbeats 1000000 in
set_option maxRecDepth 100000 in
theorem sclone_any (s : ByteArray) (h : s.size ≤ 100000) (w : World) : Calls Try.prog 21 #[.string s] w fun e w' => e = .returned (.string s) ∧ Below w.heap.size w w' := by
  have HC := Lib.hid (Try.stringslite_Clone s w (by omega))
  go_enter Try.func21, Try.ntmps21
  go_wp2_with (go_at_call 27; refine HC.out.mono ?_; rintro e w2 ⟨rfl, b2⟩)
  go_ret
  exact ⟨rfl, b2⟩
theorem row3t {w : World} {g : Nat} {c0 c1 c2 : Value} {t : TypeId} (h : Bl w t g #[c0, c1, c2]) :
    w.cell? ⟨g, 0, none⟩ = some c0 ∧ w.cell? ⟨g, 1, none⟩ = some c1 ∧ w.cell? ⟨g, 2, none⟩ = some c2 ∧ w.frozen? ⟨g, 0, none⟩ = false ∧ w.frozen? ⟨g, 1, none⟩ = false ∧ w.frozen? ⟨g, 2, none⟩ = false := by
  have h : w.heap[g]? = some (.cells #[c0, c1, c2] t (0, 0)) := h
  refine ⟨?_, ?_, ?_, frozen_of_row w g 0 _ _ h, frozen_of_row w g 1 _ _ h, frozen_of_row w g 2 _ _ h⟩ <;> (rw [cell_of_row w g _ _ _ _ h]; rfl)

theorem Bl.far {w : World} {t g : Nat} {cs : Array Value} (h : Bl w t g cs) {p : Addr} (hp : g ≠ p.block) (u : Value) : Bl (w.setCell p u) t g cs := (Below.heap_setCell w p u g hp).trans h
theorem Bl.set3 {w : World} {t g : Nat} {c0 c1 c2 : Value} (h : Bl w t g #[c0, c1, c2]) (d0 d1 d2 : Value) : Bl (((w.setCell ⟨g, 0, none⟩ d0).setCell ⟨g, 1, none⟩ d1).setCell ⟨g, 2, none⟩ d2) t g #[d0, d1, d2] := by
  have := ((h.set 0 d0).set 1 d1).set 2 d2
  simpa using this

set_option maxHeartbeats 1000000 in
set_option maxRecDepth 100000 in
theorem own_any (t : Tok) (h : t.s.size ≤ 100000) (w : World) :
    Calls Try.prog 22 #[.agg #[.int .i64 t.r, .string t.s, .int .i64 t.p]] w fun e w' => e = .returned (.agg #[.int .i64 t.r, .string t.s, .int .i64 t.p]) ∧ Below w.heap.size w w' := by
  obtain ⟨r, s, p⟩ := t
  dsimp only at h ⊢
  have kb := al w (.cells #[.int .i64 r, .string s, .int .i64 p] 32)
  have kc := al (w.alloc (.cells #[.int .i64 r, .string s, .int .i64 p] 32)) (.cells #[.int .i64 0, .string ⟨#[]⟩, .int .i64 0] 32)
  have HB := Lib.hid (kb.trans (kc.mono kb.size))
  have H1 := Lib.hid (((Bl.new w 32 #[.int .i64 r, .string s, .int .i64 p])).below kc (by simp))
  have H2 := Lib.hid (Bl.new (w.alloc (.cells #[.int .i64 r, .string s, .int .i64 p] 32)) 32 #[.int .i64 0, .string ⟨#[]⟩, .int .i64 0])
  have HS := Lib.hid h
  clear kb kc h
  go_enter Try.func22, Try.ntmps22
  go_wp2_with fail
  refine (sclone_any s HS.out _).mono ?_
  rintro e w3 ⟨rfl, b3⟩
  obtain ⟨g, hg⟩ : ∃ g, w.heap.size = g := ⟨_, rfl⟩
  have Hg := Lib.hid hg
  have hb := HB.out.trans (b3.mono HB.out.size)
  have h1 := H1.out.below b3 (by simp; omega)
  have h2 := H2.out.below b3 (by simp)
  rw [World.size_alloc] at h2
  rw [hg] at h1 h2 ⊢
  have HB3 : Hid (Below g w w3) := by rw [← hg]; exact hb
  have hz := b3.size
  have HE : Hid (Bl ((((w3.setCell ⟨g, 1, none⟩ (.string s)).setCell ⟨g + 1, 0, none⟩ (.int .i64 r)).setCell ⟨g + 1, 1, none⟩ (.string s)).setCell ⟨g + 1, 2, none⟩ (.int .i64 p)) 32 (g + 1) #[.int .i64 r, .string s, .int .i64 p] ∧ Below g w ((((w3.setCell ⟨g, 1, none⟩ (.string s)).setCell ⟨g + 1, 0, none⟩ (.int .i64 r)).setCell ⟨g + 1, 1, none⟩ (.string s)).setCell ⟨g + 1, 2, none⟩ (.int .i64 p))) :=
    ⟨(h2.far (p := ⟨g, 1, none⟩) (by simp) (.string s)).set3 _ _ _, (((HB3.out.setCell (p := ⟨g, 1, none⟩) (Nat.le_refl _) _).setCell (p := ⟨g + 1, 0, none⟩) (by simp) _).setCell (p := ⟨g + 1, 1, none⟩) (by simp) _).setCell (p := ⟨g + 1, 2, none⟩) (by simp) _⟩
  obtain ⟨a0, a1, a2, f0, f1, f2⟩ := row3t h1
  obtain ⟨c0, c1, c2, d0, d1, d2⟩ := row3t h2
  clear HB H1 H2 b3 hb h1 h2 HS hg hz
  go_wp2_with fail
  generalize ((((w3.setCell ⟨g, 1, none⟩ (.string s)).setCell ⟨g + 1, 0, none⟩ (.int .i64 r)).setCell ⟨g + 1, 1, none⟩ (.string s)).setCell ⟨g + 1, 2, none⟩ (.int .i64 p)) = w4 at HE ⊢
  obtain ⟨q0, q1, q2, _, _, _⟩ := row3t HE.out.1
  exact bodyPost_ret (v := .agg #[.int .i64 r, .string s, .int .i64 p]) (by simp [results, Try.results22, go_sem, q0, q1, q2]) rfl ⟨rfl, by rw [Hg.out]; exact HE.out.2⟩
end Go.Proofs.Ytghhjonhmelohaa
