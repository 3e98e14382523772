import Derived.Test.YtkdhdlokilgccaaZDREndsO
namespace Go.Proofs.Ytkdhdlokilgccaa
open Go.RowKit
set_option linter.unusedVariables false

theorem ends_any (t : Rx) (hw : t.wf) : EndsOk t := by
  induction t with
  | leaf x =>
    have hk : x.k = 0 ∨ x.k = 1 := by have := takesZ_cases x.k; have := hw.1; omega
    rcases hk with h | h
    · exact ends_none x h hw
    · exact ends_one x h hw
  | un x s ih =>
    have hk : x.k = 4 ∨ x.k = 5 ∨ x.k = 6 := by have := takesZ_cases x.k; have := hw.1; omega
    rcases hk with h | h | h
    · exact ends_star x s h hw (ih hw.2.2)
    · exact ends_plus x s h hw (ih hw.2.2)
    · exact ends_opt x s h hw (ih hw.2.2)
  | bin x s t ihs iht =>
    have hk : x.k = 2 ∨ x.k = 3 := by have := takesZ_cases x.k; have := hw.1; omega
    rcases hk with h | h
    · exact ends_cat x s t h hw (ihs hw.2.2.1) (iht hw.2.2.2)
    · exact ends_alt x s t h hw (ihs hw.2.2.1) (iht hw.2.2.2)
/-- Just the first place. -/
def at0 : Nat → Bool := fun j => j == 0

set_option maxHeartbeats 1000000 in
set_option maxRecDepth 100000 in
theorem rhasT_any (t : Rx) (hw : t.wf) (s : ByteArray) (N : Nat) (hs : s.size = N) (hN : N ≤ 99998) (g off n cap : Nat) (w : World) (hL : RxAt w (some ⟨g, off, none⟩) t.flat) (hn : t.flat.length = n) (hmax : n ≤ 1000000) (hcap : n ≤ cap ∧ cap ≤ maxLen) :
    Calls Try.prog 15 #[.slice (some ⟨g, off, none⟩) n cap, .string s] w fun e w' => e = .returned (.bool (endF s N t at0 N)) ∧ Below w.heap.size w w' := by
  have hB : Below w.heap.size w (w.alloc (.cells ((madeCells #[.bool false] (N + 1)).setIfInBounds 0 (.bool true)) 4)) := (Below.refl _ _).alloc (Nat.le_refl _) _
  have hM := St.new w 4 (madeCells #[.bool false] (N + 1))
  have hM1 := St.new w 4 ((madeCells #[.bool false] (N + 1)).setIfInBounds 0 (.bool true))
  have hcell : ∀ j, j < N + 1 → (madeCells #[.bool false] (N + 1))[j]? = some (.bool false) := fun j hj => by simp [madeCells, hj, Nat.mod_one]
  have c0 : (w.alloc (.cells (madeCells #[.bool false] (N + 1)) 4)).cell? ⟨w.heap.size, 0, none⟩ = some (.bool false) := by rw [hM.cell]; exact hcell 0 (by omega)
  have f0 := hM.thaw 0
  have hF : BAt (w.alloc (.cells ((madeCells #[.bool false] (N + 1)).setIfInBounds 0 (.bool true)) 4)) (some ⟨w.heap.size, 0, none⟩) (N + 1) at0 := by
    intro _
    refine ⟨w.heap.size, 0, rfl, hM1.lt, fun j hj => ?_⟩
    rw [Nat.zero_add, hM1.cell]
    by_cases h0 : j = 0
    · subst h0
      rw [Array.getElem?_setIfInBounds_self, if_pos (by rw [size_madeCells]; omega)]; rfl
    · rw [Array.getElem?_setIfInBounds_ne (by omega), hcell j hj]
      simp [at0, h0]
  have HC := Lib.hid (ends_any t hw s N hs hN g off n cap _ at0 (some ⟨w.heap.size, 0, none⟩) (N + 1) (hL.below hB) hn hmax hcap hF)
  have HB := Lib.hid hB
  have HS := Lib.hid hs
  have hmk := make_bools N hN
  have hss := hs
  have hw1 : IntKind.i64.wrap ((N : Int) + 1) = (N : Int) + 1 := IntWalk.i64_in _ (by omega)
  have hsz := hB.size
  clear hL hn hcap hB hM hM1 hcell hF hw hs
  go_enter Try.func15, Try.ntmps15
  go_wp2_with fail
  refine HC.out.mono ?_
  rintro e w5 ⟨a5, c5, rfl, h5, b5⟩
  obtain ⟨g5, o5, rfl, hg5, hc5⟩ := h5 (by omega)
  have d5 := hc5 N (by omega)
  have i1 : (N : Int) < (N : Int) + 1 := by omega
  clear hc5 h5
  go_wp2_with fail
  go_ret
  exact ⟨rfl, HB.out.trans (b5.mono hsz)⟩
end Go.Proofs.Ytkdhdlokilgccaa
