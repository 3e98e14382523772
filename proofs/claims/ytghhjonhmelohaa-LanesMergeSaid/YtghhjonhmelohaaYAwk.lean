import Derived.Test.YtghhjonhmelohaaYNotes
namespace Go.Proofs.Ytghhjonhmelohaa
open Go.RowKit Go.Maps Go.WideElems Go.ChangeMaps Go.MapKept
set_option linter.unusedVariables false
set_option linter.unusedSimpArgs false

/-- The example's token. -/
def exT : Tok := ⟨0, ⟨#[35]⟩, 0⟩
theorem ex_notes : ntF (kdF (fun _ => 2) 1) [exT] 1 = [⟨exT, 0, true, false⟩] := by
  have h : kdF (fun _ => 2) 1 exT.r = 2 := by simp [kdF, exT]
  have hb : bkF exT.s = false := by decide
  rw [ntF, dif_pos (by decide), if_pos (by simpa using h)]
  simp [ntF, ntAt, ahF, befF, behF, hb]

set_option maxHeartbeats 2000000 in
set_option maxRecDepth 100000 in
theorem awake14_any (w : World) : Calls Try.prog 6 #[] w fun e w' => e = .returned (.bool true) ∧ Below w.heap.size w w' := by
  have k1 := al w (.cells #[.int .i64 2] 3)
  have k2 := al (w.alloc (.cells #[.int .i64 2] 3)) (.cells #[.int .i64 0, .string ⟨#[35]⟩, .int .i64 0] 32)
  have HB := Lib.hid (k1.trans (k2.mono k1.size))
  have b1 : Bl ((w.alloc (.cells #[.int .i64 2] 3)).alloc (.cells #[.int .i64 0, .string ⟨#[35]⟩, .int .i64 0] 32)) 3 w.heap.size #[.int .i64 2] := (Bl.new w 3 #[.int .i64 2]).below k2 (by simp)
  have b2 : Bl ((w.alloc (.cells #[.int .i64 2] 3)).alloc (.cells #[.int .i64 0, .string ⟨#[35]⟩, .int .i64 0] 32)) 32 (w.heap.size + 1) #[.int .i64 0, .string ⟨#[35]⟩, .int .i64 0] := by
    have := Bl.new (w.alloc (.cells #[.int .i64 2] 3)) 32 #[.int .i64 0, .string ⟨#[35]⟩, .int .i64 0]
    rwa [World.size_alloc] at this
  have hZ : ZAt ((w.alloc (.cells #[.int .i64 2] 3)).alloc (.cells #[.int .i64 0, .string ⟨#[35]⟩, .int .i64 0] 32)) (some ⟨w.heap.size, 0, none⟩) 1 (fun _ => 2) := fun _ => ⟨_, _, rfl, b1.lt, fun j hj => by
    obtain rfl : j = 0 := by omega
    exact (bl_one b1).1⟩
  have hT : TkAt ((w.alloc (.cells #[.int .i64 2] 3)).alloc (.cells #[.int .i64 0, .string ⟨#[35]⟩, .int .i64 0] 32)) (some ⟨w.heap.size + 1, 0, none⟩) [exT] := fun _ => ⟨_, _, rfl, b2.lt, fun j hj => by
    obtain ⟨y0, y1, y2, _⟩ := row3t b2
    simp at hj
    rcases (by omega : j = 0 ∨ j = 1 ∨ j = 2) with rfl | rfl | rfl
    · exact y0
    · exact y1
    · exact y2⟩
  have hN := notes_any 1 1 _ (fun _ => 2) 1 1 _ [exT] rfl (by omega) (by omega) (by intro t ht; simp at ht; subst ht; decide) _ hZ hT
  rw [ex_notes] at hN
  have HN := Lib.hid hN
  clear k1 k2 b1 b2 hZ hT hN
  go_enter Try.func6, Try.ntmps6
  go_wp2_with (go_at_call 17; refine HN.out.mono ?_)
  rintro e w3 ⟨a3, c3, rfl, hA3, b3⟩
  obtain ⟨g, o, rfl, _, y0, y1, y2, y3, y4, y5⟩ := hA3.get (k := 0) (x := ⟨exT, 0, true, false⟩) rfl
  have H3 := Lib.hid (HB.out.trans (b3.mono HB.out.size))
  simp only [Nat.zero_mul, Nat.add_zero] at y3 y4 y5
  clear hA3 b3 HN HB y0 y1 y2
  go_wp2_with fail
  go_ret
  exact ⟨rfl, H3.out⟩
end Go.Proofs.Ytghhjonhmelohaa
