import Derived.Test.YtbacgnhkapancaaDoorVBase
namespace Go.Proofs.YtbacgnhkapancaaDoor
open Go.RowKit Go.Maps Go.WideElems Go.ChangeMaps Go.MapKept
set_option linter.unusedVariables false
set_option linter.unusedSimpArgs false

/-- What is told of a line that is asked for. -/
def EndsPost (s : ByteArray) (m : Nat) (n : Int) (w : World) (e : Ending) (w' : World) : Prop :=
  ∃ (a b : Nat) (ok : Bool), e = .returned (.tuple #[.int .i64 (a : Int), .int .i64 (b : Int), .bool ok]) ∧ ((ok = true ∧ LnIs (bz s) m n a b) ∨ (ok = false ∧ a = 0 ∧ b = 0 ∧ ∀ i, i ≤ m → ((lnF (bz s) i : Nat) : Int) ≠ n)) ∧ Below w.heap.size w w'

set_option maxHeartbeats 1000000 in
set_option maxRecDepth 100000 in
theorem ends13_any (s : ByteArray) (n : Int) (m : Nat) (hs : s.size = m) (hm : m ≤ 1000000) (w : World) :
    Calls Tryd.prog 20 #[.string s, .int .i64 n] w (EndsPost s m n w) := by
  have HS := Lib.hid hs
  go_enter Tryd.func20, Tryd.ntmps20
  go_wp2_with fail
  have HI : Hid (ItAt (w.iter s 0) w.heap.size s 0 ∧ Below w.heap.size w (w.iter s 0) ∧ ∀ j, j < 0 → bz s j = 10 → ((lnF (bz s) j : Nat) : Int) ≠ n) := ⟨ItAt.new w s, al w _, fun j h => by omega⟩
  go_loopw [7, 8] (fun v7 v8 wr => ∃ pos : Nat, pos ≤ m ∧ v7 = .int .i64 ((lnF (bz s) pos : Nat) : Int) ∧ v8 = .int .i64 ((frF (bz s) pos : Nat) : Int) ∧ Hid (ItAt wr w.heap.size s pos ∧ Below w.heap.size w wr ∧ ∀ j, j < pos → bz s j = 10 → ((lnF (bz s) j : Nat) : Int) ≠ n)) (fun _ _ wr => m - wr.iterPos w.heap.size)
  case atStart => exact ⟨0, Nat.zero_le _, rfl, rfl, HI⟩
  case round =>
    obtain ⟨pos, hp, rfl, rfl, HX⟩ := hrel
    have hl := lnF_le (bz s) pos
    have hf := frF_le (bz s) pos
    have hmu := HX.out.1.pos
    by_cases hlt : pos < m
    · have hlt' : pos < s.size := by omega
      have hnext : ∀ ty, (Instr.next (.pointer (some ⟨w.heap.size, 0, none⟩)) true ty).run Tryd.prog wr = _ := fun ty => Lib.run_next_any_at wr w.heap.size s pos ty HX.out.1 hlt'
      have HD := Lib.hid (dec_at s pos 10 hlt' (by decide))
      have HY : Hid (ItAt (wr.iterAt w.heap.size s (pos + (Utf8.decode s pos).2)) w.heap.size s (pos + (Utf8.decode s pos).2) ∧ Below w.heap.size w (wr.iterAt w.heap.size s (pos + (Utf8.decode s pos).2))) := ⟨Lib.iterAt_heap wr _ s pos _ HX.out.1, Lib.below_iterAt HX.out.2.1 (Nat.le_refl _) s _⟩
      generalize wr.iterAt w.heap.size s (pos + (Utf8.decode s pos).2) = W1 at hnext HY
      generalize (Utf8.decode s pos).1 = r at hnext HD
      generalize (Utf8.decode s pos).2 = d at hnext HD HY
      by_cases hr : r = 10
      · have hr' : ((r : Nat) : Int) = 10 := by omega
        have hr9 : (((r : Nat) : Int) != 10) = false := by simp [hr]
        have HR := Lib.hid (HD.out.2.2.1 hr)
        by_cases hn : ((lnF (bz s) pos : Nat) : Int) = n
        · have HL := Lib.hid (LnIs.stop hlt HR.out.2)
          have HN := Lib.hid hn
          clear hn
          have hn9 : (((lnF (bz s) pos : Nat) : Int) == n) = true := by simp [HN.out]
          go_wp2_with fail
          go_ret3
          exact ⟨_, _, true, rfl, Or.inl ⟨rfl, by rw [← HN.out]; exact HL.out⟩, HY.out.2⟩
        · have hn9 : (((lnF (bz s) pos : Nat) : Int) == n) = false := by simp [hn]
          have HE : Hid (lnF (bz s) (pos + d) = lnF (bz s) pos + 1 ∧ frF (bz s) (pos + d) = pos + 1) := ⟨by rw [HR.out.1, lnF, if_pos HR.out.2], by rw [HR.out.1, frF, if_pos HR.out.2]⟩
          have HN := Lib.hid hn
          clear hn
          go_wp2_with fail
          go_roundw
          case rel =>
            refine ⟨pos + d, by have := HD.out.2.1; omega, by rw [HE.out.1]; rfl, by rw [HE.out.2]; rfl, HY.out.1, HY.out.2, fun j hj hz => ?_⟩
            have := HR.out.1
            by_cases e : j < pos
            · exact HX.out.2.2 j e hz
            · rw [show j = pos by omega]; exact HN.out
          case measure => rw [HY.out.1.pos, hmu]; have := HD.out.1; omega
      · have hr' : ¬ (((r : Nat) : Int) = 10) := by omega
        have hr9 : (((r : Nat) : Int) != 10) = true := by simp [hr']
        have HZ := Lib.hid (HD.out.2.2.2 hr)
        have HE := Lib.hid (ln_flat (bz s) (i := pos) d (fun j h1 h2 => by have := HZ.out (j - pos) (by omega); rwa [show pos + (j - pos) = j by omega] at this))
        go_wp2_with fail
        go_roundw
        case rel =>
          refine ⟨pos + d, by have := HD.out.2.1; omega, by rw [HE.out.1], by rw [HE.out.2], HY.out.1, HY.out.2, fun j hj hz => ?_⟩
          by_cases e : j < pos
          · exact HX.out.2.2 j e hz
          · have := HZ.out (j - pos) (by omega)
            rw [show pos + (j - pos) = j by omega] at this
            exact absurd hz this
        case measure => rw [HY.out.1.pos, hmu]; have := HD.out.1; omega
    · obtain rfl : pos = m := by omega
      have hnext : ∀ ty, (Instr.next (.pointer (some ⟨w.heap.size, 0, none⟩)) true ty).run Tryd.prog wr = _ := fun ty => Lib.run_next_end_at wr w.heap.size s pos ty HX.out.1 (by omega)
      have HL := Lib.hid (LnIs.last (bz s) pos)
      by_cases hn : ((lnF (bz s) pos : Nat) : Int) = n
      · have HN := Lib.hid hn
        clear hn
        have hn9 : (((lnF (bz s) pos : Nat) : Int) != n) = false := by simp [HN.out]
        go_wp2_with fail
        go_ret3
        exact ⟨_, _, true, rfl, Or.inl ⟨rfl, by rw [← HN.out]; exact HL.out⟩, HX.out.2.1⟩
      · have hn9 : (((lnF (bz s) pos : Nat) : Int) != n) = true := by simp [hn]
        have HN := Lib.hid hn
        clear hn
        go_wp2_with fail
        go_ret3
        exact ⟨0, 0, false, rfl, Or.inr ⟨rfl, rfl, rfl, fun i hi => no_line HX.out.2.2 HN.out (pos - i) i (by omega)⟩, HX.out.2.1⟩
end Go.Proofs.YtbacgnhkapancaaDoor
