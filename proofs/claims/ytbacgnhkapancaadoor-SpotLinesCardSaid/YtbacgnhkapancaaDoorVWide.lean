import Derived.Test.YtbacgnhkapancaaDoorVOf
namespace Go.Proofs.YtbacgnhkapancaaDoor
open Go.RowKit Go.Maps Go.WideElems Go.ChangeMaps Go.MapKept
set_option linter.unusedVariables false
set_option linter.unusedSimpArgs false

theorem max_if (a b : Nat) (x y : Int) (hx : x = (a : Int)) (hy : y = (b : Int)) : (if x < y then y else x) = ((max a b : Nat) : Int) := by
  subst hx; subst hy
  split <;> omega

set_option maxHeartbeats 1000000 in
set_option maxRecDepth 100000 in
theorem wide13_any (s : ByteArray) (m : Nat) (hs : s.size = m) (hm : m ≤ 1000000) (w : World) :
    Calls Tryd.prog 13 #[.string s] w fun e w' => ∃ v : Nat, e = .returned (.int .i64 (v : Int)) ∧ Wd (bz s) m v ∧ Below w.heap.size w w' := by
  have HS := Lib.hid hs
  go_enter Tryd.func13, Tryd.ntmps13
  go_wp2_with fail
  have HI : Hid (ItAt (w.iter s 0) w.heap.size s 0 ∧ Below w.heap.size w (w.iter s 0) ∧ WdI (bz s) m 0 0) := ⟨ItAt.new w s, al w _, WdI.zero _ _⟩
  go_loopw [3, 4] (fun v3 v4 wr => ∃ pos wd : Nat, pos ≤ m ∧ wd ≤ m ∧ v3 = .int .i64 (wd : Int) ∧ v4 = .int .i64 ((frF (bz s) pos : Nat) : Int) ∧ Hid (ItAt wr w.heap.size s pos ∧ Below w.heap.size w wr ∧ WdI (bz s) m pos wd)) (fun _ _ wr => m - wr.iterPos w.heap.size)
  case atStart => exact ⟨0, 0, Nat.zero_le _, Nat.zero_le _, rfl, rfl, HI⟩
  case round =>
    obtain ⟨pos, wd, hp, hwd, rfl, rfl, HX⟩ := hrel
    have hf := frF_le (bz s) pos
    have hmu := HX.out.1.pos
    by_cases hlt : pos < m
    · have hlt' : pos < s.size := by omega
      have hnext : ∀ ty, (Instr.next (.pointer (some ⟨w.heap.size, 0, none⟩)) true ty).run Tryd.prog wr = _ := fun ty => Lib.run_next_any_at wr w.heap.size s pos ty HX.out.1 hlt'
      have HD := Lib.hid (dec_at s pos 10 hlt' (by decide))
      have HY : Hid (ItAt (wr.iterAt w.heap.size s (pos + (Utf8.decode s pos).2)) w.heap.size s (pos + (Utf8.decode s pos).2) ∧ Below w.heap.size w (wr.iterAt w.heap.size s (pos + (Utf8.decode s pos).2))) := ⟨Lib.iterAt_heap wr _ s pos _ HX.out.1, Lib.below_iterAt HX.out.2.1 (Nat.le_refl _) s _⟩
      generalize wr.iterAt w.heap.size s (pos + (Utf8.decode s pos).2) = W1 at hnext HY
      generalize (Utf8.decode s pos).1 = r at hnext HD
      generalize (Utf8.decode s pos).2 = d at hnext HD HY
      by_cases hr : r = 10
      · have hr' : ((r : Nat) : Int) = 10 := by omega
        have HR := Lib.hid (HD.out.2.2.1 hr)
        have HE : Hid (frF (bz s) (pos + d) = pos + 1 ∧ WdI (bz s) m (pos + d) (max wd (pos - frF (bz s) pos))) := ⟨by rw [HR.out.1, frF, if_pos HR.out.2], by rw [HR.out.1]; exact HX.out.2.2.step hlt HR.out.2⟩
        have HM := Lib.hid (max_if wd (pos - frF (bz s) pos) (wd : Int) ((pos : Int) - ((frF (bz s) pos : Nat) : Int)) rfl (by omega))
        go_wp2_with fail
        go_roundw
        case rel => exact ⟨pos + d, max wd (pos - frF (bz s) pos), by have := HD.out.2.1; omega, by omega, by first | rw [HM.out] | rw [← HM.out], by rw [HE.out.1]; rfl, HY.out.1, HY.out.2, HE.out.2⟩
        case measure => rw [HY.out.1.pos, hmu]; have := HD.out.1; omega
      · have hr' : ¬ (((r : Nat) : Int) = 10) := by omega
        have HZ := Lib.hid (HD.out.2.2.2 hr)
        have HE := Lib.hid (ln_flat (bz s) (i := pos) d (fun j h1 h2 => by have := HZ.out (j - pos) (by omega); rwa [show pos + (j - pos) = j by omega] at this))
        go_wp2_with fail
        go_roundw
        case rel => exact ⟨pos + d, wd, by have := HD.out.2.1; omega, hwd, rfl, by rw [HE.out.2], HY.out.1, HY.out.2, HX.out.2.2.skip (by have := HD.out.2.1; omega) HZ.out⟩
        case measure => rw [HY.out.1.pos, hmu]; have := HD.out.1; omega
    · obtain rfl : pos = m := by omega
      have hnext : ∀ ty, (Instr.next (.pointer (some ⟨w.heap.size, 0, none⟩)) true ty).run Tryd.prog wr = _ := fun ty => Lib.run_next_end_at wr w.heap.size s pos ty HX.out.1 (by omega)
      have HM := Lib.hid (max_if wd (pos - frF (bz s) pos) (wd : Int) ((pos : Int) - ((frF (bz s) pos : Nat) : Int)) rfl (by omega))
      by_cases hw : (wd : Int) < (pos : Int) - ((frF (bz s) pos : Nat) : Int)
      · go_wp2_with fail
        go_ret
        exact ⟨max wd (pos - frF (bz s) pos), by rw [← HM.out, if_pos hw]; rfl, HX.out.2.2.done, HX.out.2.1⟩
      · go_wp2_with fail
        go_ret
        exact ⟨max wd (pos - frF (bz s) pos), by rw [← HM.out, if_neg (by omega)]; rfl, HX.out.2.2.done, HX.out.2.1⟩

set_option maxHeartbeats 1000000 in
set_option maxRecDepth 100000 in
theorem indent13_any (s : ByteArray) (m : Nat) (hs : s.size = m) (hm : m ≤ 1000000) (w : World) :
    Calls Tryd.prog 14 #[.string s] w fun e w' => ∃ v : Nat, e = .returned (.int .i64 (v : Int)) ∧ InD (bz s) m v ∧ Below w.heap.size w w' := by
  have HS := Lib.hid hs
  go_enter Tryd.func14, Tryd.ntmps14
  go_wp2_with fail
  have HI : Hid (ItAt (w.iter s 0) w.heap.size s 0 ∧ Below w.heap.size w (w.iter s 0) ∧ ∀ i, i < 0 → bz s i = 32) := ⟨ItAt.new w s, al w _, fun i h => by omega⟩
  go_loopw [3] (fun _ wr => ∃ pos : Nat, pos ≤ m ∧ Hid (ItAt wr w.heap.size s pos ∧ Below w.heap.size w wr ∧ ∀ i, i < pos → bz s i = 32)) (fun _ wr => m - wr.iterPos w.heap.size)
  case atStart => exact ⟨0, Nat.zero_le _, HI⟩
  case round =>
    obtain ⟨pos, hp, HX⟩ := hrel
    have hmu := HX.out.1.pos
    by_cases hlt : pos < m
    · have hlt' : pos < s.size := by omega
      have hnext : ∀ ty, (Instr.next (.pointer (some ⟨w.heap.size, 0, none⟩)) true ty).run Tryd.prog wr = _ := fun ty => Lib.run_next_any_at wr w.heap.size s pos ty HX.out.1 hlt'
      have HD := Lib.hid (dec_at s pos 32 hlt' (by decide))
      have HY : Hid (ItAt (wr.iterAt w.heap.size s (pos + (Utf8.decode s pos).2)) w.heap.size s (pos + (Utf8.decode s pos).2) ∧ Below w.heap.size w (wr.iterAt w.heap.size s (pos + (Utf8.decode s pos).2))) := ⟨Lib.iterAt_heap wr _ s pos _ HX.out.1, Lib.below_iterAt HX.out.2.1 (Nat.le_refl _) s _⟩
      generalize wr.iterAt w.heap.size s (pos + (Utf8.decode s pos).2) = W1 at hnext HY
      generalize (Utf8.decode s pos).1 = r at hnext HD
      generalize (Utf8.decode s pos).2 = d at hnext HD HY
      by_cases hr : r = 32
      · have hr' : ((r : Nat) : Int) = 32 := by omega
        have hr9 : (((r : Nat) : Int) != 32) = false := by simp [hr]
        have HR := Lib.hid (HD.out.2.2.1 hr)
        go_wp2_with fail
        go_roundw
        case rel =>
          refine ⟨pos + d, by have := HD.out.2.1; omega, HY.out.1, HY.out.2, fun i hi => ?_⟩
          have := HR.out.1
          by_cases e : i < pos
          · exact HX.out.2.2 i e
          · rw [show i = pos by omega]; exact HR.out.2
        case measure => rw [HY.out.1.pos, hmu]; have := HD.out.1; omega
      · have hr' : ¬ (((r : Nat) : Int) = 32) := by omega
        have hr9 : (((r : Nat) : Int) != 32) = true := by simp [hr']
        have HZ : Hid (bz s pos ≠ 32) := by have := HD.out.2.2.2 hr 0 HD.out.1; exact this
        go_wp2_with fail
        go_ret
        exact ⟨pos, rfl, ⟨hp, HX.out.2.2, fun _ => HZ.out⟩, HY.out.2⟩
    · obtain rfl : pos = m := by omega
      have hnext : ∀ ty, (Instr.next (.pointer (some ⟨w.heap.size, 0, none⟩)) true ty).run Tryd.prog wr = _ := fun ty => Lib.run_next_end_at wr w.heap.size s pos ty HX.out.1 (by omega)
      go_wp2_with fail
      go_ret
      exact ⟨pos, rfl, ⟨hp, HX.out.2.2, fun h => by omega⟩, HX.out.2.1⟩

set_option maxHeartbeats 1000000 in
set_option maxRecDepth 100000 in
theorem lines13_any (s : ByteArray) (m : Nat) (hs : s.size = m) (hm : m ≤ 1000000) (w : World) :
    Calls Tryd.prog 12 #[.string s] w fun e w' => e = .returned (.int .i64 ((lnF (bz s) m : Nat) : Int)) ∧ Below w.heap.size w w' := by
  have HO := Lib.hid (sof13_any s (m : Int) m hs hm w)
  have HC := Lib.hid (clp_nat (m := m) (k := m) (Nat.le_refl _))
  go_enter Tryd.func12, Tryd.ntmps12
  go_wp2_with (go_at_call 8; refine HO.out.mono ?_; rintro e w1 ⟨rfl, kb⟩; refine Hid.out ?_)
  refine Lib.hid ?_
  rw [HC.out]
  have HK := Lib.hid kb
  clear kb
  have hfld : ∀ (W : World) (x y : Value), (Instr.field 23 (.agg #[x, y]) 0).run Tryd.prog W = .ok x W := fun _ _ _ => by kernel_rfl
  go_wp2_with fail
  go_ret
  exact ⟨rfl, HK.out⟩
end Go.Proofs.YtbacgnhkapancaaDoor
