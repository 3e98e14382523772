import Derived.Test.YtbacgnhkapancaaDoorVBase
namespace Go.Proofs.YtbacgnhkapancaaDoor
open Go.RowKit Go.Maps Go.WideElems Go.ChangeMaps Go.MapKept
set_option linter.unusedVariables false
set_option linter.unusedSimpArgs false

set_option maxHeartbeats 1000000 in
set_option maxRecDepth 100000 in
theorem sof13_any (s : ByteArray) (x : Int) (m : Nat) (hs : s.size = m) (hm : m ≤ 1000000) (w : World) :
    Calls Tryd.prog 8 #[.string s, .int .i64 x] w fun e w' => e = .returned (.agg #[.int .i64 ((lnF (bz s) (clp m x) : Nat) : Int), .int .i64 (((clp m x : Nat) : Int) - ((frF (bz s) (clp m x) : Nat) : Int) + 1)]) ∧ Below w.heap.size w w' := by
  have hc := clp_eq m x
  have hcl := clp_le m x
  generalize clp m x = n at hc hcl ⊢
  have HC := Lib.hid hc
  clear hc
  have HS := Lib.hid hs
  go_enter Tryd.func8, Tryd.ntmps8
  go_upto_region 3 with fail
  rw [HC.out]
  generalize (if x < 0 then 0 else x) = y0
  have k0 := al w (.cells #[.int .i64 0, .int .i64 0] 23)
  have s0 := Bl.new w 23 #[.int .i64 0, .int .i64 0]
  have z0 : (w.alloc (.cells #[.int .i64 0, .int .i64 0] 23)).heap.size = w.heap.size + 1 := by simp
  generalize w.alloc (.cells #[.int .i64 0, .int .i64 0] 23) = W0 at k0 s0 z0 ⊢
  have H0 := Lib.hid (And.intro k0 (And.intro s0 z0))
  clear k0 s0 z0
  have hn : ¬ ((n : Int) < 0) := by omega
  have hn2 : (n : Int) ≤ (m : Int) := by omega
  go_wp2_with fail
  have ht : (s.extract 0 n).size = n := by rw [ByteArray.size_extract]; omega
  have hb := ln_congr (z := bz (s.extract 0 n)) (y := bz s) n (fun i hi => by rw [bz_extract s 0 n i (by omega) (by omega), Nat.zero_add])
  generalize s.extract 0 n = t at ht hb ⊢
  have HB := Lib.hid hb
  clear hb
  have HI : Hid (ItAt (W0.iter t 0) W0.heap.size t 0 ∧ Below W0.heap.size W0 (W0.iter t 0)) := ⟨ItAt.new W0 t, al W0 _⟩
  go_loopw [5, 6, 7, 8] (fun v5 v6 _ _ wr => ∃ pos : Nat, pos ≤ n ∧ v5 = .int .i64 ((lnF (bz t) pos : Nat) : Int) ∧ v6 = .int .i64 ((frF (bz t) pos : Nat) : Int) ∧ Hid (ItAt wr W0.heap.size t pos ∧ Below W0.heap.size W0 wr)) (fun _ _ _ _ wr => n - wr.iterPos W0.heap.size)
  case atStart => exact ⟨0, Nat.zero_le _, rfl, rfl, HI⟩
  case round =>
    obtain ⟨pos, hp, rfl, rfl, HX⟩ := hrel
    have hl := lnF_le (bz t) pos
    have hf := frF_le (bz t) pos
    have hmu := HX.out.1.pos
    by_cases hlt : pos < n
    · have hlt' : pos < t.size := by omega
      have hnext : ∀ ty, (Instr.next (.pointer (some ⟨W0.heap.size, 0, none⟩)) true ty).run Tryd.prog wr = _ := fun ty => Lib.run_next_any_at wr W0.heap.size t pos ty HX.out.1 hlt'
      have hd := dec_at t pos 10 hlt' (by decide)
      have HY : Hid (ItAt (wr.iterAt W0.heap.size t (pos + (Utf8.decode t pos).2)) W0.heap.size t (pos + (Utf8.decode t pos).2) ∧ Below W0.heap.size W0 (wr.iterAt W0.heap.size t (pos + (Utf8.decode t pos).2))) := ⟨Lib.iterAt_heap wr _ t pos _ HX.out.1, Lib.below_iterAt HX.out.2 (Nat.le_refl _) t _⟩
      generalize wr.iterAt W0.heap.size t (pos + (Utf8.decode t pos).2) = W1 at hnext HY
      generalize (Utf8.decode t pos).1 = r at hnext hd
      generalize (Utf8.decode t pos).2 = d at hnext hd HY
      have HD := Lib.hid hd
      clear hd
      by_cases hr : r = 10
      · have HR := HD.out.2.2.1 hr
        have hr' : ((r : Nat) : Int) = 10 := by omega
        have hz := HR.2
        have e1 : lnF (bz t) (pos + d) = lnF (bz t) pos + 1 := by rw [HR.1, lnF, if_pos hz]
        have e2 : frF (bz t) (pos + d) = pos + 1 := by rw [HR.1, frF, if_pos hz]
        have HE := Lib.hid (And.intro e1 e2)
        have HR' := Lib.hid HR.1
        clear e1 e2 HR hz
        go_wp2_with fail
        go_roundw
        case rel => exact ⟨pos + d, by have := HD.out.2.1; omega, by rw [HE.out.1]; rfl, by rw [HE.out.2]; rfl, HY⟩
        case measure => rw [HY.out.1.pos, hmu]; have := HD.out.1; omega
      · have hr' : ¬ (((r : Nat) : Int) = 10) := by omega
        have hz := HD.out.2.2.2 hr
        have e := ln_flat (bz t) (i := pos) d (fun j h1 h2 => by have := hz (j - pos) (by omega); rwa [show pos + (j - pos) = j by omega] at this)
        have HE := Lib.hid e
        clear e hz
        go_wp2_with fail
        go_roundw
        case rel => exact ⟨pos + d, by have := HD.out.2.1; omega, by rw [HE.out.1], by rw [HE.out.2], HY⟩
        case measure => rw [HY.out.1.pos, hmu]; have := HD.out.1; omega
    · obtain rfl : pos = n := by omega
      have hnext : ∀ ty, (Instr.next (.pointer (some ⟨W0.heap.size, 0, none⟩)) true ty).run Tryd.prog wr = _ := fun ty => Lib.run_next_end_at wr W0.heap.size t pos ty HX.out.1 (by omega)
      have hx : w.heap.size < W0.heap.size := by have := H0.out.2.2; omega
      have HB2 := Lib.hid (And.intro (H0.out.2.1.below HX.out.2 hx) (H0.out.1.trans (HX.out.2.mono (by omega))))
      obtain ⟨c0, c1, f0, f1⟩ := HB2.out.1.row2
      clear hx
      go_wp2_with fail
      have HF := Lib.hid (And.intro (HB2.out.1.set2 (.int .i64 ((lnF (bz t) pos : Nat) : Int)) (.int .i64 ((pos : Int) - ((frF (bz t) pos : Nat) : Int) + 1))) (two_below HB2.out.2 (Nat.le_refl _) (.int .i64 ((lnF (bz t) pos : Nat) : Int)) (.int .i64 ((pos : Int) - ((frF (bz t) pos : Nat) : Int) + 1))))
      obtain ⟨v0, v1, _, _⟩ := HF.out.1.row2
      exact bodyPost_ret (v := .agg #[.int .i64 ((lnF (bz t) pos : Nat) : Int), .int .i64 ((pos : Int) - ((frF (bz t) pos : Nat) : Int) + 1)]) (by simp [results, Tryd.results8, go_sem, v0, v1]) rfl ⟨by rw [HB.out.1, HB.out.2], HF.out.2⟩
end Go.Proofs.YtbacgnhkapancaaDoor
