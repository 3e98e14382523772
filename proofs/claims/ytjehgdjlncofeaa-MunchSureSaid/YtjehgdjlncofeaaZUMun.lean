import Derived.Test.YtjehgdjlncofeaaZULong
namespace Go.Proofs.Ytjehgdjlncofeaa
open Go.RowKit Go.Maps Go.WideElems Go.ChangeMaps Go.MapKept
set_option linter.unusedVariables false
set_option linter.unusedSimpArgs false

/-- The cutter, made. -/
theorem CBx.made {w W0 : World} {D : Dd} (s : ByteArray) {B : Nat} (hB : Below B w W0) (hBs : B ≤ W0.heap.size) (hD : DM W0 D) :
    CBx ((W0.alloc (.cells (zC 54) 54)).setRow W0.heap.size (cutC D.cD s)) W0.heap.size D s ∧ Below B w ((W0.alloc (.cells (zC 54) 54)).setRow W0.heap.size (cutC D.cD s)) := by
  have k1 : Below W0.heap.size W0 ((W0.alloc (.cells (zC 54) 54)).setRow W0.heap.size (cutC D.cD s)) := below_setRow9 (al W0 _) (Nat.le_refl _) _
  exact ⟨⟨(St.new W0 _ _).setRow, hD.below k1⟩, hB.trans (k1.mono hBs)⟩

set_option maxHeartbeats 2000000 in
set_option maxRecDepth 100000 in
theorem munchLongest_any (D : Dd) (C : Nat) (hR : DR D C) (s : ByteArray) (hm : s.size ≤ 255) (p : Int) (w : World) (hD : DM w D) :
    Calls Try.prog 14 #[.agg D.cD, .string s, .int .i64 p] w fun e w' => e = .returned (.tuple #[.int .i64 (longI D s p).1, .int .i64 (((longI D s p).2 : Nat) : Int)]) ∧ Below w.heap.size w w' := by
  have kb := al w (.cells D.cD 26)
  have HB : Hid (DBx (w.alloc (.cells D.cD 26)) w.heap.size D ∧ Below w.heap.size w (w.alloc (.cells D.cD 26))) := ⟨DBx.new hD, kb⟩
  have HR := Lib.hid hR
  have hsz := hD.sz
  have ho := hD.one
  have hbd := Lib.hid (cut_built D.cD hsz s)
  have HS1 := Lib.hid (And.intro hsz ho)
  clear kb hR hD hsz ho
  go_enter Try.func14, Try.ntmps14
  go_upto_region 1 with fail
  generalize w.alloc (.cells D.cD 26) = W0 at HB ⊢
  obtain ⟨b0, hb0⟩ : ∃ b0, w.heap.size = b0 := ⟨_, rfl⟩
  have Hb0 := Lib.hid hb0
  rw [hb0] at HB
  rw [hb0]
  clear hb0
  have HM := Lib.hid (CBx.made s HB.out.2 (by have := HB.out.2.size; have := Hb0.out; omega) HB.out.1.dm)
  go_upto_region 2 with (first
    | (refine wpList_load_any9 (by rfl) 26 _ rfl ⟨b0, 0, none⟩ rfl D.cD _ HB.out.1.st.part Try.underlying26 rfl HB.out.1.dm.info ?_)
    | (refine wpList_build9 rfl 54 _ rfl #[(0, .agg D.cD), (1, .string s)] (by first | rfl | kernel_rfl | (go_simp; done)) (.agg (cutC D.cD s)) (hbd.out _) ?_)
    | (refine wpList_alloc9 rfl 54 rfl (zC 54) (zCut_run _) ?_)
    | (refine wpList_store_var9 rfl 54 _ _ rfl W0.heap.size 54 (zC 54) (cutC D.cD s) rfl rfl (St.new W0 _ _) (by rw [zCut_size, cutC_size HS1.out.1]) (by rw [info_cut9, cutC_size HS1.out.1]) (cutC_one HS1.out.2 s) ?_))
  simp only [Act.put, List.setIfInBounds_toArray, List.set_cons_zero, List.set_cons_succ]
  generalize (W0.alloc (.cells (zC 54) 54)).setRow W0.heap.size (cutC D.cD s) = V at HM ⊢
  generalize W0.heap.size = b1 at HM ⊢
  have HL := Lib.hid (mlongest_int D C HR.out s hm p b1 V HM.out.1)
  go_wp2_with (go_at_call 24; refine HL.out.mono ?_; rintro e w2 ⟨rfl, b2⟩)
  go_ret2
  exact ⟨rfl, by rw [Hb0.out]; exact HM.out.2.trans (b2.mono (by have := HM.out.2.size; have := Hb0.out; omega))⟩

/-- The mark of a text that is one token. -/
def aloneF (D : Dd) (s : ByteArray) : Int := if (longI D s 0).2 < s.size then -1 else (longI D s 0).1
set_option maxHeartbeats 2000000 in
set_option maxRecDepth 100000 in
theorem alone_any (D : Dd) (C : Nat) (hR : DR D C) (s : ByteArray) (hm : s.size ≤ 255) (w : World) (hD : DM w D) :
    Calls Try.prog 16 #[.agg D.cD, .string s] w fun e w' => e = .returned (.int .i64 (aloneF D s)) ∧ Below w.heap.size w w' := by
  have kb := al w (.cells D.cD 26)
  have HB : Hid (DBx (w.alloc (.cells D.cD 26)) w.heap.size D ∧ Below w.heap.size w (w.alloc (.cells D.cD 26))) := ⟨DBx.new hD, kb⟩
  have HR := Lib.hid hR
  clear kb hR hD
  go_enter Try.func16, Try.ntmps16
  go_upto_region 1 with fail
  generalize w.alloc (.cells D.cD 26) = W0 at HB ⊢
  obtain ⟨b0, hb0⟩ : ∃ b0, w.heap.size = b0 := ⟨_, rfl⟩
  have Hb0 := Lib.hid hb0
  rw [hb0] at HB
  rw [hb0]
  clear hb0
  have HL := Lib.hid (munchLongest_any D C HR.out s hm 0 W0 HB.out.1.dm)
  have HA : Hid (∀ x n, longI D s 0 = (x, n) → aloneF D s = if n < s.size then -1 else x) := fun x n h => by unfold aloneF; rw [h]
  obtain ⟨x, n, hxn⟩ : ∃ x n, longI D s 0 = (x, n) := ⟨_, _, rfl⟩
  rw [hxn] at HL
  have HZ := Lib.hid (HA.out x n hxn)
  clear hxn HA
  go_upto_region 2 with (first
    | (refine wpList_load_any9 (by rfl) 26 _ rfl ⟨b0, 0, none⟩ rfl D.cD _ HB.out.1.st.part Try.underlying26 rfl HB.out.1.dm.info ?_)
    | (go_at_call 14; refine HL.out.mono ?_; rintro e w2 ⟨rfl, b2⟩))
  have HF : Hid (Below w.heap.size w w2) := by rw [Hb0.out]; exact HB.out.2.trans (b2.mono (by have := HB.out.2.size; have := Hb0.out; omega))
  clear b2 HL
  by_cases h : n < s.size
  · have i1 : (n : Int) < (s.size : Int) := by omega
    go_wp2_with fail
    go_ret
    exact ⟨by rw [HZ.out, if_pos h]; rfl, HF.out⟩
  · have i1 : ¬ ((n : Int) < (s.size : Int)) := by omega
    go_wp2_with fail
    go_ret
    exact ⟨by rw [HZ.out, if_neg h]; rfl, HF.out⟩
end Go.Proofs.Ytjehgdjlncofeaa
