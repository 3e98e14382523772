import Derived.Test.YtjehgdjlncofeaaZUAwk
import Derived.Test.YtjehgdjlncofeaaZURSm
import Derived.Laws.StructEq
import Derived.BigQuiet
import Derived.WalkSmall
namespace Go.Proofs.Ytjehgdjlncofeaa
open Go.RowKit Go.Maps Go.WideElems Go.ChangeMaps Go.MapKept
set_option linter.unusedVariables false
set_option linter.unusedSimpArgs false

theorem part_tr (W : World) (r p : Int) (s : ByteArray) : (part 3 #[.int .i64 r, .string s, .int .i64 p] 0).run Try.prog W = .ok (.int .i64 r) W := by
  have hag : (isAgg 3).run Try.prog W = .ok false W := by kernel_rfl
  unfold part
  simp [hag]
theorem part_tp (W : World) (r p : Int) (s : ByteArray) : (part 3 #[.int .i64 r, .string s, .int .i64 p] 2).run Try.prog W = .ok (.int .i64 p) W := by
  have hag : (isAgg 3).run Try.prog W = .ok false W := by kernel_rfl
  unfold part
  simp [hag]
theorem part_ts (W : World) (r p : Int) (s : ByteArray) : (part 9 #[.int .i64 r, .string s, .int .i64 p] 1).run Try.prog W = .ok (.string s) W := by
  have hag : (isAgg 9).run Try.prog W = .ok false W := by kernel_rfl
  unfold part
  simp [hag]
theorem run_eq_tok (W : World) (r p : Int) (s : ByteArray) : (Op.equalIn 10000 36 (.agg #[.int .i64 r, .string s, .int .i64 p]) (.agg #[.int .i64 r, .string s, .int .i64 p])).run Try.prog W = .ok true W := by
  rw [run_equalIn_agg W 9999 36 _ _ (by kernel_rfl) (by kernel_rfl)]
  have h1 := run_equalIn_int (P := Try.prog) W 9998 3 .i64 .i64 r r Try.underlying3
  have h2 := run_equalIn_int (P := Try.prog) W 9998 3 .i64 .i64 p p Try.underlying3
  have h3 := run_equalIn_string (P := Try.prog) W 9998 9 s s Try.underlying9
  simp only [Program.fieldsOf, Try.underlying36]
  simp only [Op.eqFields, Sem.run_bind, Sem.run_ite, part_tr, part_tp, part_ts, Result.andThen_ok, h1, h2, h3]
  simp

def s4 : ByteArray := ⟨#[97, 97, 97, 98]⟩
theorem ex_l0 (g gN gM : Nat) : longF (dMun g gN gM) (zof s4) 0 4 = (0, 1) := by kernel_rfl
theorem ex_l1 (g gN gM : Nat) : longF (dMun g gN gM) (zof s4) 1 3 = (1, 3) := by kernel_rfl
theorem ex_0 (g gN gM : Nat) : tkE (dMun g gN gM) s4 0 = 0 := rfl
theorem ex_1 (g gN gM : Nat) : tkL (dMun g gN gM) s4 1 = [⟨0, ⟨#[97]⟩, 0⟩] ∧ tkE (dMun g gN gM) s4 1 = 1 := tk_succ (ex_0 g gN gM) (ex_l0 g gN gM)
theorem ex_2 (g gN gM : Nat) : tkL (dMun g gN gM) s4 2 = [⟨0, ⟨#[97]⟩, 0⟩, ⟨1, ⟨#[97, 97, 98]⟩, 1⟩] ∧ tkE (dMun g gN gM) s4 2 = 4 := by
  have h := tk_succ (ex_1 g gN gM).2 (ex_l1 g gN gM)
  rw [(ex_1 g gN gM).1] at h
  exact h
theorem ex_k {g gN gM k : Nat} (h1 : StopS (dMun g gN gM) s4 k) (h2 : ∀ j, j < k → ¬ StopS (dMun g gN gM) s4 j) : k = 2 := by
  refine stopN_uniq h2 h1 (fun j hj => ?_) (stop_end (by rw [(ex_2 g gN gM).2]; exact Nat.le_refl _))
  have : j = 0 ∨ j = 1 := by omega
  rcases this with rfl | rfl
  · exact stop_not (ex_0 g gN gM) (ex_l0 g gN gM) (by omega) (by decide)
  · exact stop_not (ex_1 g gN gM).2 (ex_l1 g gN gM) (by omega) (by decide)

set_option maxHeartbeats 2000000 in
set_option maxRecDepth 100000 in
theorem awake12_any (w : World) : Calls Try.prog 7 #[] w fun e w' => e = .returned (.bool true) ∧ Below w.heap.size w w' := by
  have HM := Lib.hid (machine12_any w)
  have heq := run_eq_tok
  go_enter Try.func7, Try.ntmps7
  go_wp2_with (go_at_call 20; refine HM.out.mono ?_)
  rintro e w1 ⟨g, gN, gM, rfl, hD, b1⟩
  have HA := Lib.hid (mall_any (dMun g gN gM) 3 (dMun_dr g gN gM) s4 4 rfl (by omega) w1 hD)
  have HK : Hid (∀ k, StopS (dMun g gN gM) s4 k → (∀ j, j < k → ¬ StopS (dMun g gN gM) s4 j) → k = 2) := fun k h1 h2 => ex_k h1 h2
  have HE := Lib.hid (ex_2 g gN gM)
  have HB := Lib.hid b1
  clear b1 hD HM
  go_wp2_with (go_at_call 10; refine HA.out.mono ?_)
  rintro e w2 ⟨k, a, c, hst, hno, rfl, hT, _, b2⟩
  obtain rfl := HK.out k hst hno
  rw [HE.out.1] at hT
  rw [HE.out.2, show errO (decide (s4.size ≤ 4)) = .int .i64 0 from rfl]
  have HF := Lib.hid (HB.out.trans (b2.mono HB.out.size))
  obtain ⟨g0, o0, rfl, _, x0, x1, x2⟩ := hT.get 0 (by decide)
  obtain ⟨g1, o1, e1, _, y0, y1, y2⟩ := hT.get 1 (by decide)
  injection e1 with e1
  injection e1 with e1 e2
  subst e1 e2
  dsimp only [List.getElem_cons_zero, List.getElem_cons_succ] at x0 x1 x2 y0 y1 y2
  clear hT b2 HA HE HK hst hno
  go_wp2_with fail
  go_ret
  exact ⟨rfl, HF.out⟩
end Go.Proofs.Ytjehgdjlncofeaa
