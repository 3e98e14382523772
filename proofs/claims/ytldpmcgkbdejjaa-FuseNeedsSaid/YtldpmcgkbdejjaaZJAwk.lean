import Derived.Test.YtldpmcgkbdejjaaZJGaps
import Derived.Test.YtldpmcgkbdejjaaZJSafe3
namespace Go.Proofs.Ytldpmcgkbdejjaa
open Go.RowKit Go.Maps Go.WideElems Go.ChangeMaps Go.MapKept
set_option linter.unusedVariables false
set_option linter.unusedSimpArgs false

def sa1 : ByteArray := ⟨#[97]⟩
def exA : ByteArray := ⟨#[97, 32, 97]⟩
def exB : ByteArray := ⟨#[97, 97]⟩
theorem exA_is : jnS [sa1, sa1] 1 (fun _ => true) = exA := by kernel_rfl
theorem exB_is (f : Nat → Bool) (h : f 0 = false) : jnS [sa1, sa1] 1 f = exB := by
  have e : jnN [sa1, sa1] 1 f 2 = [97, 97] := by
    have h1 := jnN_no (l := [sa1, sa1]) (m := 1) (f := f) (k := 0) (by decide) (by rw [h]; simp)
    have h2 := jnN_no (l := [sa1, sa1]) (m := 1) (f := f) (k := 1) (by decide) (by simp)
    rw [h2, h1]
    rfl
  unfold jnS
  rw [show [sa1, sa1].length = 2 from rfl, e]
  exact (by kernel_rfl : strOf [97, 97] = exB)
theorem exA_l0 (g gN gM : Nat) : longF (dFus g gN gM) (zof exA) 0 3 = (0, 1) := by kernel_rfl
theorem exA_l1 (g gN gM : Nat) : longF (dFus g gN gM) (zof exA) 1 2 = (2, 1) := by kernel_rfl
theorem exA_l2 (g gN gM : Nat) : longF (dFus g gN gM) (zof exA) 2 1 = (0, 1) := by kernel_rfl
theorem exA_0 (g gN gM : Nat) : tkE (dFus g gN gM) exA 0 = 0 := rfl
theorem exA_1 (g gN gM : Nat) : tkL (dFus g gN gM) exA 1 = [⟨0, ⟨#[97]⟩, 0⟩] ∧ tkE (dFus g gN gM) exA 1 = 1 := tk_succ (exA_0 g gN gM) (exA_l0 g gN gM)
theorem exA_2 (g gN gM : Nat) : tkL (dFus g gN gM) exA 2 = [⟨0, ⟨#[97]⟩, 0⟩, ⟨2, ⟨#[32]⟩, 1⟩] ∧ tkE (dFus g gN gM) exA 2 = 2 := by
  have h := tk_succ (exA_1 g gN gM).2 (exA_l1 g gN gM)
  rw [(exA_1 g gN gM).1] at h
  exact h
theorem exA_3 (g gN gM : Nat) : tkL (dFus g gN gM) exA 3 = [⟨0, ⟨#[97]⟩, 0⟩, ⟨2, ⟨#[32]⟩, 1⟩, ⟨0, ⟨#[97]⟩, 2⟩] ∧ tkE (dFus g gN gM) exA 3 = 3 := by
  have h := tk_succ (exA_2 g gN gM).2 (exA_l2 g gN gM)
  rw [(exA_2 g gN gM).1] at h
  exact h
theorem exA_yes (g gN gM : Nat) : spB (dFus g gN gM) 2 exA [sa1, sa1] = true := by
  rw [spB_eq (k := 3) (stop_end (by rw [(exA_3 g gN gM).2]; exact Nat.le_refl _)) (fun j hj => ?_), (exA_3 g gN gM).1, (exA_3 g gN gM).2]
  · have e : ownT 2 [⟨0, ⟨#[97]⟩, 0⟩, ⟨2, ⟨#[32]⟩, 1⟩, ⟨0, ⟨#[97]⟩, 2⟩] = [sa1, sa1] := by rfl
    rw [e]
    simp
    exact Nat.le_refl 3
  · have : j = 0 ∨ j = 1 ∨ j = 2 := by omega
    rcases this with rfl | rfl | rfl
    · exact stop_not (exA_0 g gN gM) (exA_l0 g gN gM) (by omega) (by decide)
    · exact stop_not (exA_1 g gN gM).2 (exA_l1 g gN gM) (by omega) (by decide)
    · exact stop_not (exA_2 g gN gM).2 (exA_l2 g gN gM) (by omega) (by decide)
theorem exB_l0 (g gN gM : Nat) : longF (dFus g gN gM) (zof exB) 0 2 = (1, 2) := by kernel_rfl
theorem exB_0 (g gN gM : Nat) : tkE (dFus g gN gM) exB 0 = 0 := rfl
theorem exB_1 (g gN gM : Nat) : tkL (dFus g gN gM) exB 1 = [⟨1, ⟨#[97, 97]⟩, 0⟩] ∧ tkE (dFus g gN gM) exB 1 = 2 := tk_succ (exB_0 g gN gM) (exB_l0 g gN gM)
theorem exB_no (g gN gM : Nat) : spB (dFus g gN gM) 2 exB [sa1, sa1] = false := by
  rw [spB_eq (k := 1) (stop_end (by rw [(exB_1 g gN gM).2]; exact Nat.le_refl _)) (fun j hj => ?_), (exB_1 g gN gM).1, (exB_1 g gN gM).2]
  · have e : ownT 2 [⟨1, ⟨#[97, 97]⟩, 0⟩] = [⟨#[97, 97]⟩] := by rfl
    have h : ¬ ([⟨#[97, 97]⟩] : List ByteArray) = [sa1, sa1] := fun h => by
      have := congrArg List.length h
      simp at this
    rw [e]
    simp [h]
  · obtain rfl : j = 0 := by omega
    exact stop_not (exB_0 g gN gM) (exB_l0 g gN gM) (by omega) (by decide)
theorem few_ex : FewT [sa1, sa1] := by
  refine ⟨by decide, fun j hj => ?_⟩
  have : j = 0 ∨ j = 1 := by simp at hj; omega
  rcases this with rfl | rfl <;> exact (by decide : sa1.size ≤ 8)
theorem exG_chk (g gN gM : Nat) : chkG (dFus g gN gM) 2 [sa1, sa1] 1 (fun _ => true) = true := by
  unfold chkG
  rw [exA_is]
  exact exA_yes g gN gM
theorem exG_gI (g gN gM : Nat) (k : Nat) : gI (dFus g gN gM) 2 [sa1, sa1] 1 k = fun _ => true := by
  induction k with
  | zero => rfl
  | succ k ih =>
    show gps (dFus g gN gM) 2 [sa1, sa1] 1 (gI (dFus g gN gM) 2 [sa1, sa1] 1 k) 1 = _
    rw [ih]
    show gst (dFus g gN gM) 2 [sa1, sa1] 1 (fun _ => true) 0 = _
    refine gst_no ?_
    unfold chkG
    rw [exB_is _ rfl]
    exact exB_no g gN gM

set_option maxHeartbeats 2000000 in
set_option maxRecDepth 100000 in
theorem awake15_any (w : World) : Calls Try.prog 5 #[] w fun e w' => e = .returned (.bool true) ∧ Below w.heap.size w w' := by
  have HM := Lib.hid (fun W => machine15_any W)
  have HS := Lib.hid safe_yes
  go_enter Try.func5, Try.ntmps5
  go_wp2_with (go_at_call 14; refine (HM.out _).mono ?_)
  rintro e w1 ⟨g, gN, gM, rfl, hD, b1⟩
  have k2 := al w1 (.cells #[.string ⟨#[97]⟩, .string ⟨#[97]⟩] 9)
  have H2 : Hid (DM (w1.alloc (.cells #[.string ⟨#[97]⟩, .string ⟨#[97]⟩] 9)) (dFus g gN gM) ∧ Below w.heap.size w (w1.alloc (.cells #[.string ⟨#[97]⟩, .string ⟨#[97]⟩] 9)) ∧ SsAt (w1.alloc (.cells #[.string ⟨#[97]⟩, .string ⟨#[97]⟩] 9)) (some ⟨w1.heap.size, 0, none⟩) [sa1, sa1]) := by
    refine ⟨hD.below k2, b1.trans (k2.mono b1.size), fun _ => ⟨w1.heap.size, 0, rfl, by simp, fun j hj => ?_⟩⟩
    rw [Nat.zero_add, (St.new w1 9 #[.string ⟨#[97]⟩, .string ⟨#[97]⟩]).at_]
    have : j = 0 ∨ j = 1 := by simp at hj; omega
    rcases this with rfl | rfl <;> rfl
  clear k2 hD b1
  go_upto_region 1 with fail
  have HG := Lib.hid (gaps_any (dFus g gN gM) 3 (dFus_dr g gN gM) 2 [sa1, sa1] few_ex 2 2 (some ⟨w1.heap.size, 0, none⟩) rfl _ H2.out.1 H2.out.2.2)
  have HC := Lib.hid (And.intro (exG_chk g gN gM) (exG_gI g gN gM))
  generalize dFus g gN gM = D at HG HC H2
  refine HG.out.mono ?_
  rintro e w3 ⟨b3, hx⟩
  rcases hx with ⟨hf, _⟩ | ⟨_, aL, cL, f, rfl, hO, k, rfl, _⟩
  · rw [HC.out.1] at hf
    cases hf
  have h3 := ownsRow_read hO (by omega)
  obtain ⟨gL, rfl, _, _, hc⟩ := h3
  have x0 : w3.cell? ⟨gL, 0, none⟩ = some (.bool true) := by
    rw [(hc 0 (by omega)).1, HC.out.2 k]
    rfl
  have H3 : Hid (Below w.heap.size w w3) := H2.out.2.1.trans (b3.mono H2.out.2.1.size)
  clear hO hc b3 HG HC H2
  go_wp2_with (first
    | (go_at_call 14; refine (HM.out _).mono ?_; rintro e w4 ⟨g', gN', gM', rfl, hD', b4⟩
       have H4 := Lib.hid (And.intro hD' (H3.out.trans (b4.mono H3.out.size)))
       have HS2 := Lib.hid (HS.out g' gN' gM' w4 H4.out.1)
       clear hD' b4)
    | (go_at_call 15; refine HS2.out.mono ?_; rintro e w5 ⟨rfl, b5⟩
       have H5 := Lib.hid (H4.out.2.trans (b5.mono H4.out.2.size))
       clear b5))
  go_ret
  exact ⟨rfl, H5.out⟩
end Go.Proofs.Ytldpmcgkbdejjaa
