import Derived.Test.YtldpmcgkbdejjaaZJSafe2
import Derived.Test.YtldpmcgkbdejjaaZTFrame
namespace Go.Proofs.Ytldpmcgkbdejjaa
open Go.RowKit Go.Maps Go.WideElems Go.ChangeMaps Go.MapKept
set_option linter.unusedVariables false
set_option linter.unusedSimpArgs false

/-- The example: a (0), aa (1), blanks (2). -/
def kJ (b : Nat) : Nat := if b = 10 then 2 else if b = 32 then 2 else if b = 97 then 1 else 0
def nxJ : Nat → Nat → Int
  | 0, 1 => 1
  | 0, 2 => 3
  | 1, 1 => 2
  | 3, 2 => 3
  | _, _ => -1
def qJ : Nat → Int
  | 1 => 0
  | 2 => 1
  | 3 => 2
  | _ => -1
def dFus (g gN gM : Nat) : Dd := ⟨dfC kJ (.slice (some ⟨gN, 0, none⟩) 4 4) (.slice (some ⟨gM, 0, none⟩) 4 4), kJ, some ⟨gN, 0, none⟩, 4, 4, fun i => some ⟨g + i, 0, none⟩, fun _ => 3, fun _ => 3, nxJ, some ⟨gM, 0, none⟩, 4, 4, qJ⟩
theorem kJ_lt (b : Nat) : kJ b < 3 := by unfold kJ; split <;> (try split) <;> (try split) <;> omega
theorem dFus_dr (g gN gM : Nat) : DR (dFus g gN gM) 3 := by
  refine ⟨⟨fun j _ => kJ_lt j, 10, by omega, rfl⟩, by show 1 ≤ 4; omega, by show 4 ≤ 32768; omega, rfl, fun c hc => ?_, fun i _ => rfl, fun i hi => ?_, fun i c hi hc => ?_⟩
  · have : c = 0 ∨ c = 1 ∨ c = 2 := by omega
    rcases this with rfl | rfl | rfl
    · exact ⟨0, by omega, rfl⟩
    · exact ⟨97, by omega, rfl⟩
    · exact ⟨10, by omega, rfl⟩
  · have hi : i < 4 := hi
    show -1 ≤ qJ i ∧ qJ i < 32768
    have : i = 0 ∨ i = 1 ∨ i = 2 ∨ i = 3 := by omega
    rcases this with rfl | rfl | rfl | rfl <;> decide
  · have hi : i < 4 := hi
    show -1 ≤ nxJ i c ∧ nxJ i c < ((4 : Nat) : Int)
    have h1 : i = 0 ∨ i = 1 ∨ i = 2 ∨ i = 3 := by omega
    have h2 : c = 0 ∨ c = 1 ∨ c = 2 := by omega
    rcases h1 with rfl | rfl | rfl | rfl <;> rcases h2 with rfl | rfl | rfl <;> decide
theorem dFus_dm {w : World} {g gN gM : Nat} (h0 : St w 3 g #[.int .i64 (-1), .int .i64 1, .int .i64 3]) (h1 : St w 3 (g + 1) #[.int .i64 (-1), .int .i64 2, .int .i64 (-1)]) (h2 : St w 3 (g + 2) #[.int .i64 (-1), .int .i64 (-1), .int .i64 (-1)]) (h3 : St w 3 (g + 3) #[.int .i64 (-1), .int .i64 (-1), .int .i64 3])
    (hN : St w 24 gN #[.slice (some ⟨g, 0, none⟩) 3 3, .slice (some ⟨g + 1, 0, none⟩) 3 3, .slice (some ⟨g + 2, 0, none⟩) 3 3, .slice (some ⟨g + 3, 0, none⟩) 3 3]) (hM : St w 3 gM #[.int .i64 (-1), .int .i64 0, .int .i64 1, .int .i64 2]) : DM w (dFus g gN gM) := by
  refine ⟨dfC_size _ _ _, dfC_one _ _ _ _ _ _ _, fun j hj => dfC_cl _ _ _ j hj, fun j _ => by have := kJ_lt j; show kJ j < 256; omega, dfC_n _ _ _, dfC_k _ _ _, fun _ => ⟨gN, 0, rfl, hN.lt, fun i hi => ?_⟩, fun _ => ⟨gM, 0, rfl, hM.lt, fun j hj => ?_⟩⟩
  · have hi : i < 4 := hi
    have : i = 0 ∨ i = 1 ∨ i = 2 ∨ i = 3 := by omega
    rcases this with rfl | rfl | rfl | rfl
    · refine ⟨hN.at_ 0, fun _ => ⟨g, 0, rfl, h0.lt, fun j hj => ?_⟩⟩
      have hj : j < 3 := hj
      have : j = 0 ∨ j = 1 ∨ j = 2 := by omega
      rcases this with rfl | rfl | rfl <;> exact h0.at_ _
    · refine ⟨hN.at_ 1, fun _ => ⟨g + 1, 0, rfl, h1.lt, fun j hj => ?_⟩⟩
      have hj : j < 3 := hj
      have : j = 0 ∨ j = 1 ∨ j = 2 := by omega
      rcases this with rfl | rfl | rfl <;> exact h1.at_ _
    · refine ⟨hN.at_ 2, fun _ => ⟨g + 2, 0, rfl, h2.lt, fun j hj => ?_⟩⟩
      have hj : j < 3 := hj
      have : j = 0 ∨ j = 1 ∨ j = 2 := by omega
      rcases this with rfl | rfl | rfl <;> exact h2.at_ _
    · refine ⟨hN.at_ 3, fun _ => ⟨g + 3, 0, rfl, h3.lt, fun j hj => ?_⟩⟩
      have hj : j < 3 := hj
      have : j = 0 ∨ j = 1 ∨ j = 2 := by omega
      rcases this with rfl | rfl | rfl <;> exact h3.at_ _
  · have hj : j < 4 := hj
    have : j = 0 ∨ j = 1 ∨ j = 2 ∨ j = 3 := by omega
    rcases this with rfl | rfl | rfl | rfl <;> exact hM.at_ _
theorem zDfa_eq15 : zC 26 = dfC (fun _ => 0) (.slice none 0 0) (.slice none 0 0) := dfC_ext _ _ _ _ zDfa_size zDfa_cls10 zDfa_tail.1 zDfa_tail.2
theorem dfC_setC15 (K : Nat → Nat) (vN vK : Value) (j v : Nat) (hj : j < 256) : (dfC K vN vK).setIfInBounds j (.int .u8 ((v : Nat) : Int)) = dfC (fun i => if i = j then v else K i) vN vK := by
  refine dfC_ext _ vN vK _ (by rw [Array.size_setIfInBounds, dfC_size]) (fun i hi => ?_) ?_ ?_
  · by_cases e : i = j
    · subst e
      rw [Array.getElem?_setIfInBounds_self_of_lt (by rw [dfC_size]; omega), if_pos rfl]
    · rw [Array.getElem?_setIfInBounds_ne (fun h => e h.symm), dfC_cl K vN vK i hi, if_neg e]
  · rw [Array.getElem?_setIfInBounds_ne (by omega), dfC_n]
  · rw [Array.getElem?_setIfInBounds_ne (by omega), dfC_k]

def FusP (w : World) (e : Ending) (w' : World) : Prop := ∃ g gN gM : Nat, e = .returned (.agg (dFus g gN gM).cD) ∧ DM w' (dFus g gN gM) ∧ Below w.heap.size w w'
set_option maxHeartbeats 4000000 in
set_option maxRecDepth 100000 in
theorem machine15_any (w : World) : Calls Try.prog 14 #[] w (FusP w) := by
  have k0 := al w (.cells (zC 26) 26)
  have k1 := al (w.alloc (.cells (zC 26) 26)) (.cells (zC 26) 26)
  have s0 := (St.new w 26 (zC 26)).keep k1
  have s1 := St.new (w.alloc (.cells (zC 26) 26)) 26 (zC 26)
  have hsz : (w.alloc (.cells (zC 26) 26)).heap.size = w.heap.size + 1 := by simp
  rw [hsz] at s1
  have HB := Lib.hid (And.intro s0 (And.intro s1 (k0.trans (k1.mono k0.size))))
  clear k0 k1 s0 s1 hsz
  go_enter Try.func14, Try.ntmps14
  go_upto_region 2 with (refine wpList_alloc9 rfl 26 rfl (zC 26) (zero_run9 _) ?_)
  try simp only [Act.put, List.setIfInBounds_toArray, List.set_cons_zero, List.set_cons_succ, alloc_sz10]
  generalize (w.alloc (.cells (zC 26) 26)).alloc (.cells (zC 26) 26) = W2 at HB ⊢
  obtain ⟨b1, hb1⟩ : ∃ b1, w.heap.size + 1 = b1 := ⟨_, rfl⟩
  have Hb1 := Lib.hid hb1
  rw [hb1] at HB
  rw [hb1]
  clear hb1
  have c97 := HB.out.2.1.at_ 97
  have c32 := HB.out.2.1.at_ 32
  have c10 := HB.out.2.1.at_ 10
  rw [zDfa_cls10 97 (by omega)] at c97
  rw [zDfa_cls10 32 (by omega)] at c32
  rw [zDfa_cls10 10 (by omega)] at c10
  have f97 := HB.out.2.1.thaw_ 97
  have f32 := HB.out.2.1.thaw_ 32
  have f10 := HB.out.2.1.thaw_ 10
  go_upto_region 3 with fail
  have s3 := ((HB.out.2.1.set 97 (.int .u8 1)).set 32 (.int .u8 2)).set 10 (.int .u8 2)
  rw [zDfa_eq15, show (Value.int .u8 1) = .int .u8 ((1 : Nat) : Int) from rfl, show (Value.int .u8 2) = .int .u8 ((2 : Nat) : Int) from rfl, dfC_setC15 _ _ _ 97 1 (by omega), dfC_setC15 _ _ _ 32 2 (by omega), dfC_setC15 _ _ _ 10 2 (by omega)] at s3
  have s4 := ((HB.out.1.far (p := ⟨b1, 97, none⟩) (by have := Hb1.out; show w.heap.size ≠ b1; omega) (.int .u8 1)).far (p := ⟨b1, 32, none⟩) (by have := Hb1.out; show w.heap.size ≠ b1; omega) (.int .u8 2)).far (p := ⟨b1, 10, none⟩) (by have := Hb1.out; show w.heap.size ≠ b1; omega) (.int .u8 2)
  have k4 := ((HB.out.2.2.setCell (p := ⟨b1, 97, none⟩) (by have := Hb1.out; show w.heap.size ≤ b1; omega) (.int .u8 1)).setCell (p := ⟨b1, 32, none⟩) (by have := Hb1.out; show w.heap.size ≤ b1; omega) (.int .u8 2)).setCell (p := ⟨b1, 10, none⟩) (by have := Hb1.out; show w.heap.size ≤ b1; omega) (.int .u8 2)
  have H3 := Lib.hid (And.intro s4 (And.intro s3 k4))
  clear s3 s4 k4 c97 c32 c10 f97 f32 f10 HB
  have h1 : (Value.int .u8 ((1 : Nat) : Int)) = .int .u8 1 := rfl
  have h2 : (Value.int .u8 ((2 : Nat) : Int)) = .int .u8 2 := rfl
  rw [h1, h2] at H3
  clear h1 h2
  generalize ((W2.setCell ⟨b1, 97, none⟩ (.int .u8 1)).setCell ⟨b1, 32, none⟩ (.int .u8 2)).setCell ⟨b1, 10, none⟩ (.int .u8 2) = W3 at H3 ⊢
  obtain ⟨g, hg⟩ : ∃ g, W3.heap.size = g := ⟨_, rfl⟩
  have Hg := Lib.hid hg
  have f256 : ∀ o1 o2 o3 o4 o5, (((((W3.alloc o1).alloc o2).alloc o3).alloc o4).alloc o5).frozen? ⟨b1, 256, none⟩ = false := fun o1 o2 o3 o4 o5 => (((((H3.out.2.1.alloc o1).alloc o2).alloc o3).alloc o4).alloc o5).thaw_ 256
  have c256 : ∀ o1 o2 o3 o4 o5, (((((W3.alloc o1).alloc o2).alloc o3).alloc o4).alloc o5).cell? ⟨b1, 256, none⟩ = some (.slice none 0 0) := fun o1 o2 o3 o4 o5 => by rw [(((((H3.out.2.1.alloc o1).alloc o2).alloc o3).alloc o4).alloc o5).at_ 256, dfC_n]
  go_upto_region 4 with fail
  have hb1g : b1 < g := by have := H3.out.2.1.lt; omega
  have hb0g : w.heap.size < g := by have := Hb1.out; omega
  have a0 := St.new W3 3 #[.int .i64 (-1), .int .i64 1, .int .i64 3]
  rw [hg] at a0
  obtain ⟨V1, hV1⟩ : ∃ V, W3.alloc (.cells #[.int .i64 (-1), .int .i64 1, .int .i64 3] 3) = V := ⟨_, rfl⟩
  have z1 : V1.heap.size = g + 1 := by rw [← hV1, alloc_sz10, hg]
  have a1 := St.new V1 3 #[.int .i64 (-1), .int .i64 2, .int .i64 (-1)]
  rw [z1] at a1
  obtain ⟨V2, hV2⟩ : ∃ V, V1.alloc (.cells #[.int .i64 (-1), .int .i64 2, .int .i64 (-1)] 3) = V := ⟨_, rfl⟩
  have z2 : V2.heap.size = g + 1 + 1 := by rw [← hV2, alloc_sz10, z1]
  have a2 := St.new V2 3 #[.int .i64 (-1), .int .i64 (-1), .int .i64 (-1)]
  rw [z2] at a2
  obtain ⟨V3, hV3⟩ : ∃ V, V2.alloc (.cells #[.int .i64 (-1), .int .i64 (-1), .int .i64 (-1)] 3) = V := ⟨_, rfl⟩
  have z3 : V3.heap.size = g + 1 + 1 + 1 := by rw [← hV3, alloc_sz10, z2]
  have a3 := St.new V3 3 #[.int .i64 (-1), .int .i64 (-1), .int .i64 3]
  rw [z3] at a3
  obtain ⟨V4, hV4⟩ : ∃ V, V3.alloc (.cells #[.int .i64 (-1), .int .i64 (-1), .int .i64 3] 3) = V := ⟨_, rfl⟩
  have z4 : V4.heap.size = g + 1 + 1 + 1 + 1 := by rw [← hV4, alloc_sz10, z3]
  have a4 := St.new V4 24 #[.slice (some ⟨g, 0, none⟩) 3 3, .slice (some ⟨g + 1, 0, none⟩) 3 3, .slice (some ⟨g + 1 + 1, 0, none⟩) 3 3, .slice (some ⟨g + 1 + 1 + 1, 0, none⟩) 3 3]
  rw [z4] at a4
  obtain ⟨V5, hV5⟩ : ∃ V, V4.alloc (.cells #[.slice (some ⟨g, 0, none⟩) 3 3, .slice (some ⟨g + 1, 0, none⟩) 3 3, .slice (some ⟨g + 1 + 1, 0, none⟩) 3 3, .slice (some ⟨g + 1 + 1 + 1, 0, none⟩) 3 3] 24) = V := ⟨_, rfl⟩
  have z5 : V5.heap.size = g + 1 + 1 + 1 + 1 + 1 := by rw [← hV5, alloc_sz10, z4]
  have k1 : Below W3.heap.size W3 V1 := by rw [← hV1]; exact al _ _
  have k2 : Below V1.heap.size V1 V2 := by rw [← hV2]; exact al _ _
  have k3 : Below V2.heap.size V2 V3 := by rw [← hV3]; exact al _ _
  have k4 : Below V3.heap.size V3 V4 := by rw [← hV4]; exact al _ _
  have k5 : Below V4.heap.size V4 V5 := by rw [← hV5]; exact al _ _
  rw [hV1] at a0
  rw [hV2] at a1
  rw [hV3] at a2
  rw [hV4] at a3
  rw [hV5] at a4
  have b0 := (((a0.keep k2).keep k3).keep k4).keep k5
  have b1' := ((a1.keep k3).keep k4).keep k5
  have b2 := (a2.keep k4).keep k5
  have b3 := a3.keep k5
  have K5 : Below W3.heap.size W3 V5 := k1.trans ((k2.trans ((k3.trans ((k4.trans (k5.mono (by omega))).mono (by omega))).mono (by omega))).mono (by omega))
  rw [hV1, hV2, hV3, hV4, hV5]
  have t0 := H3.out.1.keep K5
  have t1 := H3.out.2.1.keep K5
  have t2 := H3.out.2.2.trans (K5.mono (by omega))
  obtain ⟨v4, hv4⟩ : ∃ v4, Value.slice (some ⟨g + 1 + 1 + 1 + 1, 0, none⟩) 4 4 = v4 := ⟨_, rfl⟩
  have t1' := t1.set 256 v4
  rw [dfC_setN] at t1'
  have H5 : Hid (St (V5.setCell ⟨b1, 256, none⟩ v4) 26 w.heap.size (zC 26) ∧ St (V5.setCell ⟨b1, 256, none⟩ v4) 26 b1 (dfC kJ v4 (.slice none 0 0)) ∧ Below w.heap.size w (V5.setCell ⟨b1, 256, none⟩ v4) ∧ (V5.setCell ⟨b1, 256, none⟩ v4).heap.size = g + 5 ∧
      St (V5.setCell ⟨b1, 256, none⟩ v4) 3 g #[.int .i64 (-1), .int .i64 1, .int .i64 3] ∧ St (V5.setCell ⟨b1, 256, none⟩ v4) 3 (g + 1) #[.int .i64 (-1), .int .i64 2, .int .i64 (-1)] ∧ St (V5.setCell ⟨b1, 256, none⟩ v4) 3 (g + 1 + 1) #[.int .i64 (-1), .int .i64 (-1), .int .i64 (-1)] ∧
      St (V5.setCell ⟨b1, 256, none⟩ v4) 3 (g + 1 + 1 + 1) #[.int .i64 (-1), .int .i64 (-1), .int .i64 3] ∧ St (V5.setCell ⟨b1, 256, none⟩ v4) 24 (g + 1 + 1 + 1 + 1) #[.slice (some ⟨g, 0, none⟩) 3 3, .slice (some ⟨g + 1, 0, none⟩) 3 3, .slice (some ⟨g + 1 + 1, 0, none⟩) 3 3, .slice (some ⟨g + 1 + 1 + 1, 0, none⟩) 3 3]) :=
    ⟨t0.far (p := ⟨b1, 256, none⟩) (by show w.heap.size ≠ b1; have := Hb1.out; omega) v4, t1', t2.setCell (p := ⟨b1, 256, none⟩) (by show w.heap.size ≤ b1; have := Hb1.out; omega) v4, by simp [World.setCell]; omega,
      b0.far (p := ⟨b1, 256, none⟩) (by show g ≠ b1; omega) v4, b1'.far (p := ⟨b1, 256, none⟩) (by show g + 1 ≠ b1; omega) v4, b2.far (p := ⟨b1, 256, none⟩) (by show g + 1 + 1 ≠ b1; omega) v4, b3.far (p := ⟨b1, 256, none⟩) (by show g + 1 + 1 + 1 ≠ b1; omega) v4, a4.far (p := ⟨b1, 256, none⟩) (by show g + 1 + 1 + 1 + 1 ≠ b1; omega) v4⟩
  have Hgb := Lib.hid (And.intro hb1g hb0g)
  rw [hv4]
  have Hv4 := Lib.hid hv4
  clear hv4 t0 t1 t1' t2 b0 b1' b2 b3 a0 a1 a2 a3 a4 k1 k2 k3 k4 k5 K5 z1 z2 z3 z4 z5 hV1 hV2 hV3 hV4 hV5 f256 c256 hb1g hb0g hg V1 V2 V3 V4 H3
  generalize V5.setCell ⟨b1, 256, none⟩ v4 = W5 at H5 ⊢
  have hw5 := H5.out.2.2.2.1
  have f257 : ∀ o1, (W5.alloc o1).frozen? ⟨b1, 257, none⟩ = false := fun o1 => (H5.out.2.1.alloc o1).thaw_ 257
  have c257 : ∀ o1, (W5.alloc o1).cell? ⟨b1, 257, none⟩ = some (.slice none 0 0) := fun o1 => by rw [(H5.out.2.1.alloc o1).at_ 257, dfC_k]
  go_upto_region 5 with fail
  obtain ⟨v5, hv5⟩ : ∃ v5, Value.slice (some ⟨g + 5, 0, none⟩) 4 4 = v5 := ⟨_, rfl⟩
  have kk := al W5 (.cells #[.int .i64 (-1), .int .i64 0, .int .i64 1, .int .i64 2] 3)
  have aM := St.new W5 3 #[.int .i64 (-1), .int .i64 0, .int .i64 1, .int .i64 2]
  rw [hw5] at aM
  obtain ⟨h0, h1, h2, _, s0, s1, s2, s3, sN⟩ := H5.out
  have hgb := Hgb.out
  have hbb := Hb1.out
  have e0 := (h0.keep kk).far (p := ⟨b1, 257, none⟩) (by show w.heap.size ≠ b1; omega) v5
  have e1 := (h1.keep kk).set 257 v5
  rw [dfC_setK] at e1
  have e2 := (h2.trans (kk.mono h2.size)).setCell (p := ⟨b1, 257, none⟩) (by show w.heap.size ≤ b1; omega) v5
  have d0 := (s0.keep kk).far (p := ⟨b1, 257, none⟩) (by show g ≠ b1; omega) v5
  have d1 := (s1.keep kk).far (p := ⟨b1, 257, none⟩) (by show g + 1 ≠ b1; omega) v5
  have d2 := (s2.keep kk).far (p := ⟨b1, 257, none⟩) (by show g + 1 + 1 ≠ b1; omega) v5
  have d3 := (s3.keep kk).far (p := ⟨b1, 257, none⟩) (by show g + 1 + 1 + 1 ≠ b1; omega) v5
  have dN := (sN.keep kk).far (p := ⟨b1, 257, none⟩) (by show g + 1 + 1 + 1 + 1 ≠ b1; omega) v5
  have dM := aM.far (p := ⟨b1, 257, none⟩) (by show g + 5 ≠ b1; omega) v5
  rw [hv5]
  generalize (W5.alloc (.cells #[.int .i64 (-1), .int .i64 0, .int .i64 1, .int .i64 2] 3)).setCell ⟨b1, 257, none⟩ v5 = W7 at e0 e1 e2 d0 d1 d2 d3 dN dM ⊢
  have hcD : dfC kJ v4 v5 = (dFus g (g + 4) (g + 5)).cD := by rw [← Hv4.out, ← hv5]; rfl
  rw [hcD] at e1
  have hk := kept_setRow9 W7 w.heap.size (dFus g (g + 4) (g + 5)).cD
  have HD : Hid (DBx W7 b1 (dFus g (g + 4) (g + 5)) ∧ DM (W7.setRow w.heap.size (dFus g (g + 4) (g + 5)).cD) (dFus g (g + 4) (g + 5)) ∧ St W7 26 w.heap.size (zC 26) ∧ Below w.heap.size w W7) := by
    refine ⟨⟨e1, dFus_dm d0 d1 d2 d3 dN dM⟩, ?_, e0, e2⟩
    exact dFus_dm (d0.kept hk (by simp) (by simp; omega)) (d1.kept hk (by simp) (by simp; omega)) (d2.kept hk (by simp) (by simp; omega)) (d3.kept hk (by simp) (by simp; omega)) (dN.kept hk (by simp) (by simp; omega)) (dM.kept hk (by simp) (by simp; omega))
  have HX : Hid (FusP w (.returned (.agg (dFus g (g + 4) (g + 5)).cD)) (W7.setRow w.heap.size (dFus g (g + 4) (g + 5)).cD)) := ⟨g, g + 4, g + 5, rfl, HD.out.2.1, below_setRow9 e2 (Nat.le_refl _) _⟩
  clear kk aM h0 h1 h2 s0 s1 s2 s3 sN hgb hbb e0 e1 e2 d0 d1 d2 d3 dN dM hv5 hcD hk H5 f257 c257 hw5
  have hcs : (dFus g (g + 4) (g + 5)).cD.size = 258 := dfC_size _ _ _
  have hone := HD.out.1.dm.one
  have HC := Lib.hid (And.intro hcs hone)
  clear hcs hone
  generalize dFus g (g + 4) (g + 5) = D at HD HX HC
  go_wp2_with (first
    | (refine wpList_load_any9 (by rfl) 26 _ rfl ⟨b1, 0, none⟩ rfl D.cD _ HD.out.1.st.part Try.underlying26 rfl HD.out.1.dm.info ?_)
    | (refine wpList_store_var9 rfl 26 _ _ rfl w.heap.size 26 (zC 26) D.cD rfl rfl HD.out.2.2.1 (by rw [zDfa_size, HC.out.1]) (by rw [info_dfa9, HC.out.1]) HC.out.2 ?_))
  refine bodyPost_ret (results_cell_row rfl _ _ w.heap.size 26 D.cD (0, 0) _ rfl HD.out.2.2.1.setRow Try.underlying26 rfl (by rw [info_dfa9, HC.out.1])) rfl ?_
  exact HX.out
end Go.Proofs.Ytldpmcgkbdejjaa

namespace Go.Proofs.Ytldpmcgkbdejjaa
open Go.RowKit Go.Maps Go.WideElems Go.ChangeMaps Go.MapKept
set_option linter.unusedVariables false
set_option linter.unusedSimpArgs false

/-- What is known of the example, trimmed. -/
structure FusT (D : Dd) : Prop where
  R : DR D 3
  n : D.n = 4
  s : ∀ x b, x < 4 → b < 256 → stepF D ((x : Nat) : Int) b = nxJ x (kJ b)
  q : ∀ x, x < 4 → D.q x = qJ x
theorem fus_alive (g gN gM : Nat) (x : Nat) (h : 1 ≤ x) (h4 : x < 4) : Alv (dFus g gN gM) x := by
  refine ⟨x, Rch.base rfl, ?_⟩
  show 0 ≤ qJ x
  have : x = 1 ∨ x = 2 ∨ x = 3 := by omega
  rcases this with rfl | rfl | rfl <;> decide
theorem fus_nx (i c : Nat) (hi : i < 4) (hc : c < 3) : nxJ i c = -1 ∨ (1 ≤ nxJ i c ∧ nxJ i c < 4) := by
  have h1 : i = 0 ∨ i = 1 ∨ i = 2 ∨ i = 3 := by omega
  have h2 : c = 0 ∨ c = 1 ∨ c = 2 := by omega
  rcases h1 with rfl | rfl | rfl | rfl <;> rcases h2 with rfl | rfl | rfl <;> decide
theorem fus_trim (g gN gM : Nat) (i c : Nat) (hi : i < 4) (hc : c < 3) : trF (dFus g gN gM) i c = nxJ i c := by
  unfold trF
  rw [if_neg]
  · rfl
  · intro h
    have h1 : 0 ≤ nxJ i c := h.1
    rcases fus_nx i c hi hc with e | e
    · omega
    · exact h.2 (fus_alive g gN gM _ (by show 1 ≤ (nxJ i c).toNat; omega) (by show (nxJ i c).toNat < 4; omega))
theorem fus_of {g gN gM : Nat} {D' : Dd} (hK : D'.K = kJ) (hn : D'.n = 4) (hm : D'.m = 4) (hl : ∀ i, i < 4 → D'.len i = 3) (hx : ∀ i, i < 4 → ∀ c, c < 3 → D'.nx i c = trF (dFus g gN gM) i c) (hq : ∀ i, i < 4 → D'.q i = qJ i) : FusT D' := by
  have hR := dFus_dr g gN gM
  refine ⟨⟨by rw [hK]; exact hR.c, by omega, by omega, by omega, fun c hc => by rw [hK]; exact hR.gap c hc, fun i hi => hl i (by omega), fun i hi => by rw [hq i (by omega)]; exact hR.q i (by show i < 4; omega), fun i c hi hc => ?_⟩, hn, fun x b h4 hb => ?_, hq⟩
  · rw [hx i (by omega) c hc, fus_trim g gN gM i c (by omega) hc, hn]
    exact hR.nx i c (by show i < 4; omega) hc
  · unfold stepF
    rw [if_pos (by omega), Int.toNat_natCast, hK, hx x h4 _ (kJ_lt b), fus_trim g gN gM x _ h4 (kJ_lt b)]
theorem fus_ended {D : Dd} (h : FusT D) : ∀ x, x < D.n → D.q x ≠ -1 → D.q x ≠ 2 → stepF D x 10 = -1 ∧ stepF D x 32 = -1 := by
  intro x hx h1 h2
  rw [h.n] at hx
  rw [h.q x hx] at h1 h2
  rw [h.s x 10 hx (by omega), h.s x 32 hx (by omega)]
  have : x = 0 ∨ x = 1 ∨ x = 2 ∨ x = 3 := by omega
  rcases this with rfl | rfl | rfl | rfl
  · exact absurd rfl h1
  · exact ⟨rfl, rfl⟩
  · exact ⟨rfl, rfl⟩
  · exact absurd rfl h2
theorem fus_kJ (c : Nat) (h : isBk c = false) : kJ c = 0 ∨ kJ c = 1 := by
  unfold isBk at h
  simp at h
  unfold kJ
  split
  · omega
  · split
    · omega
    · split <;> omega
theorem stepF_off (D : Dd) (c : Nat) : stepF D (-1) c = -1 := by unfold stepF; rw [if_neg (by omega)]
theorem fus_rch {D : Dd} (h : FusT D) (x : Nat) (hr : Rch (Ed D) (fun y => y = 3) x) : x = 3 := by
  induction hr with
  | base e => exact e
  | step _ he ih =>
    obtain ⟨_, c, hc, e⟩ := he
    subst ih
    rw [h.R.len 3 (by rw [h.n]; omega)] at hc
    obtain ⟨j, hj, hjc⟩ := h.R.gap c hc
    have hs := h.s 3 j (by omega) hj
    unfold stepF at hs
    rw [if_pos (by rw [h.n]; omega), Int.toNat_natCast, hjc, e] at hs
    unfold nxJ at hs
    split at hs <;> omega
theorem fus_apart {D : Dd} (h : FusT D) : ∀ i, i < 4 → (∀ c, c < 256 → isBk c = false → stepF D (stepF D 0 (bkL i)) c = -1) ∧ (∀ x, x < D.n → RcI D (stepF D 0 (bkL i)) x → D.q x = -1 ∨ D.q x = 2) := by
  intro i hi
  have h0 : ∀ b, b < 256 → stepF D 0 b = nxJ 0 (kJ b) := fun b hb => h.s 0 b (by omega) hb
  have A3 : (∀ c, c < 256 → isBk c = false → stepF D 3 c = -1) ∧ (∀ x, x < D.n → RcI D 3 x → D.q x = -1 ∨ D.q x = 2) := by
    refine ⟨fun c hc hb => ?_, fun x hx hr => Or.inr ?_⟩
    · have := h.s 3 c (by omega) hc
      rw [show ((3 : Nat) : Int) = 3 from rfl] at this
      rw [this]
      rcases fus_kJ c hb with e | e <;> rw [e] <;> rfl
    · have h1 := fus_rch h x hr.2.2
      rw [h1, h.q 3 (by omega)]
      rfl
  have AM : (∀ c, c < 256 → isBk c = false → stepF D (-1) c = -1) ∧ (∀ x, x < D.n → RcI D (-1) x → D.q x = -1 ∨ D.q x = 2) :=
    ⟨fun c _ _ => stepF_off D c, fun x _ hr => absurd hr.1 (by omega)⟩
  have : i = 0 ∨ i = 1 ∨ i = 2 ∨ i = 3 := by omega
  rcases this with rfl | rfl | rfl | rfl
  · rw [show stepF D 0 (bkL 0) = 3 from h0 32 (by omega)]; exact A3
  · rw [show stepF D 0 (bkL 1) = 3 from h0 10 (by omega)]; exact A3
  · rw [show stepF D 0 (bkL 2) = -1 from h0 9 (by omega)]; exact AM
  · rw [show stepF D 0 (bkL 3) = -1 from h0 13 (by omega)]; exact AM
theorem fus_has {D : Dd} (h : FusT D) (s : ByteArray) (hs : s = ⟨#[32]⟩ ∨ s = ⟨#[10]⟩) : markF D (runF D 0 (zof s) 1) = 2 := by
  have hb : kJ (zof s 0) = 2 ∧ zof s 0 < 256 := by
    rcases hs with rfl | rfl
    · have e : zof (⟨#[32]⟩ : ByteArray) 0 = 32 := by kernel_rfl
      rw [e]; exact ⟨rfl, by omega⟩
    · have e : zof (⟨#[10]⟩ : ByteArray) 0 = 10 := by kernel_rfl
      rw [e]; exact ⟨rfl, by omega⟩
  have h1 : runF D 0 (zof s) 1 = 3 := by
    show stepF D 0 (zof s 0) = 3
    have := h.s 0 _ (by omega) hb.2
    rw [hb.1] at this
    exact this
  rw [h1]
  have := markF_at (D := D) (k := 3) (by rw [h.n]; omega)
  rw [show ((3 : Nat) : Int) = 3 from rfl] at this
  rw [this, h.q 3 (by omega)]
  rfl

/-- A machine in the place of another one. -/
theorem DM.over15 {w w0 : World} {b : Nat} {D D1 : Dd} (h0 : DM w0 D) (hs : St w 26 b D.cD) (h : DM w D1) (hl : ∀ i, i < D1.n → D1.len i ≠ D.n ∧ D1.len i ≠ D.m) (cs : Array Value) : DM (w.setRow b cs) D1 := by
  have hsz : (w.setRow b cs).heap.size = w.heap.size := setRow_size _ _ _
  have key : ∀ {g i : Nat} {v : Value}, w.cell? ⟨g, i, none⟩ = some v → (∀ x, v ≠ .int .u8 x) → (∀ a c, v ≠ .slice a D.n c ∧ v ≠ .slice a D.m c) → (w.setRow b cs).cell? ⟨g, i, none⟩ = some v := fun {g i v} hc h1 h2 => by
    have hgb : g ≠ b := fun e => by
      subst e
      rw [hs.at_] at hc
      have hi : i < 258 := by
        have := (Array.getElem?_eq_some_iff.1 hc).1
        rw [h0.sz] at this
        exact this
      rcases Nat.lt_or_ge i 256 with e | e
      · rw [h0.cl i e] at hc
        exact h1 _ (Option.some.inj hc).symm
      · have : i = 256 ∨ i = 257 := by omega
        rcases this with rfl | rfl
        · rw [h0.fN] at hc
          exact (h2 _ _).1 (Option.some.inj hc).symm
        · rw [h0.fM] at hc
          exact (h2 _ _).2 (Option.some.inj hc).symm
    have e : (w.setRow b cs).heap[g]? = w.heap[g]? := setRow_other w b g cs hgb
    rw [← hc]
    simp only [World.cell?, e]
  refine ⟨h.sz, h.one, h.cl, h.kl, h.fN, h.fM, fun h0 => ?_, fun h0 => ?_⟩
  · obtain ⟨g, off, e, hg, hc⟩ := h.rN h0
    refine ⟨g, off, e, by rw [hsz]; exact hg, fun i hi => ⟨key (hc i hi).1 (fun x e => by cases e) (fun a c => ⟨fun e => ?_, fun e => ?_⟩), fun h1 => ?_⟩⟩
    · injection e with _ e _
      exact (hl i hi).1 e
    · injection e with _ e _
      exact (hl i hi).2 e
    · obtain ⟨g', off', e', hg', hc'⟩ := (hc i hi).2 h1
      exact ⟨g', off', e', by rw [hsz]; exact hg', fun j hj => key (hc' j hj) (fun x e => by cases e) (fun a c => ⟨(fun e => by cases e), (fun e => by cases e)⟩)⟩
  · obtain ⟨g, off, e, hg, hc⟩ := h.rM h0
    exact ⟨g, off, e, by rw [hsz]; exact hg, fun j hj => key (hc j hj) (fun x e => by cases e) (fun a c => ⟨(fun e => by cases e), (fun e => by cases e)⟩)⟩

set_option maxHeartbeats 4000000 in
set_option maxRecDepth 100000 in
theorem safe_yes (g gN gM : Nat) (w : World) (hD : DM w (dFus g gN gM)) :
    Calls Try.prog 15 #[.agg (dFus g gN gM).cD, .slice none 0 0, .int .i64 2] w fun e w' => e = .returned (.bool true) ∧ Below w.heap.size w w' := by
  have hR := dFus_dr g gN gM
  have HF : Hid (∀ D' : Dd, D'.K = (dFus g gN gM).K → D'.n = 4 → D'.m = 4 → (∀ i, i < 4 → D'.len i = 3) → (∀ i, i < 4 → ∀ c, c < 3 → D'.nx i c = trF (dFus g gN gM) i c) → (∀ i, i < 4 → D'.q i = (dFus g gN gM).q i) → FusT D') := fun D' h1 h2 h3 h4 h5 h6 => fus_of h1 h2 h3 h4 h5 h6
  have HT9 : Hid (∀ W, DM W (dFus g gN gM) → Calls Try.prog 30 #[.agg (dFus g gN gM).cD] W (DfP (dFus g gN gM) 3 4 (trF (dFus g gN gM)) (dFus g gN gM).q W)) := fun W h => trim_any (dFus g gN gM) 3 W h hR
  have HN : Hid ((dFus g gN gM).n = 4 ∧ (dFus g gN gM).m = 4) := ⟨rfl, rfl⟩
  generalize dFus g gN gM = D at hD hR HF HT9 HN ⊢
  have HB := Lib.hid (And.intro (DBx.new hD) (And.intro (al w (.cells D.cD 26)) hR))
  clear hD hR
  go_enter Try.func15, Try.ntmps15
  go_upto_region 1 with fail
  generalize w.alloc (.cells D.cD 26) = V at HB ⊢
  obtain ⟨b, hb0⟩ : ∃ b0, w.heap.size = b0 := ⟨_, rfl⟩
  have Hb0 := Lib.hid hb0
  rw [hb0] at HB
  rw [hb0]
  clear hb0
  have HL := Lib.hid (HT9.out V HB.out.1.dm)
  go_upto_region 2 with (first
    | (refine wpList_load_any9 (by rfl) 26 _ rfl ⟨b, 0, none⟩ rfl D.cD _ HB.out.1.st.part Try.underlying26 rfl HB.out.1.dm.info ?_)
    | (go_at_call 30; refine HL.out.mono ?_; rintro e w2 ⟨D1, rfl, hD1, p1, p2, p3, p4, p5, p6, b2, _⟩
       have HD1 := Lib.hid (And.intro hD1 (And.intro (HF.out D1 p1 p2 p3 p4 p5 p6) (And.intro b2 (HB.out.1.st.keep b2))))
       clear hD1 p1 p2 p3 p4 p5 p6 b2 HL)
    | (refine wpList_store_var9 rfl 26 _ _ rfl b 26 D.cD D1.cD rfl rfl HD1.out.2.2.2 (by rw [HB.out.1.dm.sz, HD1.out.1.sz]) (by rw [info_dfa9, HD1.out.1.sz]) HD1.out.1.one ?_))
  have HV : Hid (DBx (w2.setRow b D1.cD) b D1 ∧ FusT D1 ∧ Below w.heap.size w (w2.setRow b D1.cD)) := by
    have hb := HB.out.2.1
    have hz := hb.size
    have hbz := Hb0.out
    refine ⟨⟨HD1.out.2.2.2.setRow, HB.out.1.dm.over15 HD1.out.2.2.2 HD1.out.1 (fun i hi => ?_) _⟩, HD1.out.2.1, ?_⟩
    · rw [HD1.out.2.1.n] at hi
      rw [HD1.out.2.1.R.len i (by rw [HD1.out.2.1.n]; exact hi), HN.out.1, HN.out.2]
      omega
    · rw [hbz]
      exact below_setRow9 (hb.trans (HD1.out.2.2.1.mono (by omega))) (Nat.le_refl _) _
  clear HD1 HB
  generalize w2.setRow b D1.cD = V1 at HV ⊢
  have HH : Hid (∀ s W, (s = ⟨#[32]⟩ ∨ s = ⟨#[10]⟩) → DM W D1 → Calls Try.prog 31 #[.agg D1.cD, .string s] W fun e w' => e = .returned (.int .i64 2) ∧ Below W.heap.size W w') := fun s W h hD => by
    have := dhas_any D1 3 HV.out.2.1.R s 1 (by rcases h with rfl | rfl <;> rfl) (by omega) W hD
    rwa [fus_has HV.out.2.1 s h] at this
  have HE : Hid (∀ W, DM W D1 → Calls Try.prog 32 #[.agg D1.cD, .slice none 0 0, .int .i64 2] W fun e w' => e = .returned (.bool true) ∧ Below W.heap.size W w') := fun W hD => ended_yes D1 3 HV.out.2.1.R 2 (fus_ended HV.out.2.1) W hD
  have HA : Hid (∀ W, DM W D1 → Calls Try.prog 33 #[.agg D1.cD, .int .i64 2] W fun e w' => e = .returned (.bool true) ∧ Below W.heap.size W w') := fun W hD => apart_yes D1 3 HV.out.2.1.R 2 (fus_apart HV.out.2.1) W hD
  have Hs : Hid (∀ W W', DBx W b D1 ∧ Below w.heap.size w W → Below W.heap.size W W' → DBx W' b D1 ∧ Below w.heap.size w W') := fun W W' h k => ⟨h.1.keep k, h.2.trans (k.mono h.2.size)⟩
  have H2 := Lib.hid (And.intro HV.out.1 HV.out.2.2)
  clear HV
  go_wp2_with (first
    | (go_at_call 31; refine (HH.out _ _ (Or.inr rfl) H3.out.1.dm).mono ?_; rintro e w4 ⟨rfl, b4⟩
       have H4 := Lib.hid (Hs.out _ _ H3.out b4)
       clear b4)
    | (go_at_call 31; refine (HH.out _ _ (Or.inl rfl) H2.out.1.dm).mono ?_; rintro e w3 ⟨rfl, b3⟩
       have H3 := Lib.hid (Hs.out _ _ H2.out b3)
       clear b3)
    | (go_at_call 32; refine (HE.out _ H4.out.1.dm).mono ?_; rintro e w5 ⟨rfl, b5⟩
       have H5 := Lib.hid (Hs.out _ _ H4.out b5)
       clear b5)
    | (go_at_call 33; refine (HA.out _ H5.out.1.dm).mono ?_; rintro e w6 ⟨rfl, b6⟩
       have H6 := Lib.hid (Hs.out _ _ H5.out b6)
       clear b6)
    | (refine wpList_load_any9 (by rfl) 26 _ rfl ⟨b, 0, none⟩ rfl D1.cD _ H5.out.1.st.part Try.underlying26 rfl H5.out.1.dm.info ?_)
    | (refine wpList_load_any9 (by rfl) 26 _ rfl ⟨b, 0, none⟩ rfl D1.cD _ H4.out.1.st.part Try.underlying26 rfl H4.out.1.dm.info ?_)
    | (refine wpList_load_any9 (by rfl) 26 _ rfl ⟨b, 0, none⟩ rfl D1.cD _ H3.out.1.st.part Try.underlying26 rfl H3.out.1.dm.info ?_)
    | (refine wpList_load_any9 (by rfl) 26 _ rfl ⟨b, 0, none⟩ rfl D1.cD _ H2.out.1.st.part Try.underlying26 rfl H2.out.1.dm.info ?_))
  go_ret
  exact ⟨rfl, H6.out.2⟩
end Go.Proofs.Ytldpmcgkbdejjaa
