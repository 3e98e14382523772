import Derived.Test.YtjehgdjlncofeaaZTFrame
import Derived.Test.YtjehgdjlncofeaaZUAll
namespace Go.Proofs.Ytjehgdjlncofeaa
open Go.RowKit Go.Maps Go.WideElems Go.ChangeMaps Go.MapKept
set_option linter.unusedVariables false
set_option linter.unusedSimpArgs false

/-- The example: a (0) and aab (1). -/
def kM (b : Nat) : Nat := if b = 98 then 2 else if b = 97 then 1 else 0
def nxM : Nat → Nat → Int
  | 0, 1 => 1
  | 1, 1 => 2
  | 2, 2 => 3
  | _, _ => -1
def qM : Nat → Int
  | 1 => 0
  | 3 => 1
  | _ => -1
def dMun (g gN gM : Nat) : Dd := ⟨dfC kM (.slice (some ⟨gN, 0, none⟩) 4 4) (.slice (some ⟨gM, 0, none⟩) 4 4), kM, some ⟨gN, 0, none⟩, 4, 4, fun i => some ⟨g + i, 0, none⟩, fun _ => 3, fun _ => 3, nxM, some ⟨gM, 0, none⟩, 4, 4, qM⟩
theorem kM_lt (b : Nat) : kM b < 3 := by unfold kM; split <;> (try split) <;> omega
theorem dMun_dr (g gN gM : Nat) : DR (dMun g gN gM) 3 := by
  refine ⟨⟨fun j _ => kM_lt j, 98, by omega, rfl⟩, by show 1 ≤ 4; omega, by show 4 ≤ 32768; omega, rfl, fun c hc => ?_, fun i _ => rfl, fun i hi => ?_, fun i c hi hc => ?_⟩
  · have : c = 0 ∨ c = 1 ∨ c = 2 := by omega
    rcases this with rfl | rfl | rfl
    · exact ⟨0, by omega, rfl⟩
    · exact ⟨97, by omega, rfl⟩
    · exact ⟨98, by omega, rfl⟩
  · have hi : i < 4 := hi
    show -1 ≤ qM i ∧ qM i < 32768
    have : i = 0 ∨ i = 1 ∨ i = 2 ∨ i = 3 := by omega
    rcases this with rfl | rfl | rfl | rfl <;> decide
  · have hi : i < 4 := hi
    show -1 ≤ nxM i c ∧ nxM i c < ((4 : Nat) : Int)
    have h1 : i = 0 ∨ i = 1 ∨ i = 2 ∨ i = 3 := by omega
    have h2 : c = 0 ∨ c = 1 ∨ c = 2 := by omega
    rcases h1 with rfl | rfl | rfl | rfl <;> rcases h2 with rfl | rfl | rfl <;> decide
theorem dMun_dm {w : World} {g gN gM : Nat} (h0 : St w 3 g #[.int .i64 (-1), .int .i64 1, .int .i64 (-1)]) (h1 : St w 3 (g + 1) #[.int .i64 (-1), .int .i64 2, .int .i64 (-1)]) (h2 : St w 3 (g + 2) #[.int .i64 (-1), .int .i64 (-1), .int .i64 3]) (h3 : St w 3 (g + 3) #[.int .i64 (-1), .int .i64 (-1), .int .i64 (-1)])
    (hN : St w 24 gN #[.slice (some ⟨g, 0, none⟩) 3 3, .slice (some ⟨g + 1, 0, none⟩) 3 3, .slice (some ⟨g + 2, 0, none⟩) 3 3, .slice (some ⟨g + 3, 0, none⟩) 3 3]) (hM : St w 3 gM #[.int .i64 (-1), .int .i64 0, .int .i64 (-1), .int .i64 1]) : DM w (dMun g gN gM) := by
  refine ⟨dfC_size _ _ _, dfC_one _ _ _ _ _ _ _, fun j hj => dfC_cl _ _ _ j hj, fun j _ => by have := kM_lt j; show kM j < 256; omega, dfC_n _ _ _, dfC_k _ _ _, fun _ => ⟨gN, 0, rfl, hN.lt, fun i hi => ?_⟩, fun _ => ⟨gM, 0, rfl, hM.lt, fun j hj => ?_⟩⟩
  · have hi : i < 4 := hi
    have : i = 0 ∨ i = 1 ∨ i = 2 ∨ i = 3 := by omega
    rcases this with rfl | rfl | rfl | rfl
    · refine ⟨hN.at_ 0, fun _ => ⟨g, 0, rfl, h0.lt, fun j hj => ?_⟩⟩
      have hj : j < 3 := hj
      have : j = 0 ∨ j = 1 ∨ j = 2 := by omega
      rcases this with rfl | rfl | rfl <;> exact h0.at_ _
    · refine ⟨hN.at_ 1, fun _ => ⟨g + 1, 0, rfl, h1.lt, fun j hj => ?_⟩⟩
      have hj : j < 3 := hj
      have : j = 0 ∨ j = 1 ∨ j = 2 := by omega
      rcases this with rfl | rfl | rfl <;> exact h1.at_ _
    · refine ⟨hN.at_ 2, fun _ => ⟨g + 2, 0, rfl, h2.lt, fun j hj => ?_⟩⟩
      have hj : j < 3 := hj
      have : j = 0 ∨ j = 1 ∨ j = 2 := by omega
      rcases this with rfl | rfl | rfl <;> exact h2.at_ _
    · refine ⟨hN.at_ 3, fun _ => ⟨g + 3, 0, rfl, h3.lt, fun j hj => ?_⟩⟩
      have hj : j < 3 := hj
      have : j = 0 ∨ j = 1 ∨ j = 2 := by omega
      rcases this with rfl | rfl | rfl <;> exact h3.at_ _
  · have hj : j < 4 := hj
    have : j = 0 ∨ j = 1 ∨ j = 2 ∨ j = 3 := by omega
    rcases this with rfl | rfl | rfl | rfl <;> exact hM.at_ _
theorem zDfa_eq12 : zC 26 = dfC (fun _ => 0) (.slice none 0 0) (.slice none 0 0) := dfC_ext _ _ _ _ zDfa_size zDfa_cls10 zDfa_tail.1 zDfa_tail.2
theorem dfC_setC12 (K : Nat → Nat) (vN vK : Value) (j v : Nat) (hj : j < 256) : (dfC K vN vK).setIfInBounds j (.int .u8 ((v : Nat) : Int)) = dfC (fun i => if i = j then v else K i) vN vK := by
  refine dfC_ext _ vN vK _ (by rw [Array.size_setIfInBounds, dfC_size]) (fun i hi => ?_) ?_ ?_
  · by_cases e : i = j
    · subst e
      rw [Array.getElem?_setIfInBounds_self_of_lt (by rw [dfC_size]; omega), if_pos rfl]
    · rw [Array.getElem?_setIfInBounds_ne (fun h => e h.symm), dfC_cl K vN vK i hi, if_neg e]
  · rw [Array.getElem?_setIfInBounds_ne (by omega), dfC_n]
  · rw [Array.getElem?_setIfInBounds_ne (by omega), dfC_k]

def MunP (w : World) (e : Ending) (w' : World) : Prop := ∃ g gN gM : Nat, e = .returned (.agg (dMun g gN gM).cD) ∧ DM w' (dMun g gN gM) ∧ Below w.heap.size w w'
set_option maxHeartbeats 4000000 in
set_option maxRecDepth 100000 in
theorem machine12_any (w : World) : Calls Try.prog 20 #[] w (MunP w) := by
  have k0 := al w (.cells (zC 26) 26)
  have k1 := al (w.alloc (.cells (zC 26) 26)) (.cells (zC 26) 26)
  have s0 := (St.new w 26 (zC 26)).keep k1
  have s1 := St.new (w.alloc (.cells (zC 26) 26)) 26 (zC 26)
  have hsz : (w.alloc (.cells (zC 26) 26)).heap.size = w.heap.size + 1 := by simp
  rw [hsz] at s1
  have HB := Lib.hid (And.intro s0 (And.intro s1 (k0.trans (k1.mono k0.size))))
  clear k0 k1 s0 s1 hsz
  go_enter Try.func20, Try.ntmps20
  go_upto_region 2 with (refine wpList_alloc9 rfl 26 rfl (zC 26) (zero_run9 _) ?_)
  try simp only [Act.put, List.setIfInBounds_toArray, List.set_cons_zero, List.set_cons_succ, alloc_sz10]
  generalize (w.alloc (.cells (zC 26) 26)).alloc (.cells (zC 26) 26) = W2 at HB ⊢
  obtain ⟨b1, hb1⟩ : ∃ b1, w.heap.size + 1 = b1 := ⟨_, rfl⟩
  have Hb1 := Lib.hid hb1
  rw [hb1] at HB
  rw [hb1]
  clear hb1
  have c97 := HB.out.2.1.at_ 97
  have c98 := HB.out.2.1.at_ 98
  rw [zDfa_cls10 97 (by omega)] at c97
  rw [zDfa_cls10 98 (by omega)] at c98
  have f97 := HB.out.2.1.thaw_ 97
  have f98 := HB.out.2.1.thaw_ 98
  go_upto_region 3 with fail
  have s3 := (HB.out.2.1.set 97 (.int .u8 1)).set 98 (.int .u8 2)
  rw [zDfa_eq12, show (Value.int .u8 1) = .int .u8 ((1 : Nat) : Int) from rfl, show (Value.int .u8 2) = .int .u8 ((2 : Nat) : Int) from rfl, dfC_setC12 _ _ _ 97 1 (by omega), dfC_setC12 _ _ _ 98 2 (by omega)] at s3
  have s4 := (HB.out.1.far (p := ⟨b1, 97, none⟩) (by have := Hb1.out; show w.heap.size ≠ b1; omega) (.int .u8 1)).far (p := ⟨b1, 98, none⟩) (by have := Hb1.out; show w.heap.size ≠ b1; omega) (.int .u8 2)
  have k4 := (HB.out.2.2.setCell (p := ⟨b1, 97, none⟩) (by have := Hb1.out; show w.heap.size ≤ b1; omega) (.int .u8 1)).setCell (p := ⟨b1, 98, none⟩) (by have := Hb1.out; show w.heap.size ≤ b1; omega) (.int .u8 2)
  have H3 := Lib.hid (And.intro s4 (And.intro s3 k4))
  clear s3 s4 k4 c97 c98 f97 f98 HB
  have h1 : (Value.int .u8 ((1 : Nat) : Int)) = .int .u8 1 := rfl
  have h2 : (Value.int .u8 ((2 : Nat) : Int)) = .int .u8 2 := rfl
  rw [h1, h2] at H3
  clear h1 h2
  generalize (W2.setCell ⟨b1, 97, none⟩ (.int .u8 1)).setCell ⟨b1, 98, none⟩ (.int .u8 2) = W3 at H3 ⊢
  obtain ⟨g, hg⟩ : ∃ g, W3.heap.size = g := ⟨_, rfl⟩
  have Hg := Lib.hid hg
  have f256 : ∀ o1 o2 o3 o4 o5, (((((W3.alloc o1).alloc o2).alloc o3).alloc o4).alloc o5).frozen? ⟨b1, 256, none⟩ = false := fun o1 o2 o3 o4 o5 => (((((H3.out.2.1.alloc o1).alloc o2).alloc o3).alloc o4).alloc o5).thaw_ 256
  have c256 : ∀ o1 o2 o3 o4 o5, (((((W3.alloc o1).alloc o2).alloc o3).alloc o4).alloc o5).cell? ⟨b1, 256, none⟩ = some (.slice none 0 0) := fun o1 o2 o3 o4 o5 => by rw [(((((H3.out.2.1.alloc o1).alloc o2).alloc o3).alloc o4).alloc o5).at_ 256, dfC_n]
  go_upto_region 4 with fail
  have hb1g : b1 < g := by have := H3.out.2.1.lt; omega
  have hb0g : w.heap.size < g := by have := Hb1.out; omega
  have a0 := St.new W3 3 #[.int .i64 (-1), .int .i64 1, .int .i64 (-1)]
  rw [hg] at a0
  obtain ⟨V1, hV1⟩ : ∃ V, W3.alloc (.cells #[.int .i64 (-1), .int .i64 1, .int .i64 (-1)] 3) = V := ⟨_, rfl⟩
  have z1 : V1.heap.size = g + 1 := by rw [← hV1, alloc_sz10, hg]
  have a1 := St.new V1 3 #[.int .i64 (-1), .int .i64 2, .int .i64 (-1)]
  rw [z1] at a1
  obtain ⟨V2, hV2⟩ : ∃ V, V1.alloc (.cells #[.int .i64 (-1), .int .i64 2, .int .i64 (-1)] 3) = V := ⟨_, rfl⟩
  have z2 : V2.heap.size = g + 1 + 1 := by rw [← hV2, alloc_sz10, z1]
  have a2 := St.new V2 3 #[.int .i64 (-1), .int .i64 (-1), .int .i64 3]
  rw [z2] at a2
  obtain ⟨V3, hV3⟩ : ∃ V, V2.alloc (.cells #[.int .i64 (-1), .int .i64 (-1), .int .i64 3] 3) = V := ⟨_, rfl⟩
  have z3 : V3.heap.size = g + 1 + 1 + 1 := by rw [← hV3, alloc_sz10, z2]
  have a3 := St.new V3 3 #[.int .i64 (-1), .int .i64 (-1), .int .i64 (-1)]
  rw [z3] at a3
  obtain ⟨V4, hV4⟩ : ∃ V, V3.alloc (.cells #[.int .i64 (-1), .int .i64 (-1), .int .i64 (-1)] 3) = V := ⟨_, rfl⟩
  have z4 : V4.heap.size = g + 1 + 1 + 1 + 1 := by rw [← hV4, alloc_sz10, z3]
  have a4 := St.new V4 24 #[.slice (some ⟨g, 0, none⟩) 3 3, .slice (some ⟨g + 1, 0, none⟩) 3 3, .slice (some ⟨g + 1 + 1, 0, none⟩) 3 3, .slice (some ⟨g + 1 + 1 + 1, 0, none⟩) 3 3]
  rw [z4] at a4
  obtain ⟨V5, hV5⟩ : ∃ V, V4.alloc (.cells #[.slice (some ⟨g, 0, none⟩) 3 3, .slice (some ⟨g + 1, 0, none⟩) 3 3, .slice (some ⟨g + 1 + 1, 0, none⟩) 3 3, .slice (some ⟨g + 1 + 1 + 1, 0, none⟩) 3 3] 24) = V := ⟨_, rfl⟩
  have z5 : V5.heap.size = g + 1 + 1 + 1 + 1 + 1 := by rw [← hV5, alloc_sz10, z4]
  have k1 : Below W3.heap.size W3 V1 := by rw [← hV1]; exact al _ _
  have k2 : Below V1.heap.size V1 V2 := by rw [← hV2]; exact al _ _
  have k3 : Below V2.heap.size V2 V3 := by rw [← hV3]; exact al _ _
  have k4 : Below V3.heap.size V3 V4 := by rw [← hV4]; exact al _ _
  have k5 : Below V4.heap.size V4 V5 := by rw [← hV5]; exact al _ _
  rw [hV1] at a0
  rw [hV2] at a1
  rw [hV3] at a2
  rw [hV4] at a3
  rw [hV5] at a4
  have b0 := (((a0.keep k2).keep k3).keep k4).keep k5
  have b1' := ((a1.keep k3).keep k4).keep k5
  have b2 := (a2.keep k4).keep k5
  have b3 := a3.keep k5
  have K5 : Below W3.heap.size W3 V5 := k1.trans ((k2.trans ((k3.trans ((k4.trans (k5.mono (by omega))).mono (by omega))).mono (by omega))).mono (by omega))
  rw [hV1, hV2, hV3, hV4, hV5]
  have t0 := H3.out.1.keep K5
  have t1 := H3.out.2.1.keep K5
  have t2 := H3.out.2.2.trans (K5.mono (by omega))
  obtain ⟨v4, hv4⟩ : ∃ v4, Value.slice (some ⟨g + 1 + 1 + 1 + 1, 0, none⟩) 4 4 = v4 := ⟨_, rfl⟩
  have t1' := t1.set 256 v4
  rw [dfC_setN] at t1'
  have H5 : Hid (St (V5.setCell ⟨b1, 256, none⟩ v4) 26 w.heap.size (zC 26) ∧ St (V5.setCell ⟨b1, 256, none⟩ v4) 26 b1 (dfC kM v4 (.slice none 0 0)) ∧ Below w.heap.size w (V5.setCell ⟨b1, 256, none⟩ v4) ∧ (V5.setCell ⟨b1, 256, none⟩ v4).heap.size = g + 5 ∧
      St (V5.setCell ⟨b1, 256, none⟩ v4) 3 g #[.int .i64 (-1), .int .i64 1, .int .i64 (-1)] ∧ St (V5.setCell ⟨b1, 256, none⟩ v4) 3 (g + 1) #[.int .i64 (-1), .int .i64 2, .int .i64 (-1)] ∧ St (V5.setCell ⟨b1, 256, none⟩ v4) 3 (g + 1 + 1) #[.int .i64 (-1), .int .i64 (-1), .int .i64 3] ∧
      St (V5.setCell ⟨b1, 256, none⟩ v4) 3 (g + 1 + 1 + 1) #[.int .i64 (-1), .int .i64 (-1), .int .i64 (-1)] ∧ St (V5.setCell ⟨b1, 256, none⟩ v4) 24 (g + 1 + 1 + 1 + 1) #[.slice (some ⟨g, 0, none⟩) 3 3, .slice (some ⟨g + 1, 0, none⟩) 3 3, .slice (some ⟨g + 1 + 1, 0, none⟩) 3 3, .slice (some ⟨g + 1 + 1 + 1, 0, none⟩) 3 3]) :=
    ⟨t0.far (p := ⟨b1, 256, none⟩) (by show w.heap.size ≠ b1; have := Hb1.out; omega) v4, t1', t2.setCell (p := ⟨b1, 256, none⟩) (by show w.heap.size ≤ b1; have := Hb1.out; omega) v4, by simp [World.setCell]; omega,
      b0.far (p := ⟨b1, 256, none⟩) (by show g ≠ b1; omega) v4, b1'.far (p := ⟨b1, 256, none⟩) (by show g + 1 ≠ b1; omega) v4, b2.far (p := ⟨b1, 256, none⟩) (by show g + 1 + 1 ≠ b1; omega) v4, b3.far (p := ⟨b1, 256, none⟩) (by show g + 1 + 1 + 1 ≠ b1; omega) v4, a4.far (p := ⟨b1, 256, none⟩) (by show g + 1 + 1 + 1 + 1 ≠ b1; omega) v4⟩
  have Hgb := Lib.hid (And.intro hb1g hb0g)
  rw [hv4]
  have Hv4 := Lib.hid hv4
  clear hv4 t0 t1 t1' t2 b0 b1' b2 b3 a0 a1 a2 a3 a4 k1 k2 k3 k4 k5 K5 z1 z2 z3 z4 z5 hV1 hV2 hV3 hV4 hV5 f256 c256 hb1g hb0g hg V1 V2 V3 V4 H3
  generalize V5.setCell ⟨b1, 256, none⟩ v4 = W5 at H5 ⊢
  have hw5 := H5.out.2.2.2.1
  have f257 : ∀ o1, (W5.alloc o1).frozen? ⟨b1, 257, none⟩ = false := fun o1 => (H5.out.2.1.alloc o1).thaw_ 257
  have c257 : ∀ o1, (W5.alloc o1).cell? ⟨b1, 257, none⟩ = some (.slice none 0 0) := fun o1 => by rw [(H5.out.2.1.alloc o1).at_ 257, dfC_k]
  go_upto_region 5 with fail
  obtain ⟨v5, hv5⟩ : ∃ v5, Value.slice (some ⟨g + 5, 0, none⟩) 4 4 = v5 := ⟨_, rfl⟩
  have kk := al W5 (.cells #[.int .i64 (-1), .int .i64 0, .int .i64 (-1), .int .i64 1] 3)
  have aM := St.new W5 3 #[.int .i64 (-1), .int .i64 0, .int .i64 (-1), .int .i64 1]
  rw [hw5] at aM
  obtain ⟨h0, h1, h2, _, s0, s1, s2, s3, sN⟩ := H5.out
  have hgb := Hgb.out
  have hbb := Hb1.out
  have e0 := (h0.keep kk).far (p := ⟨b1, 257, none⟩) (by show w.heap.size ≠ b1; omega) v5
  have e1 := (h1.keep kk).set 257 v5
  rw [dfC_setK] at e1
  have e2 := (h2.trans (kk.mono h2.size)).setCell (p := ⟨b1, 257, none⟩) (by show w.heap.size ≤ b1; omega) v5
  have d0 := (s0.keep kk).far (p := ⟨b1, 257, none⟩) (by show g ≠ b1; omega) v5
  have d1 := (s1.keep kk).far (p := ⟨b1, 257, none⟩) (by show g + 1 ≠ b1; omega) v5
  have d2 := (s2.keep kk).far (p := ⟨b1, 257, none⟩) (by show g + 1 + 1 ≠ b1; omega) v5
  have d3 := (s3.keep kk).far (p := ⟨b1, 257, none⟩) (by show g + 1 + 1 + 1 ≠ b1; omega) v5
  have dN := (sN.keep kk).far (p := ⟨b1, 257, none⟩) (by show g + 1 + 1 + 1 + 1 ≠ b1; omega) v5
  have dM := aM.far (p := ⟨b1, 257, none⟩) (by show g + 5 ≠ b1; omega) v5
  rw [hv5]
  generalize (W5.alloc (.cells #[.int .i64 (-1), .int .i64 0, .int .i64 (-1), .int .i64 1] 3)).setCell ⟨b1, 257, none⟩ v5 = W7 at e0 e1 e2 d0 d1 d2 d3 dN dM ⊢
  have hcD : dfC kM v4 v5 = (dMun g (g + 4) (g + 5)).cD := by rw [← Hv4.out, ← hv5]; rfl
  rw [hcD] at e1
  have hk := kept_setRow9 W7 w.heap.size (dMun g (g + 4) (g + 5)).cD
  have HD : Hid (DBx W7 b1 (dMun g (g + 4) (g + 5)) ∧ DM (W7.setRow w.heap.size (dMun g (g + 4) (g + 5)).cD) (dMun g (g + 4) (g + 5)) ∧ St W7 26 w.heap.size (zC 26) ∧ Below w.heap.size w W7) := by
    refine ⟨⟨e1, dMun_dm d0 d1 d2 d3 dN dM⟩, ?_, e0, e2⟩
    exact dMun_dm (d0.kept hk (by simp) (by simp; omega)) (d1.kept hk (by simp) (by simp; omega)) (d2.kept hk (by simp) (by simp; omega)) (d3.kept hk (by simp) (by simp; omega)) (dN.kept hk (by simp) (by simp; omega)) (dM.kept hk (by simp) (by simp; omega))
  have HX : Hid (MunP w (.returned (.agg (dMun g (g + 4) (g + 5)).cD)) (W7.setRow w.heap.size (dMun g (g + 4) (g + 5)).cD)) := ⟨g, g + 4, g + 5, rfl, HD.out.2.1, below_setRow9 e2 (Nat.le_refl _) _⟩
  clear kk aM h0 h1 h2 s0 s1 s2 s3 sN hgb hbb e0 e1 e2 d0 d1 d2 d3 dN dM hv5 hcD hk H5 f257 c257 hw5
  have hcs : (dMun g (g + 4) (g + 5)).cD.size = 258 := dfC_size _ _ _
  have hone := HD.out.1.dm.one
  have HC := Lib.hid (And.intro hcs hone)
  clear hcs hone
  generalize dMun g (g + 4) (g + 5) = D at HD HX HC
  go_wp2_with (first
    | (refine wpList_load_any9 (by rfl) 26 _ rfl ⟨b1, 0, none⟩ rfl D.cD _ HD.out.1.st.part Try.underlying26 rfl HD.out.1.dm.info ?_)
    | (refine wpList_store_var9 rfl 26 _ _ rfl w.heap.size 26 (zC 26) D.cD rfl rfl HD.out.2.2.1 (by rw [zDfa_size, HC.out.1]) (by rw [info_dfa9, HC.out.1]) HC.out.2 ?_))
  refine bodyPost_ret (results_cell_row rfl _ _ w.heap.size 26 D.cD (0, 0) _ rfl HD.out.2.2.1.setRow Try.underlying26 rfl (by rw [info_dfa9, HC.out.1])) rfl ?_
  exact HX.out
end Go.Proofs.Ytjehgdjlncofeaa
