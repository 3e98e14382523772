import Derived.Test.YtlnndkilaklifaaZNRight
import Derived.Test.YtlnndkilaklifaaZSLead
import Derived.Test.YtlnndkilaklifaaZSMarkFn
import Derived.Test.YtlnndkilaklifaaZSMath
import Derived.Test.YtlnndkilaklifaaZSNet
import Derived.Test.YtlnndkilaklifaaZSVar
namespace Go.Proofs.Ytlnndkilaklifaa
open Go.RowKit Go.Maps Go.WideElems Go.ChangeMaps Go.MapKept
set_option linter.unusedVariables false
set_option linter.unusedSimpArgs false

theorem nrep_pos9 (K : Nat → Lit) : 0 < nrep K 256 := by
  have h := cls_lt K 0 256 (by omega)
  omega
/-- A deterministic automaton in memory. -/
structure DfaAt (w : World) (cD : Array Value) (K : Nat → Lit) (R : List (List Int)) (ms : List Int) (C : Nat) : Prop where
  cl : ∀ j, j < 256 → cD[j]? = some (.int .u8 ((cls K j : Nat) : Int))
  nx : ∃ vN gs, cD[256]? = some vN ∧ NxAt w 0 [] vN C gs R
  mks : ∃ vK, cD[257]? = some vK ∧ w.ownsRow 0 3 1 vK ms.length (ints ms)
  rl : ∀ r ∈ R, r.length = C
theorem DfaAt.keep {w w' : World} {cD : Array Value} {K : Nat → Lit} {R : List (List Int)} {ms : List Int} {C : Nat} (h : DfaAt w cD K R ms C) (k : Below w.heap.size w w') : DfaAt w' cD K R ms C := by
  obtain ⟨vN, gs, h1, h2⟩ := h.nx
  obtain ⟨vK, h3, h4⟩ := h.mks
  exact ⟨h.cl, ⟨vN, gs, h1, h2.keep k⟩, ⟨vK, h3, ownsRow_keep h4 k⟩, h.rl⟩
theorem kept_setRow9 (w : World) (b : Nat) (cs : Array Value) : Kept [] [b] w (w.setRow b cs) := fun k o hk _ hn => by
  rw [setRow_other w b k cs (by simpa using hn)]
  exact hk
theorem DfaAt.setRow {w : World} {cD : Array Value} {K : Nat → Lit} {R : List (List Int)} {ms : List Int} {C b : Nat} {old cs : Array Value} (h : DfaAt w cD K R ms C) (hb : St w 30 b old) : DfaAt (w.setRow b cs) cD K R ms C := by
  obtain ⟨vN, gs, h1, h2⟩ := h.nx
  obtain ⟨vK, h3, h4⟩ := h.mks
  have k := kept_setRow9 w b cs
  refine ⟨h.cl, ⟨vN, gs, h1, ⟨own_kept h2.own k (by simp) (fun g e hm => own_ne h2.own hb (by decide) g e (List.mem_singleton.1 hm)), h2.len, fun i hi hi' => ⟨(h2.row i hi hi').1.kept k (by simp) (fun hm => (h2.row i hi hi').1.ne hb (by decide) (List.mem_singleton.1 hm)), by simp⟩⟩⟩,
    ⟨vK, h3, own_kept h4 k (by simp) (fun g e hm => own_ne h4 hb (by decide) g e (List.mem_singleton.1 hm))⟩, h.rl⟩
theorem DfaAt.rows {w : World} {cD : Array Value} {K : Nat → Lit} {R : List (List Int)} {ms : List Int} {C : Nat} (h : DfaAt w cD K R ms C) : ∃ a c A, cD[256]? = some (.slice a R.length c) ∧ ZsAt w a R.length A (fun _ => C) (fun _ => C) (fun i x => (R.getD i []).getD x 0) := by
  obtain ⟨vN, gs, h1, h2⟩ := h.nx
  have hN := h2.own
  obtain ⟨aN, cN, rfl⟩ := ownsRow_slice hN
  refine ⟨aN, cN, fun i => some ⟨gs.getD i 0, 0, none⟩, h1, fun h0 => ?_⟩
  obtain ⟨g, rfl, _, hg, hc⟩ := ownsRow_read hN h0
  refine ⟨g, 0, rfl, hg, fun i hi => ?_⟩
  have hig : i < gs.length := by rw [h2.len]; exact hi
  obtain ⟨hs, _⟩ := h2.row i hig hi
  have hrl := h.rl _ (List.getElem_mem hi)
  refine ⟨?_, fun h1 => ⟨gs.getD i 0, 0, rfl, ?_, fun j hj => ?_⟩⟩
  · rw [Nat.zero_add, (hc i (by omega)).1]
    simp [List.getD_eq_getElem?_getD, hig]
  · have := hs.lt
    simpa [List.getD_eq_getElem?_getD, hig] using this
  · have hgi : gs.getD i 0 = gs[i] := by simp [List.getD_eq_getElem?_getD, hig]
    rw [Nat.zero_add, hgi, hs.at_]
    have hj2 : j < R[i].length := by rw [hrl]; exact hj
    simp [ints, List.getD_eq_getElem?_getD, hi, hj2]
theorem DfaAt.marks {w : World} {cD : Array Value} {K : Nat → Lit} {R : List (List Int)} {ms : List Int} {C : Nat} (h : DfaAt w cD K R ms C) : ∃ a c, cD[257]? = some (.slice a ms.length c) ∧ ZAt w a ms.length (fun i => ms.getD i 0) := by
  obtain ⟨vK, h3, h4⟩ := h.mks
  obtain ⟨a, c, rfl⟩ := ownsRow_slice h4
  refine ⟨a, c, h3, fun h0 => ?_⟩
  obtain ⟨g, rfl, _, hg, hc⟩ := ownsRow_read h4 h0
  refine ⟨g, 0, rfl, hg, fun j hj => ?_⟩
  rw [Nat.zero_add, (hc j (by omega)).1]
  simp [ints, List.getD_eq_getElem?_getD, hj]
def DetP (L : List En) (F : Nat) (mf : Nat → Int) (w : World) (e : Ending) (w' : World) : Prop :=
  ∃ (cD : Array Value) (er : Int) (nm : List Nat) (L' : List En) (f0 : Nat) (s0 : Nat → Bool) (k : Nat) (R : List (List Int)) (SS : List (Nat → Bool)), e = .returned (.tuple #[.agg cD, .int .i64 er]) ∧ Below w.heap.size w w' ∧ Made L F nm L' f0 s0 k R SS ∧ cD.size = 258 ∧ (∀ v ∈ cD.toList, v.oneCell' = true) ∧
    ((er = 6 ∧ 2000 < SS.length ∧ cD = zC 30) ∨ (er = 0 ∧ SS.length = k ∧ k ≤ 2000 ∧ ∃ ms, DfaAt w' cD (KOf L) R ms (rl (KOf L) 256).length ∧ ms.length = k ∧ ∀ j (h : j < SS.length) (h2 : j < ms.length), Least (fun i => mf (nm.getD i 0)) (fun x => x < nm.length ∧ SS[j] x = true) ms[j]))
theorem Add1.start {M : Nat} {S : Nat → Prop} {SS' : List (Nat → Bool)} {r : Int} (h : Add1 M S [] r SS') (h0 : ∃ x, x < M ∧ S x) : ∃ f, SS' = [f] ∧ ∀ x, x < M → (f x = true ↔ S x) := by
  rcases h with ⟨h1, _, _⟩ | ⟨_, j, _, ⟨hj, hjs⟩, rfl | ⟨f, rfl, rfl, _⟩⟩
  · obtain ⟨x, hx, hs⟩ := h0
    exact absurd hs (h1 x hx)
  · simp at hj
  · exact ⟨f, rfl, fun x hx => hjs x hx⟩
/-- What the maker holds, as the answer holds it. -/
theorem MkS.dfa {w : World} {B bm gI bM m M C bn n : Nat} {K : Nat → Lit} {L : List En} {mk : Nat → Int} {SS : List (Nat → Bool)} {ms : List Int} {D : List ((Nat → Bool) × Nat)} {R : List (List Int)} {cs : Array Value} {l : List Nat} {vL vS vK vN : Value} {gs : List Nat}
    (h : MkS B bm gI bM m M C bn K L mk SS ms D R n cs l vL vS vK vN gs w) (hR : ∀ r ∈ R, r.length = C) :
    ∃ cD : Array Value, cD.size = 258 ∧ (∀ v ∈ cD.toList, v.oneCell' = true) ∧ (∀ j v, cD.toList[j]? = some v → w.cell? ((⟨bm, 1, none⟩ : Addr).add j) = some v) ∧ ms.length = SS.length ∧ DfaAt w cD K R ms C := by
  have hlm := h.inv.len
  have hN := h.nx.own
  have hK := h.t.ok
  obtain ⟨aN, cN, rfl⟩ := ownsRow_slice hN
  obtain ⟨aK, cK, rfl⟩ := ownsRow_slice hK
  refine ⟨((List.range 256).map (fun j => Value.int .u8 ((cls K j : Nat) : Int)) ++ [Value.slice aN R.length cN, Value.slice aK SS.length cK]).toArray, by simp, fun v hv => ?_, fun j v hj => ?_, hlm, ⟨fun j hj => ?_, ⟨.slice aN R.length cN, gs, by simp [List.getElem?_append], ⟨ownsRow_base hN (Nat.zero_le _), h.nx.len, fun i hi hi' => ⟨(h.nx.row i hi hi').1, by simp⟩⟩⟩, ⟨.slice aK SS.length cK, by simp [List.getElem?_append], by rw [hlm]; exact ownsRow_base hK (Nat.zero_le _)⟩, hR⟩⟩
  · rcases List.mem_append.1 hv with hv | hv
    · obtain ⟨j, _, rfl⟩ := List.mem_map.1 hv
      rfl
    · simp only [List.mem_cons, List.not_mem_nil, or_false] at hv
      rcases hv with rfl | rfl <;> rfl
  · have e : (⟨bm, 1, none⟩ : Addr).add j = ⟨bm, 1 + j, none⟩ := by unfold Addr.add; split <;> simp_all
    have hj2 : j < 258 := by
      have := (List.getElem?_eq_some_iff.1 hj).1
      simpa using this
    rw [e, h.a.r.other (1 + j) (by omega)]
    by_cases e1 : j < 256
    · rw [h.cl j e1, ← hj]
      simp [List.getElem?_append, e1]
    · by_cases e2 : j = 256
      · subst e2
        rw [show 1 + 256 = 257 from rfl, h.cN, ← hj]
        simp [List.getElem?_append]
      · have e3 : j = 257 := by omega
        subst e3
        rw [show 1 + 257 = 258 from rfl, h.t.cK, ← hj]
        simp [List.getElem?_append]
  · simp [List.getElem?_append, hj]

set_option maxHeartbeats 2000000 in
set_option maxRecDepth 100000 in
theorem det_any (kf bV : Nat) (mf : Nat → Int) (S0 T : Int) (F : Nat) (L : List En) (a : Option Addr) (n c : Nat) (w : World) (HC : ∀ (args : Array Value) (W : World), (callFunc kf args).run Try.prog W = .ok (.enter kf args) W)
    (HM : ∀ W, Below w.heap.size w W → ∀ x, x ≤ 9223372036854775807 → Calls Try.prog kf #[.int .i64 ((x : Nat) : Int), .pointer (some ⟨bV, 0, none⟩)] W fun e w' => e = .returned (.int .i64 (mf x)) ∧ w' = W) (hmf : ∀ x, -1 ≤ mf x)
    (hL : EdAt w a (L.map En.z)) (hn : L.length = n) (hmax : n ≤ 30) (hF : F ≤ 9223372036854775807) (hE : ∀ e ∈ L, e.f ≤ 9223372036854775807 ∧ e.t ≤ 9223372036854775807) (hr : riB S0 (L.map En.z) ((F : Nat) : Int) T = true) :
    Calls Try.prog 34 #[.agg #[.int .i64 S0, .slice a n c, .int .i64 ((F : Nat) : Int), .int .i64 T], .func (.func kf) #[] #[.pointer (some ⟨bV, 0, none⟩)]] w (DetP L F mf w) := by
  have HNet := Lib.hid (fun (W : World) (hb : Below w.heap.size w W) => newnet_any kf bV mf S0 T F L a n c W HC (fun W' hb' => HM W' (hb.trans (hb'.mono hb.size))) (hL.below hb) hn hmax hF hE)
  have HRi : Hid (∀ (W : World), Below w.heap.size w W → Calls Try.prog 59 #[.agg #[.int .i64 S0, .slice a n c, .int .i64 ((F : Nat) : Int), .int .i64 T]] W fun e w' => e = .returned (.bool true) ∧ Below W.heap.size W w') := fun W hb => by
    have := right_any S0 ((F : Nat) : Int) T a n c (L.map En.z) W (hL.below hb) (by rw [List.length_map]; exact hn) (by unfold maxLen; omega)
    rwa [hr] at this
  have HH := Lib.hid (And.intro hn (And.intro hmf hr))
  clear HC HM hL hn hE hr hmf
  go_enter Try.func34, Try.ntmps34
  go_wp2_with (refine wpList_alloc9 rfl 30 rfl (zC 30) (zero_run9 _) ?_)
  go_upto_region 1 with fail
  have h2 : St ((w.alloc (.cells #[.int .i64 S0, .slice a n c, .int .i64 ((F : Nat) : Int), .int .i64 T] 24)).alloc (.cells (zC 30) 30)) 24 w.heap.size #[.int .i64 S0, .slice a n c, .int .i64 ((F : Nat) : Int), .int .i64 T] := (St.new w _ _).alloc _
  have h4 : St ((w.alloc (.cells #[.int .i64 S0, .slice a n c, .int .i64 ((F : Nat) : Int), .int .i64 T] 24)).alloc (.cells (zC 30) 30)) 30 (w.heap.size + 1) (zC 30) := by
    have := St.new (w.alloc (.cells #[.int .i64 S0, .slice a n c, .int .i64 ((F : Nat) : Int), .int .i64 T] 24)) 30 (zC 30)
    simpa using this
  have hB0 : Below w.heap.size w ((w.alloc (.cells #[.int .i64 S0, .slice a n c, .int .i64 ((F : Nat) : Int), .int .i64 T] 24)).alloc (.cells (zC 30) 30)) := (al w _).trans ((al _ _).mono (by simp))
  generalize (w.alloc (.cells #[.int .i64 S0, .slice a n c, .int .i64 ((F : Nat) : Int), .int .i64 T] 24)).alloc (.cells (zC 30) 30) = W0 at h2 h4 hB0 ⊢
  obtain ⟨b4, hb4⟩ : ∃ b4, w.heap.size + 1 = b4 := ⟨_, rfl⟩
  rw [hb4] at h4
  rw [hb4]
  obtain ⟨r0, r1, r2, r3⟩ := h2.cells4
  have H0 := Lib.hid (And.intro h2 (And.intro h4 (And.intro hB0 hb4)))
  have HR0 := Lib.hid (HRi.out W0 hB0)
  clear h2 h4 hB0 hb4
  go_wp2_with fail
  refine HR0.out.mono ?_
  rintro e w1 ⟨rfl, hB1⟩
  have hk1 : Below w.heap.size w w1 := H0.out.2.2.1.trans (hB1.mono H0.out.2.2.1.size)
  have s2 := H0.out.1.keep hB1
  have H1 := Lib.hid (And.intro s2 (And.intro (H0.out.2.1.keep hB1) hk1))
  have HN1 := Lib.hid (HNet.out w1 hk1)
  clear r0 r1 r2 r3
  obtain ⟨r0, r1, r2, r3⟩ := s2.cells4
  clear hB1 hk1 s2 HR0 HRi HNet
  go_wp2_with fail
  refine HN1.out.mono ?_
  rintro e w2 ⟨bn, f0, gM, cM, gF, cF, gS, cS, nm, L', aF, aS, cRF, cRS, csA, rfl, hB2, hFr, hSt, hMk, hCl, hfst, hren, hnd, hbd, hf0, hnl, hsrc⟩
  obtain ⟨m, hm⟩ : ∃ m, (nm.length + 7) / 8 = m := ⟨_, rfl⟩
  have hlL : L.length = L'.length := by rw [hren, List.length_map]
  have hL30 : L'.length ≤ 30 := by have := HH.out.1; omega
  have hM61 : nm.length ≤ 100 := by have := HH.out.1; omega
  have HMkr := Lib.hid (newmaker_any (KOf L) L' (fun i => mf (nm.getD i 0)) csA bn gM nm.length cM m (rl (KOf L) 256).length w2 hCl hMk.fld hM61 hm)
  have HNt := Lib.hid (And.intro hFr (And.intro hSt (And.intro hMk (And.intro hfst (And.intro hren (And.intro hnd (And.intro hbd (And.intro hf0 (And.intro hsrc hm)))))))))
  have H2 := Lib.hid (And.intro (H1.out.2.1.keep hB2) (H1.out.2.2.trans (hB2.mono H1.out.2.2.size)))
  have hbn : bn < w2.heap.size := hFr.blk.1
  have hlo := hB2.size
  have hlo9 : w.heap.size ≤ w2.heap.size := by have := H1.out.2.2.size; omega
  clear hB2 hFr hSt hMk hCl hfst hren hnd hbd hf0 hsrc hm hnl hlL HN1 r0 r1 r2 r3
  go_wp2_with fail
  refine HMkr.out.mono ?_
  rintro e w3 ⟨bm, gI, bM, cK, rfl, hMK, hB3⟩
  have c0 : w3.cell? ⟨bm, 0, none⟩ = some (.pointer (some ⟨bn, 0, none⟩)) := (hMK.a.r.other 0 (by decide)).trans hMK.c0
  have c1 : w3.cell? ⟨bn, 256, none⟩ = some (.int .i64 ((f0 : Nat) : Int)) := (hB3.cell (p := ⟨bn, 256, none⟩) hbn).trans HNt.out.2.2.2.1
  have hb3 := hB3.size
  have HMK := Lib.hid (hMK.keep (al w3 (.cells #[.int .i64 ((f0 : Nat) : Int)] 3)))
  have HB3 := Lib.hid hB3
  have hbs := hMK.bs_lt
  have hf0M : f0 < nm.length := (List.getElem?_eq_some_iff.1 HNt.out.2.2.2.2.2.2.2.1).1
  have hBw4 : Below w2.heap.size w2 (w3.alloc (.cells #[.int .i64 ((f0 : Nat) : Int)] 3)) := hB3.trans ((al w3 _).mono hb3)
  have HCl := Lib.hid (closeOf_any (w3.alloc (.cells #[.int .i64 ((f0 : Nat) : Int)] 3)) w2.heap.size (bsA bm gI bM (.slice none 0 0) (.slice none 0 0) (.slice none 0 0)) bm gI m nm.length bM bn gM cM gF cF aF cRF L' (HNt.out.1.below hBw4) HNt.out.2.2.2.2.2.2.1 (by omega) cK (fun i => mf (nm.getD i 0)) (HNt.out.2.2.1.below hBw4) (fun i _ => HH.out.2.1 _) HMK.out.c0 (by omega) HNt.out.2.2.2.2.2.2.2.2.2 _ [] (.slice none 0 0) (.slice none 0 0) (.slice none 0 0) 0 [] [] [] (by simp) (by omega) (by simp)
    (some ⟨w3.heap.size, 0, none⟩) 1 1 [f0] rfl (by omega) (fun x hx => by rw [List.mem_singleton.1 hx]; exact hf0M) (fun W hW h0 => by
      have hg : w3.heap.size < (w3.alloc (.cells #[.int .i64 ((f0 : Nat) : Int)] 3)).heap.size := by simp
      have hn : w3.heap.size ∉ bsA bm gI bM (.slice none 0 0) (.slice none 0 0) (.slice none 0 0) := fun hm => Nat.lt_irrefl _ (hbs _ hm)
      have h1 := hW _ _ (Array.getElem?_eq_getElem hg) (fun _ _ _ _ => by simp) hn
      refine ⟨w3.heap.size, 0, rfl, (Array.getElem?_eq_some_iff.1 h1).1, fun j hj => ?_⟩
      obtain rfl : j = 0 := by simp at hj; omega
      rw [hW.cell9 hn hg]
      exact (St.new w3 3 #[.int .i64 ((f0 : Nat) : Int)]).at_ 0) _ HMK.out.a.r HMK.out.t HMK.out.inv)
  clear hMK hB3 hbs hBw4 HMkr
  go_wp2_with fail
  refine HCl.out.mono ?_
  rintro e w5 hpost
  obtain ⟨r, SS1, ms1, D1, n1, cs1, l1, vL1, vS1, vK1, rfl, hM5, hAdd, _, hB5, _⟩ := HMK.out.close hpost ⟨f0, hf0M, .base (by simp)⟩
  obtain ⟨s0, rfl, hs0⟩ := hAdd.start ⟨f0, hf0M, .base (by simp)⟩
  have HS0 : Hid (∀ x, x < nm.length → (s0 x = true ↔ FR L' (fun y => y = f0) x)) := fun x hx => (hs0 x hx).trans (FR.congr (fun y => by simp) x)
  have HM5 := Lib.hid hM5
  have HB5 := Lib.hid ((HB3.out.trans ((al w3 _).mono hb3)).trans hB5)
  clear hpost hM5 hAdd hB5 hs0 c0 c1 HCl HMK
  have hlC : (rl (KOf L) 256).length ≤ 256 := by rw [rl_len]; exact nrep_le _ _
  have hCp : 0 < (rl (KOf L) 256).length := by
    rw [rl_len]
    exact nrep_pos9 _
  go_wp2_with fail
  go_loopw [7] (fun v wq => ∃ (k : Nat) (SS : List (Nat → Bool)) (ms : List Int) (D : List ((Nat → Bool) × Nat)) (R : List (List Int)) (nn : Nat) (cs : Array Value) (l : List Nat) (vL vS vK vN : Value) (gs : List Nat), v = .int .i64 k ∧ k ≤ SS.length ∧ SS.length ≤ 2000 ∧
    Hid (MkS w2.heap.size bm gI bM m nm.length (rl (KOf L) 256).length bn (KOf L) L' (fun i => mf (nm.getD i 0)) SS ms D R nn cs l vL vS vK vN gs wq) ∧ Hid (RunD nm.length (rl (KOf L) 256).length (TTo L' nm.length (rpO (KOf L))) [s0] k R SS) ∧ Hid (Below w2.heap.size w2 wq)) (fun v _ => 2001 - (intOf v).toNat)
  case atStart => exact ⟨0, [s0], ms1, D1, [], n1, cs1, l1, vL1, vS1, vK1, _, [], rfl, by simp, by simp, HM5, RunD.zero, HB5⟩
  case round =>
    clear HM5 HB5
    obtain ⟨k, SS, ms, D, R, nn, cs, l, vL, vS, vK, vN, gs, rfl, hk, hS, HM, HRn, HB⟩ := hrel
    obtain ⟨aS1, cS1, rfl⟩ := ownsRow_slice HM.out.t.os
    have d0 : wr.cell? ⟨bm, 259, none⟩ = some (.slice aS1 SS.length cS1) := (HM.out.a.r.other 259 (by decide)).trans HM.out.t.cS
    have hRk := HRn.out.len
    have hst4 : St wr 30 b4 (zC 30) := H2.out.1.below HB.out H2.out.1.lt
    by_cases hlt : k < SS.length
    · have hk63 : k < 3000 := by omega
      have HLd := Lib.hid (lead_any w2.heap.size bm gI bM m nm.length (rl (KOf L) 256).length bn gM cM gF cF gS cS nn k aF aS cRF cRS (rpO (KOf L)) (KOf L) L' (fun i => mf (nm.getD i 0)) wr (HNt.out.1.below HB.out) (HNt.out.2.1.below HB.out) (HNt.out.2.2.1.below HB.out) HNt.out.2.2.2.2.2.2.1 hL30 (fun i _ => HH.out.2.1 _) (by rw [← rl_len]) hlC hM61 HNt.out.2.2.2.2.2.2.2.2.2 SS ms D R cs l vL _ vK vN gs HM.out hlt (by omega) (by omega))
      have HLt := Lib.hid hlt
      obtain ⟨q, hq⟩ : ∃ q, SS.length = q := ⟨_, rfl⟩
      have i1 : (k : Int) < (q : Int) := by omega
      rw [hq] at d0
      have HQ := Lib.hid hq
      clear hq hk
      go_wp2_with fail
      refine HLd.out.mono ?_
      rintro e w6 ⟨row, SS2, ms2, D2, n2, cs2, l2, vL2, vS2, vK2, vN2, gs2, rfl, hM6, hRow, hB6⟩
      obtain ⟨aS2, cS2, rfl⟩ := ownsRow_slice hM6.t.os
      have d1 : w6.cell? ⟨bm, 259, none⟩ = some (.slice aS2 SS2.length cS2) := (hM6.a.r.other 259 (by decide)).trans hM6.t.cS
      have HRn2 : Hid (RunD nm.length (rl (KOf L) 256).length (TTo L' nm.length (rpO (KOf L))) [s0] (k + 1) (R ++ [row]) SS2) := RunD.succ HRn.out HLt.out hRow
      have HM6 := Lib.hid hM6
      have HB6 := Lib.hid (HB.out.trans hB6)
      have hst6 : St w6 30 b4 (zC 30) := H2.out.1.below HB6.out H2.out.1.lt
      have HP2 := Lib.hid hRow.pre.length_le
      obtain ⟨q2, hq2⟩ : ∃ q2, SS2.length = q2 := ⟨_, rfl⟩
      have HQ2 := Lib.hid hq2
      rw [hq2] at d1
      clear hM6 hRow hB6 hq2 d0 hst4 HLd
      by_cases hbig : 2000 < q2
      · have i2 : (2000 : Int) < (q2 : Int) := by omega
        have HF : Hid (DetP L F mf w (.returned (.tuple #[.agg (zC 30), .int .i64 6])) (w6.setRow b4 (zC 30))) := by
          refine ⟨zC 30, 6, nm, L', f0, s0, k + 1, R ++ [row], SS2, rfl, below_setRow9 (H2.out.2.trans (HB6.out.mono hlo9)) (by have := H0.out.2.2.2; omega) _, ⟨HNt.out.2.2.2.2.1, HNt.out.2.2.2.2.2.1, HNt.out.2.2.2.2.2.2.1, HNt.out.2.2.2.2.2.2.2.1, HNt.out.2.2.2.2.2.2.2.2.1, HS0.out, HRn2.out⟩, zDfa_size, zDfa_one, Or.inl ⟨rfl, by rw [HQ2.out]; exact hbig, rfl⟩⟩
        have HSt := Lib.hid hst6
        clear hst6
        go_wp2_with (first | (refine wpList_build9 rfl 30 _ rfl #[] ?hp (.agg (zC 30)) ?hb ?_) | (refine wpList_store_var9 rfl 30 _ _ rfl b4 30 (zC 30) (zC 30) rfl rfl HSt.out rfl (by rw [info_dfa9, zDfa_size]) zDfa_one ?_))
        case hb => exact zero_built9 _
        refine bodyPost_ret (results_cell9 rfl _ _ b4 (zC 30) _ rfl HSt.out.setRow.part Try.underlying30 rfl (by rw [info_dfa9, zDfa_size])) rfl ?_
        exact HF.out
      · have i2 : ¬ ((2000 : Int) < (q2 : Int)) := by omega
        clear hst6
        go_wp2_with fail
        go_roundw
        case rel => exact ⟨k + 1, SS2, ms2, D2, R ++ [row], n2, cs2, l2, vL2, _, vK2, vN2, gs2, by go_num, by have := HP2.out; have := HLt.out; omega, by have := HQ2.out; omega, HM6, HRn2, HB6⟩
        case measure => simp [intOf]; have := HLt.out; omega
    · have hkq : k = SS.length := by omega
      obtain ⟨cD, hcs, hone, hcell, hml, hD⟩ := HM.out.dfa (fun r hr => HRn.out.rowlen r hr)
      have HF : Hid (DetP L F mf w (.returned (.tuple #[.agg cD, .int .i64 0])) (wr.setRow b4 cD)) := by
        refine ⟨cD, 0, nm, L', f0, s0, k, R, SS, rfl, below_setRow9 (H2.out.2.trans (HB.out.mono hlo9)) (by have := H0.out.2.2.2; omega) _, ⟨HNt.out.2.2.2.2.1, HNt.out.2.2.2.2.2.1, HNt.out.2.2.2.2.2.2.1, HNt.out.2.2.2.2.2.2.2.1, HNt.out.2.2.2.2.2.2.2.2.1, HS0.out, HRn.out⟩, hcs, hone, Or.inr ⟨rfl, hkq.symm, by omega, ms, hD.setRow hst4, by omega, HM.out.inv.mks⟩⟩
      have HSt := Lib.hid hst4
      have HX := Lib.hid (And.intro hcs (And.intro hone hcell))
      have i1 : ¬ ((k : Int) < (SS.length : Int)) := by omega
      clear hst4 hD hml hcs hone hcell hkq hlt hk
      go_wp2_with (first | (refine wpList_load_part rfl 30 _ rfl ⟨bm, 1, none⟩ rfl cD _ HX.out.2.2 Try.underlying30 rfl (by rw [info_dfa9, HX.out.1]) ?_) | (refine wpList_store_var9 rfl 30 _ _ rfl b4 30 (zC 30) cD rfl rfl HSt.out (by rw [zDfa_size, HX.out.1]) (by rw [info_dfa9, HX.out.1]) HX.out.2.1 ?_))
      refine bodyPost_ret (results_cell9 rfl _ _ b4 cD _ rfl HSt.out.setRow.part Try.underlying30 rfl (by rw [info_dfa9, HX.out.1])) rfl ?_
      exact HF.out
end Go.Proofs.Ytlnndkilaklifaa
