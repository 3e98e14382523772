/-
  What is proved: for every automaton, every text and every pair of bytes the law DfaKeeps returns true and leaves its arguments as they were. No condition.
-/
import Derived.Test.YtlnndkilaklifaaZTLaw
namespace Go.Proofs.Ytlnndkilaklifaa
open Go.RowKit Go.Maps Go.WideElems Go.ChangeMaps Go.MapKept
set_option linter.unusedVariables false
set_option linter.unusedSimpArgs false

/-! ### What is trimmed. -/
theorem DfF.trim_right {D D1 : Dd} {C : Nat} (hR : DR D C) (h : DfF D C D.n (trF D) D.q D1) : DR D1 C := by
  obtain ⟨e1, e2, e3, e4, e5, e6⟩ := h
  refine ⟨by rw [e1]; exact hR.c, by rw [e2]; exact hR.n1, by rw [e2]; exact hR.n2, by rw [e3, e2], fun c hc => by rw [e1]; exact hR.gap c hc, fun i hi => e4 i (by omega), fun i hi => by rw [e6 i (by omega)]; exact hR.q i (by omega), fun i c hi hc => ?_⟩
  rw [e5 i (by omega) c hc, e2]
  have := hR.nx i c (by omega) hc
  unfold trF
  split <;> omega
theorem Alv.of {D : Dd} {x y : Nat} (he : Ed D x y) (h : Alv D y) : Alv D x := by
  obtain ⟨k, h1, h2⟩ := h
  exact ⟨k, Rch.head (B := fun _ => True) he h1, h2⟩
theorem stepF_dead (D : Dd) (b : Nat) : stepF D (-1) b = -1 := by unfold stepF; rw [if_neg (by omega)]
theorem DfF.trim_run {D D1 : Dd} {C : Nat} (hR : DR D C) (h : DfF D C D.n (trF D) D.q D1) (z : Nat → Nat) (hz : ∀ j, z j < 256) (m : Nat) :
    runF D1 0 z m = runF D 0 z m ∨ (runF D1 0 z m = -1 ∧ 0 ≤ runF D 0 z m ∧ ¬ Alv D (runF D 0 z m).toNat) := by
  obtain ⟨e1, e2, e3, e4, e5, e6⟩ := h
  induction m with
  | zero => exact Or.inl rfl
  | succ m ih =>
    show stepF D1 (runF D1 0 z m) (z m) = stepF D (runF D 0 z m) (z m) ∨ (stepF D1 (runF D1 0 z m) (z m) = -1 ∧ 0 ≤ stepF D (runF D 0 z m) (z m) ∧ ¬ Alv D (stepF D (runF D 0 z m) (z m)).toNat)
    have hc := hR.c.1 (z m) (hz m)
    generalize runF D 0 z m = r at ih ⊢
    generalize runF D1 0 z m = r1 at ih ⊢
    rcases ih with rfl | ⟨rfl, h0, ha⟩
    · by_cases hs : 0 ≤ r1 ∧ r1 < (D.n : Int)
      · have h1 : stepF D1 r1 (z m) = trF D r1.toNat (D.K (z m)) := by
          unfold stepF
          rw [e2, if_pos hs, e1, e5 _ (by omega) _ hc]
        have h2 : stepF D r1 (z m) = D.nx r1.toNat (D.K (z m)) := by unfold stepF; rw [if_pos hs]
        rw [h1, h2]
        unfold trF
        split
        · rename_i h3
          exact Or.inr ⟨rfl, h3.1, h3.2⟩
        · exact Or.inl rfl
      · left
        unfold stepF
        rw [e2, if_neg hs, if_neg hs]
    · rw [stepF_dead]
      by_cases hs : 0 ≤ r ∧ r < (D.n : Int)
      · have h2 : stepF D r (z m) = D.nx r.toNat (D.K (z m)) := by unfold stepF; rw [if_pos hs]
        rw [h2]
        have hb := hR.nx r.toNat (D.K (z m)) (by omega) hc
        by_cases h3 : D.nx r.toNat (D.K (z m)) = -1
        · exact Or.inl h3.symm
        · refine Or.inr ⟨rfl, by omega, fun h4 => ha (Alv.of ⟨by omega, D.K (z m), ?_, ?_⟩ h4)⟩
          · rw [hR.len _ (by omega)]; exact hc
          · omega
      · left
        unfold stepF
        rw [if_neg hs]
theorem DfF.trim_mark {D D1 : Dd} {C : Nat} (hR : DR D C) (h : DfF D C D.n (trF D) D.q D1) (z : Nat → Nat) (hz : ∀ j, z j < 256) (m : Nat) :
    markF D1 (runF D1 0 z m) = markF D (runF D 0 z m) := by
  have hr := h.trim_run hR z hz m
  obtain ⟨e1, e2, e3, e4, e5, e6⟩ := h
  generalize runF D 0 z m = r at hr ⊢
  generalize runF D1 0 z m = r1 at hr ⊢
  rcases hr with rfl | ⟨rfl, h0, ha⟩
  · unfold markF
    rw [e2]
    split
    · rename_i hs
      exact e6 _ (by omega)
    · rfl
  · have h1 : markF D1 (-1) = -1 := by unfold markF; rw [if_neg (by omega)]
    rw [h1]
    unfold markF
    split
    · rename_i hs
      have hq := hR.q r.toNat (by omega)
      have : ¬ 0 ≤ D.q r.toNat := fun h5 => ha ⟨r.toNat, Rch.base rfl, h5⟩
      omega
    · rfl

/-! ### What is put in order. -/
theorem ord_step {D : Dd} {C k : Nat} (hR : DR D C) (hlk : (wkN (rowsF D.len D.nx) [0] k).length = k) (i c : Nat) (hi : i < k) (hc : c < C) :
    (wkN (rowsF D.len D.nx) [0] k).getD i 0 < D.n ∧ ((D.nx ((wkN (rowsF D.len D.nx) [0] k).getD i 0) c = -1 ∧ ordF D (wkN (rowsF D.len D.nx) [0] k) i c = -1) ∨
      ∃ j, j < k ∧ ordF D (wkN (rowsF D.len D.nx) [0] k) i c = ((j : Nat) : Int) ∧ D.nx ((wkN (rowsF D.len D.nx) [0] k).getD i 0) c = (((wkN (rowsF D.len D.nx) [0] k).getD j 0 : Nat) : Int)) := by
  have hcl := wkN_cl (rowsF D.len D.nx) [0] k i hi
  have hmem := wk_len hR k
  generalize wkN (rowsF D.len D.nx) [0] k = l at hlk hcl hmem ⊢
  have hi2 : i < l.length := by omega
  have hx : l.getD i 0 = l[i] := by simp [List.getD_eq_getElem?_getD, hi2]
  have hxn : l[i] < D.n := hmem _ (List.getElem_mem hi2)
  unfold ordF plF
  rw [hx]
  refine ⟨hxn, ?_⟩
  have hb := hR.nx l[i] c hxn hc
  by_cases h1 : D.nx l[i] c = -1
  · exact Or.inl ⟨h1, by rw [if_pos h1]⟩
  · rw [if_neg h1]
    right
    have hm : (D.nx l[i] c).toNat ∈ l := by
      refine hcl hi2 _ ?_
      unfold WE rowsF
      exact List.mem_map.2 ⟨c, by rw [List.mem_range, hR.len _ hxn]; exact hc, by omega⟩
    have hlt := List.idxOf_lt_length_iff.2 hm
    refine ⟨l.idxOf (D.nx l[i] c).toNat, by omega, rfl, ?_⟩
    have h2 : l.getD (l.idxOf (D.nx l[i] c).toNat) 0 = (D.nx l[i] c).toNat := by
      rw [List.getD_eq_getElem?_getD, List.getElem?_eq_getElem hlt, List.getElem_idxOf]
      rfl
    rw [h2]
    omega
theorem wk_first {D : Dd} {k : Nat} (hlk : (wkN (rowsF D.len D.nx) [0] k).length = k) : 1 ≤ k ∧ (wkN (rowsF D.len D.nx) [0] k).getD 0 0 = 0 := by
  obtain ⟨t, ht⟩ := wkN_base (rowsF D.len D.nx) [0] k
  generalize wkN (rowsF D.len D.nx) [0] k = l at hlk ht ⊢
  subst ht
  refine ⟨?_, rfl⟩
  simp at hlk
  omega
theorem DfF.ord_right {D D1 : Dd} {C k : Nat} (hR : DR D C) (hlk : (wkN (rowsF D.len D.nx) [0] k).length = k) (hkn : k ≤ D.n) (h : DfF D C k (ordF D (wkN (rowsF D.len D.nx) [0] k)) (fun i => D.q ((wkN (rowsF D.len D.nx) [0] k).getD i 0)) D1) : DR D1 C := by
  obtain ⟨e1, e2, e3, e4, e5, e6⟩ := h
  have h1 := (wk_first hlk).1
  have hn2 := hR.n2
  have hC0 : 0 < C := by have := hR.c.1 0 (by omega); omega
  refine ⟨by rw [e1]; exact hR.c, by omega, by omega, by rw [e3, e2], fun c hc => by rw [e1]; exact hR.gap c hc, fun i hi => e4 i (by omega), fun i hi => ?_, fun i c hi hc => ?_⟩
  · rw [e6 i (by omega)]
    exact hR.q _ (ord_step hR hlk i 0 (by omega) hC0).1
  · rw [e5 i (by omega) c hc, e2]
    rcases (ord_step hR hlk i c (by omega) hc).2 with ⟨_, h2⟩ | ⟨j, hj, h2, _⟩
    · rw [h2]; omega
    · rw [h2]; omega
theorem DfF.ord_run {D D1 : Dd} {C k : Nat} (hR : DR D C) (hlk : (wkN (rowsF D.len D.nx) [0] k).length = k) (h : DfF D C k (ordF D (wkN (rowsF D.len D.nx) [0] k)) (fun i => D.q ((wkN (rowsF D.len D.nx) [0] k).getD i 0)) D1) (z : Nat → Nat) (hz : ∀ j, z j < 256) (m : Nat) :
    (runF D1 0 z m = -1 ∧ runF D 0 z m = -1) ∨ ∃ i, i < k ∧ runF D1 0 z m = ((i : Nat) : Int) ∧ runF D 0 z m = (((wkN (rowsF D.len D.nx) [0] k).getD i 0 : Nat) : Int) := by
  obtain ⟨e1, e2, e3, e4, e5, e6⟩ := h
  have h1 := wk_first hlk
  induction m with
  | zero => exact Or.inr ⟨0, h1.1, rfl, by rw [h1.2]; rfl⟩
  | succ m ih =>
    show (stepF D1 (runF D1 0 z m) (z m) = -1 ∧ stepF D (runF D 0 z m) (z m) = -1) ∨ ∃ i, i < k ∧ stepF D1 (runF D1 0 z m) (z m) = ((i : Nat) : Int) ∧ stepF D (runF D 0 z m) (z m) = (((wkN (rowsF D.len D.nx) [0] k).getD i 0 : Nat) : Int)
    have hc := hR.c.1 (z m) (hz m)
    generalize runF D 0 z m = r at ih ⊢
    generalize runF D1 0 z m = r1 at ih ⊢
    rcases ih with ⟨rfl, rfl⟩ | ⟨i, hi, rfl, rfl⟩
    · exact Or.inl ⟨stepF_dead _ _, stepF_dead _ _⟩
    · obtain ⟨hxn, hs⟩ := ord_step hR hlk i (D.K (z m)) hi hc
      have h2 : stepF D1 ((i : Nat) : Int) (z m) = ordF D (wkN (rowsF D.len D.nx) [0] k) i (D.K (z m)) := by
        unfold stepF
        rw [if_pos (by omega), e1, Int.toNat_natCast, e5 i hi _ hc]
      have h3 : stepF D (((wkN (rowsF D.len D.nx) [0] k).getD i 0 : Nat) : Int) (z m) = D.nx ((wkN (rowsF D.len D.nx) [0] k).getD i 0) (D.K (z m)) := by
        unfold stepF
        rw [if_pos (by omega), Int.toNat_natCast]
      rw [h2, h3]
      rcases hs with ⟨h4, h5⟩ | ⟨j, hj, h4, h5⟩
      · exact Or.inl ⟨h5, h4⟩
      · exact Or.inr ⟨j, hj, h4, h5⟩
theorem DfF.ord_mark {D D1 : Dd} {C k : Nat} (hR : DR D C) (hlk : (wkN (rowsF D.len D.nx) [0] k).length = k) (h : DfF D C k (ordF D (wkN (rowsF D.len D.nx) [0] k)) (fun i => D.q ((wkN (rowsF D.len D.nx) [0] k).getD i 0)) D1) (z : Nat → Nat) (hz : ∀ j, z j < 256) (m : Nat) :
    markF D1 (runF D1 0 z m) = markF D (runF D 0 z m) := by
  have hr := h.ord_run hR hlk z hz m
  obtain ⟨e1, e2, e3, e4, e5, e6⟩ := h
  have hC0 : 0 < C := by have := hR.c.1 0 (by omega); omega
  generalize runF D 0 z m = r at hr ⊢
  generalize runF D1 0 z m = r1 at hr ⊢
  rcases hr with ⟨rfl, rfl⟩ | ⟨i, hi, rfl, rfl⟩
  · unfold markF
    rw [if_neg (by omega), if_neg (by omega)]
  · have hxn := (ord_step hR hlk i 0 hi hC0).1
    unfold markF
    rw [if_pos (by omega), if_pos (by omega), Int.toNat_natCast, Int.toNat_natCast, e6 i hi]

/-! ### A mark is another one. -/
theorem DM.put {W : World} {D : Dd} (h : DM W D) {g off i : Nat} (hg : D.aM = some ⟨g, off, none⟩) (hi : i < D.m) (v : Int) :
    ∃ nx' : Nat → Nat → Int, DM (W.setCell ⟨g, off + i, none⟩ (.int .i64 v)) { D with nx := nx', q := fun j => if j = i then v else D.q j } := by
  classical
  obtain ⟨gM, oM, eM, hgM, cM⟩ := h.rM (by omega)
  obtain ⟨rfl, rfl⟩ : gM = g ∧ oM = off := by rw [hg] at eM; injection eM with e; injection e with e1 e2; exact ⟨e1.symm, e2.symm⟩
  have hsame : (W.setCell ⟨gM, oM + i, none⟩ (.int .i64 v)).cell? ⟨gM, oM + i, none⟩ = some (.int .i64 v) := World.cell?_setCell_same W _ _ (cM i hi)
  have hsz : (W.setCell ⟨gM, oM + i, none⟩ (.int .i64 v)).heap.size = W.heap.size := by simp [World.setCell]
  refine ⟨fun a c => if ∃ g' o', D.A a = some ⟨g', o', none⟩ ∧ (⟨g', o' + c, none⟩ : Addr) = ⟨gM, oM + i, none⟩ then v else D.nx a c, h.sz, h.one, h.cl, h.kl, h.fN, h.fM, fun h0 => ?_, fun h0 => ?_⟩
  · obtain ⟨gN, oN, eN, hgN, cN⟩ := h.rN h0
    refine ⟨gN, oN, eN, by rw [hsz]; exact hgN, fun a ha => ⟨?_, fun h1 => ?_⟩⟩
    · rw [World.cell?_setCell_other]
      · exact (cN a ha).1
      · intro e
        have h2 := cM i hi
        rw [e, (cN a ha).1] at h2
        cases h2
    · obtain ⟨gA, oA, eA, hgA, cA⟩ := (cN a ha).2 h1
      refine ⟨gA, oA, eA, by rw [hsz]; exact hgA, fun c hc => ?_⟩
      dsimp only
      by_cases e : (⟨gA, oA + c, none⟩ : Addr) = ⟨gM, oM + i, none⟩
      · rw [if_pos ⟨gA, oA, eA, e⟩, e]
        exact hsame
      · rw [if_neg]
        · rw [World.cell?_setCell_other]
          · exact cA c hc
          · exact fun h3 => e h3.symm
        · rintro ⟨g', o', e1, e2⟩
          rw [eA] at e1
          injection e1 with e3
          injection e3 with e4 e5
          subst e4 e5
          exact e e2
  · refine ⟨gM, oM, eM, by rw [hsz]; exact hgM, fun j hj => ?_⟩
    dsimp only
    by_cases e : j = i
    · subst e
      rw [if_pos rfl]
      exact hsame
    · rw [if_neg e, World.cell?_setCell_other]
      · exact cM j hj
      · intro h3
        injection h3 with h4 h5
        omega
end Go.Proofs.Ytlnndkilaklifaa

namespace Go.Proofs.Ytlnndkilaklifaa
open Go.RowKit Go.Maps Go.WideElems Go.ChangeMaps Go.MapKept
set_option linter.unusedVariables false
set_option linter.unusedSimpArgs false

theorem DBx.setRow {w : World} {b : Nat} {D : Dd} {cs : Array Value} (hs : St w 30 b cs) (h : DM (w.setRow b D.cD) D) : DBx (w.setRow b D.cD) b D := ⟨hs.setRow, h⟩

/-- One mark is another one: unlike, both ways. -/
def Dif (D : Dd) (C i : Nat) (D6 : Dd) : Prop := D6.K = D.K ∧ D6.n = D.n ∧ D6.m = D.n ∧ (∀ j, j < D.n → D6.len j = C) ∧ D6.q i = D.q i + 1
theorem Dif.one {D D6 D7 : Dd} {C i : Nat} {w : World} (h6 : Dif D C i D6) (hi : i < D.n) (h7 : DfF D C D.n (trF D) D.q D7) (hn : D.n ≤ 32768) (hC : C ≤ 256) (d6 : DM w D6) (d7 : DM w D7) :
    Calls Try.prog 27 #[.agg D6.cD, .agg D7.cD] w fun e w' => e = .returned (.bool false) ∧ Below w.heap.size w w' := by
  obtain ⟨k1, n1, m1, l1, q1⟩ := h6
  obtain ⟨k2, n2, m2, l2, _, q2⟩ := h7
  refine (same_any D6 D7 (fun j _ => by rw [k1, k2]) (by omega) (by omega) (by omega) (by omega) (fun j hj => by rw [l1 j (by omega)]; omega) (fun j hj => by rw [l2 j (by omega)]; omega) w d6 d7).mono ?_
  rintro e w' ⟨bo, rfl, hbo, hb⟩
  refine ⟨?_, hb⟩
  rcases bo with _ | _
  · rfl
  · have h1 := (hbo.1 rfl).2.2 i (by omega)
    have h2 := q2 i hi
    omega
theorem Dif.two {D D6 D7 : Dd} {C i : Nat} {w : World} (h6 : Dif D C i D6) (hi : i < D.n) (h7 : DfF D C D.n (trF D) D.q D7) (hn : D.n ≤ 32768) (hC : C ≤ 256) (d6 : DM w D6) (d7 : DM w D7) :
    Calls Try.prog 27 #[.agg D7.cD, .agg D6.cD] w fun e w' => e = .returned (.bool false) ∧ Below w.heap.size w w' := by
  obtain ⟨k1, n1, m1, l1, q1⟩ := h6
  obtain ⟨k2, n2, m2, l2, _, q2⟩ := h7
  refine (same_any D7 D6 (fun j _ => by rw [k1, k2]) (by omega) (by omega) (by omega) (by omega) (fun j hj => by rw [l2 j (by omega)]; omega) (fun j hj => by rw [l1 j (by omega)]; omega) w d7 d6).mono ?_
  rintro e w' ⟨bo, rfl, hbo, hb⟩
  refine ⟨?_, hb⟩
  rcases bo with _ | _
  · rfl
  · have h1 := (hbo.1 rfl).2.2 i (by omega)
    have h2 := q2 i hi
    omega

set_option maxHeartbeats 4000000 in
set_option maxRecDepth 100000 in
theorem dfaKeeps_any (D : Dd) (s : ByteArray) (x0 : Nat) (x1 : Int) (hx0 : x0 < 256) (hn : D.n ≤ 9223372036854775807) (hm : D.m ≤ 9223372036854775807) (hl : ∀ i, i < D.n → D.len i ≤ 9223372036854775807) (w : World) (hD : DM w D) :
    Calls Try.prog 7 #[.agg D.cD, .string s, .agg #[.int .u8 ((x0 : Nat) : Int), .int .u8 x1]] w fun e w' => e = .returned (.bool true) ∧ Below w.heap.size w w' := by
  have k0 := al w (.cells D.cD 30)
  have k1 := al (w.alloc (.cells D.cD 30)) (.cells #[.int .u8 ((x0 : Nat) : Int), .int .u8 x1] 60)
  have HB : Hid (DBx ((w.alloc (.cells D.cD 30)).alloc (.cells #[.int .u8 ((x0 : Nat) : Int), .int .u8 x1] 60)) w.heap.size D ∧ St ((w.alloc (.cells D.cD 30)).alloc (.cells #[.int .u8 ((x0 : Nat) : Int), .int .u8 x1] 60)) 60 (w.heap.size + 1) #[.int .u8 ((x0 : Nat) : Int), .int .u8 x1] ∧ Below w.heap.size w ((w.alloc (.cells D.cD 30)).alloc (.cells #[.int .u8 ((x0 : Nat) : Int), .int .u8 x1] 60))) := by
    refine ⟨(DBx.new hD).keep k1, ?_, k0.trans (k1.mono k0.size)⟩
    have := St.new (w.alloc (.cells D.cD 30)) 60 #[.int .u8 ((x0 : Nat) : Int), .int .u8 x1]
    simpa using this
  have HSm := Lib.hid (fun (W : World) (h : DM W D) => small_any D hn hm hl W h)
  clear hD hn hm hl k0 k1
  go_enter Try.func7, Try.ntmps7
  go_upto_region 1 with fail
  generalize (w.alloc (.cells D.cD 30)).alloc (.cells #[.int .u8 ((x0 : Nat) : Int), .int .u8 x1] 60) = W0 at HB ⊢
  obtain ⟨b1, hb1⟩ : ∃ b1, w.heap.size + 1 = b1 := ⟨_, rfl⟩
  obtain ⟨b0, hb0⟩ : ∃ b0, w.heap.size = b0 := ⟨_, rfl⟩
  have Hb0 := Lib.hid hb0
  rw [hb1, hb0] at HB
  rw [hb1, hb0]
  clear hb0 hb1
  have hW0 : Hid (b0 ≤ W0.heap.size) := by have := HB.out.2.2.size; have := Hb0.out; show _ ≤ _; omega
  have HAw := Lib.hid (awake08_any W0)
  go_wp2_with fail
  refine HAw.out.mono ?_
  rintro e w1 ⟨rfl, v1⟩
  have H1 : Hid (DBx w1 b0 D ∧ St w1 60 b1 #[.int .u8 ((x0 : Nat) : Int), .int .u8 x1] ∧ Below b0 w w1 ∧ b0 ≤ w1.heap.size) := ⟨HB.out.1.keep v1, HB.out.2.1.keep v1, HB.out.2.2.trans (v1.mono hW0.out), Nat.le_trans hW0.out v1.size⟩
  clear v1 HAw
  have HSm1 := Lib.hid (HSm.out w1 H1.out.1.dm)
  clear HSm
  go_wp2_with (refine wpList_load_any9 (by rfl) 30 _ rfl ⟨b0, 0, none⟩ rfl D.cD _ H1.out.1.st.part Try.underlying30 rfl H1.out.1.dm.info ?_)
  refine HSm1.out.mono ?_
  rintro e w2 ⟨bo, rfl, hbo, v1⟩
  have H2 : Hid (DBx w2 b0 D ∧ St w2 60 b1 #[.int .u8 ((x0 : Nat) : Int), .int .u8 x1] ∧ Below b0 w w2 ∧ b0 ≤ w2.heap.size) := ⟨H1.out.1.keep v1, H1.out.2.1.keep v1, H1.out.2.2.1.trans (v1.mono H1.out.2.2.2), Nat.le_trans H1.out.2.2.2 v1.size⟩
  clear v1 HSm1
  rcases bo with _ | _
  · clear hbo
    go_wp2_with fail
    go_ret
    exact ⟨rfl, by rw [Hb0.out]; exact H2.out.2.2.1⟩
  obtain ⟨s1, s2, s3⟩ := hbo rfl
  have HRt := Lib.hid (rright8_any D w2 H2.out.1.dm s1 s2 s3)
  clear hbo s1 s2 s3
  obtain ⟨m, hsm⟩ : ∃ m, s.size = m := ⟨_, rfl⟩
  by_cases h30 : 30 < m
  · go_wp2_with (refine wpList_load_any9 (by rfl) 30 _ rfl ⟨b0, 0, none⟩ rfl D.cD _ H2.out.1.st.part Try.underlying30 rfl H2.out.1.dm.info ?_)
    refine HRt.out.mono ?_
    rintro e w3 ⟨bo, rfl, hbo, v1⟩
    have HF : Hid (Below b0 w w3) := H2.out.2.2.1.trans (v1.mono H2.out.2.2.2)
    clear hbo v1 HRt
    have i1 : (30 : Int) < (m : Int) := by omega
    rcases bo with _ | _
    · go_wp2_with fail
      go_ret
      exact ⟨rfl, by rw [Hb0.out]; exact HF.out⟩
    · go_wp2_with fail
      go_ret
      exact ⟨rfl, by rw [Hb0.out]; exact HF.out⟩
  have i1 : ¬ ((30 : Int) < (m : Int)) := by omega
  go_wp2_with (refine wpList_load_any9 (by rfl) 30 _ rfl ⟨b0, 0, none⟩ rfl D.cD _ H2.out.1.st.part Try.underlying30 rfl H2.out.1.dm.info ?_)
  refine HRt.out.mono ?_
  rintro e w3 ⟨bo, rfl, hbo, v1⟩
  have H3 : Hid (DBx w3 b0 D ∧ St w3 60 b1 #[.int .u8 ((x0 : Nat) : Int), .int .u8 x1] ∧ Below b0 w w3 ∧ b0 ≤ w3.heap.size) := ⟨H2.out.1.keep v1, H2.out.2.1.keep v1, H2.out.2.2.1.trans (v1.mono H2.out.2.2.2), Nat.le_trans H2.out.2.2.2 v1.size⟩
  clear v1 HRt
  rcases bo with _ | _
  · clear hbo
    go_wp2_with fail
    go_ret
    exact ⟨rfl, by rw [Hb0.out]; exact H3.out.2.2.1⟩
  obtain ⟨C, hR⟩ := hbo rfl
  have hn2 := hR.n2
  have hn1 := hR.n1
  have hC6 := (hR.c256 H3.out.1.dm.kl).2
  have HR := Lib.hid hR
  clear hbo hR H1 H2 HB
  obtain ⟨mv, hmv⟩ : ∃ mv, markF D (runF D 0 (zof s) m) = mv := ⟨_, rfl⟩
  have HHas : Hid (∀ (D' : Dd) (W : World), DR D' C → DM W D' → markF D' (runF D' 0 (zof s) m) = mv → Calls Try.prog 32 #[.agg D'.cD, .string s] W fun e W' => e = .returned (.int .i64 mv) ∧ Below W.heap.size W W') := fun D' W h1 h2 h3 => by
    have := dhas_any D' C h1 s m hsm (by omega) W h2
    rwa [h3] at this
  have HMv := Lib.hid hmv
  clear hmv
  have i2 : (mv != mv) = false := by simp
  -- the mark of the text
  have HC1 := Lib.hid (HHas.out D w3 HR.out H3.out.1.dm HMv.out)
  go_wp2_with (refine wpList_load_any9 (by rfl) 30 _ rfl ⟨b0, 0, none⟩ rfl D.cD _ H3.out.1.st.part Try.underlying30 rfl H3.out.1.dm.info ?_)
  refine HC1.out.mono ?_
  rintro e w4 ⟨rfl, v1⟩
  have H4 : Hid (DBx w4 b0 D ∧ St w4 60 b1 #[.int .u8 ((x0 : Nat) : Int), .int .u8 x1] ∧ Below b0 w w4 ∧ b0 ≤ w4.heap.size) := ⟨H3.out.1.keep v1, H3.out.2.1.keep v1, H3.out.2.2.1.trans (v1.mono H3.out.2.2.2), Nat.le_trans H3.out.2.2.2 v1.size⟩
  clear v1 HC1 H3
  -- trimmed, and in order
  have HC2 := Lib.hid (trim_any D C w4 H4.out.1.dm HR.out)
  go_wp2_with (refine wpList_load_any9 (by rfl) 30 _ rfl ⟨b0, 0, none⟩ rfl D.cD _ H4.out.1.st.part Try.underlying30 rfl H4.out.1.dm.info ?_)
  refine HC2.out.mono ?_
  rintro e w5 ⟨D1, rfl, d1, e1, e2, e3, e4, e5, e6, v1, _⟩
  have hF1 : DfF D C D.n (trF D) D.q D1 := ⟨e1, e2, e3, e4, e5, e6⟩
  have hR1 := hF1.trim_right HR.out
  have hM1 := hF1.trim_mark HR.out (zof s) (fun j => zof_lt s j) m
  rw [HMv.out] at hM1
  obtain ⟨k, hk, hkn⟩ := wk_ends hR1
  have H5 : Hid (DBx w5 b0 D ∧ St w5 60 b1 #[.int .u8 ((x0 : Nat) : Int), .int .u8 x1] ∧ Below b0 w w5 ∧ b0 ≤ w5.heap.size) := ⟨H4.out.1.keep v1, H4.out.2.1.keep v1, H4.out.2.2.1.trans (v1.mono H4.out.2.2.2), Nat.le_trans H4.out.2.2.2 v1.size⟩
  have HC3 := Lib.hid (order_any D1 C (wkN (rowsF D1.len D1.nx) [0] k) k rfl hk hkn w5 d1 hR1)
  have HD1 := Lib.hid (And.intro hM1 (And.intro hR1 (And.intro hk (And.intro hkn e2))))
  clear d1 e1 e2 e3 e4 e5 e6 v1 HC2 H4 hF1 hR1 hM1 hk hkn
  go_wp2_with fail
  refine HC3.out.mono ?_
  rintro e w6 ⟨D2, rfl, d1, e1, e2, e3, e4, e5, e6, v1, _⟩
  have hF2 : DfF D1 C k (ordF D1 (wkN (rowsF D1.len D1.nx) [0] k)) (fun i => D1.q ((wkN (rowsF D1.len D1.nx) [0] k).getD i 0)) D2 := ⟨e1, e2, e3, e4, e5, e6⟩
  have hR2 := hF2.ord_right HD1.out.2.1 HD1.out.2.2.1 HD1.out.2.2.2.1
  have hM2 := hF2.ord_mark HD1.out.2.1 HD1.out.2.2.1 (zof s) (fun j => zof_lt s j) m
  rw [HD1.out.1] at hM2
  have hk2 : D2.n ≤ D.n := by have := HD1.out.2.2.2; omega
  have H6 : Hid (DBx w6 b0 D ∧ St w6 60 b1 #[.int .u8 ((x0 : Nat) : Int), .int .u8 x1] ∧ Below b0 w w6 ∧ b0 ≤ w6.heap.size) := ⟨H5.out.1.keep v1, H5.out.2.1.keep v1, H5.out.2.2.1.trans (v1.mono H5.out.2.2.2), Nat.le_trans H5.out.2.2.2 v1.size⟩
  have k9 := al w6 (.cells (zC 30) 30)
  have hst : St (w6.alloc (.cells (zC 30) 30)) 30 w6.heap.size (zC 30) := St.new _ _ _
  have HSt := Lib.hid hst
  have HSz : Hid (D2.cD.size = 258 ∧ ∀ v ∈ D2.cD.toList, v.oneCell' = true) := ⟨d1.sz, d1.one⟩
  have hB7 : Below w6.heap.size w6 ((w6.alloc (.cells (zC 30) 30)).setRow w6.heap.size D2.cD) := below_setRow9 k9 (Nat.le_refl _) _
  have H7 : Hid (DBx ((w6.alloc (.cells (zC 30) 30)).setRow w6.heap.size D2.cD) b0 D ∧ St ((w6.alloc (.cells (zC 30) 30)).setRow w6.heap.size D2.cD) 60 b1 #[.int .u8 ((x0 : Nat) : Int), .int .u8 x1] ∧ Below b0 w ((w6.alloc (.cells (zC 30) 30)).setRow w6.heap.size D2.cD) ∧ b0 ≤ ((w6.alloc (.cells (zC 30) 30)).setRow w6.heap.size D2.cD).heap.size ∧ DBx ((w6.alloc (.cells (zC 30) 30)).setRow w6.heap.size D2.cD) w6.heap.size D2) :=
    ⟨H6.out.1.keep hB7, H6.out.2.1.keep hB7, H6.out.2.2.1.trans (hB7.mono H6.out.2.2.2), Nat.le_trans H6.out.2.2.2 hB7.size, DBx.setRow hst (d1.below hB7)⟩
  have HD2 := Lib.hid (And.intro hR2 hM2)
  clear d1 e1 e2 e3 e4 e5 e6 v1 HC3 H5 hF2 hR2 hM2 HD1 k9 hst hB7
  go_upto_region 7 with (first | (refine wpList_alloc9 rfl 30 rfl (zC 30) (zero_run9 _) ?_) | (refine wpList_store_var9 rfl 30 _ _ rfl w6.heap.size 30 (zC 30) D2.cD rfl rfl HSt.out (by rw [zDfa_size, HSz.out.1]) (by rw [info_dfa9, HSz.out.1]) HSz.out.2 ?_))
  generalize (w6.alloc (.cells (zC 30) 30)).setRow w6.heap.size D2.cD = w7 at H7 ⊢
  obtain ⟨b8, hb8⟩ : ∃ b8, w6.heap.size = b8 := ⟨_, rfl⟩
  rw [hb8] at H7
  rw [hb8]
  clear hb8 HSt H6 HSz
  -- .. has that mark
  have HC4 := Lib.hid (trim_any D C w7 H7.out.1.dm HR.out)
  go_wp2_with (refine wpList_load_any9 (by rfl) 30 _ rfl ⟨b0, 0, none⟩ rfl D.cD _ H7.out.1.st.part Try.underlying30 rfl H7.out.1.dm.info ?_)
  refine HC4.out.mono ?_
  rintro e w8 ⟨D3, rfl, d1, e1, e2, e3, e4, e5, e6, v1, _⟩
  have hF3 : DfF D C D.n (trF D) D.q D3 := ⟨e1, e2, e3, e4, e5, e6⟩
  have hM3 := hF3.trim_mark HR.out (zof s) (fun j => zof_lt s j) m
  rw [HMv.out] at hM3
  have H8 : Hid (DBx w8 b0 D ∧ St w8 60 b1 #[.int .u8 ((x0 : Nat) : Int), .int .u8 x1] ∧ Below b0 w w8 ∧ b0 ≤ w8.heap.size ∧ DBx w8 b8 D2) := ⟨H7.out.1.keep v1, H7.out.2.1.keep v1, H7.out.2.2.1.trans (v1.mono H7.out.2.2.2.1), Nat.le_trans H7.out.2.2.2.1 v1.size, H7.out.2.2.2.2.keep v1⟩
  have HC5 := Lib.hid (HHas.out D3 w8 (hF3.trim_right HR.out) d1 hM3)
  clear d1 e1 e2 e3 e4 e5 e6 v1 HC4 hF3 hM3 H7
  go_wp2_with fail
  refine HC5.out.mono ?_
  rintro e w9 ⟨rfl, v1⟩
  have H9 : Hid (DBx w9 b0 D ∧ St w9 60 b1 #[.int .u8 ((x0 : Nat) : Int), .int .u8 x1] ∧ Below b0 w w9 ∧ b0 ≤ w9.heap.size ∧ DBx w9 b8 D2) := ⟨H8.out.1.keep v1, H8.out.2.1.keep v1, H8.out.2.2.1.trans (v1.mono H8.out.2.2.2.1), Nat.le_trans H8.out.2.2.2.1 v1.size, H8.out.2.2.2.2.keep v1⟩
  clear v1 HC5 H8
  obtain ⟨k2, hk, hkn⟩ := wk_ends HR.out
  have HC6 := Lib.hid (order_any D C (wkN (rowsF D.len D.nx) [0] k2) k2 rfl hk hkn w9 H9.out.1.dm HR.out)
  go_wp2_with (refine wpList_load_any9 (by rfl) 30 _ rfl ⟨b0, 0, none⟩ rfl D.cD _ H9.out.1.st.part Try.underlying30 rfl H9.out.1.dm.info ?_)
  refine HC6.out.mono ?_
  rintro e w10 ⟨D4, rfl, d1, e1, e2, e3, e4, e5, e6, v1, _⟩
  have hF4 : DfF D C k2 (ordF D (wkN (rowsF D.len D.nx) [0] k2)) (fun i => D.q ((wkN (rowsF D.len D.nx) [0] k2).getD i 0)) D4 := ⟨e1, e2, e3, e4, e5, e6⟩
  have hM4 := hF4.ord_mark HR.out hk (zof s) (fun j => zof_lt s j) m
  rw [HMv.out] at hM4
  have H10 : Hid (DBx w10 b0 D ∧ St w10 60 b1 #[.int .u8 ((x0 : Nat) : Int), .int .u8 x1] ∧ Below b0 w w10 ∧ b0 ≤ w10.heap.size ∧ DBx w10 b8 D2) := ⟨H9.out.1.keep v1, H9.out.2.1.keep v1, H9.out.2.2.1.trans (v1.mono H9.out.2.2.2.1), Nat.le_trans H9.out.2.2.2.1 v1.size, H9.out.2.2.2.2.keep v1⟩
  have HC7 := Lib.hid (HHas.out D4 w10 (hF4.ord_right HR.out hk hkn) d1 hM4)
  clear d1 e1 e2 e3 e4 e5 e6 v1 HC6 hF4 hM4 H9 hk hkn
  go_wp2_with fail
  refine HC7.out.mono ?_
  rintro e w11 ⟨rfl, v1⟩
  have H11 : Hid (DBx w11 b0 D ∧ St w11 60 b1 #[.int .u8 ((x0 : Nat) : Int), .int .u8 x1] ∧ Below b0 w w11 ∧ b0 ≤ w11.heap.size ∧ DBx w11 b8 D2) := ⟨H10.out.1.keep v1, H10.out.2.1.keep v1, H10.out.2.2.1.trans (v1.mono H10.out.2.2.2.1), Nat.le_trans H10.out.2.2.2.1 v1.size, H10.out.2.2.2.2.keep v1⟩
  clear v1 HC7 H10
  have HC8 := Lib.hid (HHas.out D2 w11 HD2.out.1 H11.out.2.2.2.2.dm HD2.out.2)
  go_wp2_with (refine wpList_load_any9 (by rfl) 30 _ rfl ⟨b8, 0, none⟩ rfl D2.cD _ H11.out.2.2.2.2.st.part Try.underlying30 rfl H11.out.2.2.2.2.dm.info ?_)
  refine HC8.out.mono ?_
  rintro e w12 ⟨rfl, v1⟩
  have H12 : Hid (DBx w12 b0 D ∧ St w12 60 b1 #[.int .u8 ((x0 : Nat) : Int), .int .u8 x1] ∧ Below b0 w w12 ∧ b0 ≤ w12.heap.size ∧ DBx w12 b8 D2) := ⟨H11.out.1.keep v1, H11.out.2.1.keep v1, H11.out.2.2.1.trans (v1.mono H11.out.2.2.2.1), Nat.le_trans H11.out.2.2.2.1 v1.size, H11.out.2.2.2.2.keep v1⟩
  clear v1 HC8 H11
  have HC9 := Lib.hid (right_yes D2 C HD2.out.1 w12 H12.out.2.2.2.2.dm)
  go_wp2_with (refine wpList_load_any9 (by rfl) 30 _ rfl ⟨b8, 0, none⟩ rfl D2.cD _ H12.out.2.2.2.2.st.part Try.underlying30 rfl H12.out.2.2.2.2.dm.info ?_)
  refine HC9.out.mono ?_
  rintro e w13 ⟨rfl, v1⟩
  have H13 : Hid (DBx w13 b0 D ∧ St w13 60 b1 #[.int .u8 ((x0 : Nat) : Int), .int .u8 x1] ∧ Below b0 w w13 ∧ b0 ≤ w13.heap.size ∧ DBx w13 b8 D2) := ⟨H12.out.1.keep v1, H12.out.2.1.keep v1, H12.out.2.2.1.trans (v1.mono H12.out.2.2.2.1), Nat.le_trans H12.out.2.2.2.1 v1.size, H12.out.2.2.2.2.keep v1⟩
  clear v1 HC9 H12
  have f1 := H13.out.1.f1
  have f2 := H13.out.2.2.2.2.f1
  have i3 : ¬ ((D.n : Int) < (D2.n : Int)) := by omega
  go_upto_region 9 with fail
  clear f1 f2 i3
  -- a mark is another one
  have HC10 := Lib.hid (rtrim_any D C w13 H13.out.1.dm HR.out)
  have HK13 : Hid (∀ W', Below w13.heap.size w13 W' → DBx W' b0 D ∧ St W' 60 b1 #[.int .u8 ((x0 : Nat) : Int), .int .u8 x1] ∧ Below b0 w W') := fun W' h => ⟨H13.out.1.keep h, H13.out.2.1.keep h, H13.out.2.2.1.trans (h.mono H13.out.2.2.2.1)⟩
  have HS13 := Lib.hid H13.out.2.2.2.1
  go_wp2_with (first | (refine wpList_load_any9 (by rfl) 30 _ rfl ⟨b0, 0, none⟩ rfl D.cD _ H13.out.1.st.part Try.underlying30 rfl H13.out.1.dm.info ?_))
  refine HC10.out.mono ?_
  rintro e w14 ⟨D5, rfl, d1, e1, e2, e3, e4, e5, e6, v1, ho5⟩
  obtain ⟨gM, eM, hgb, hgl, hcM⟩ := ownsRow_read ho5 (by omega)
  have k9 := al w14 (.cells (zC 30) 30)
  have hst : St (w14.alloc (.cells (zC 30) 30)) 30 w14.heap.size (zC 30) := St.new _ _ _
  have HSt := Lib.hid hst
  have HSz : Hid (D5.cD.size = 258 ∧ ∀ v ∈ D5.cD.toList, v.oneCell' = true) := ⟨d1.sz, d1.one⟩
  have hB7 : Below w14.heap.size w14 ((w14.alloc (.cells (zC 30) 30)).setRow w14.heap.size D5.cD) := below_setRow9 k9 (Nat.le_refl _) _
  have H15 : Hid (Below w13.heap.size w13 ((w14.alloc (.cells (zC 30) 30)).setRow w14.heap.size D5.cD) ∧ DBx ((w14.alloc (.cells (zC 30) 30)).setRow w14.heap.size D5.cD) w14.heap.size D5 ∧ ((w14.alloc (.cells (zC 30) 30)).setRow w14.heap.size D5.cD).ownsRow w13.heap.size 3 1 (.slice (some ⟨gM, 0, none⟩) D.n D5.cM) D.n (ints ((List.range D.n).map D.q))) :=
    ⟨v1.trans (hB7.mono v1.size), DBx.setRow hst (d1.below hB7), by rw [eM] at ho5; exact ownsRow_keep ho5 hB7⟩
  have HG : Hid (w13.heap.size ≤ gM ∧ D5.aM = some ⟨gM, 0, none⟩ ∧ gM ≠ w14.heap.size) := ⟨hgb, eM, by omega⟩
  have HD5 := Lib.hid (show DfF D C D.n (trF D) D.q D5 from ⟨e1, e2, e3, e4, e5, e6⟩)
  have hm5 := e3
  clear d1 e1 e2 e3 e4 e5 e6 v1 ho5 HC10 H13 k9 hst hB7 hcM hgb hgl eM
  go_upto_region 10 with (first | (refine wpList_alloc9 rfl 30 rfl (zC 30) (zero_run9 _) ?_) | (refine wpList_store_var9 rfl 30 _ _ rfl w14.heap.size 30 (zC 30) D5.cD rfl rfl HSt.out (by rw [zDfa_size, HSz.out.1]) (by rw [info_dfa9, HSz.out.1]) HSz.out.2 ?_))
  generalize ((w14.alloc (.cells (zC 30) 30)).setRow w14.heap.size D5.cD) = w15 at H15 ⊢
  obtain ⟨b9, hb9⟩ : ∃ b9, w14.heap.size = b9 := ⟨_, rfl⟩
  rw [hb9] at H15 HG
  rw [hb9]
  clear hb9 HSt HSz
  have q0 : w15.cell? ⟨b1, 0, none⟩ = some (.int .u8 ((x0 : Nat) : Int)) := by rw [(HK13.out w15 H15.out.1).2.1.at_]; rfl
  have q1 : w15.cell? ⟨b9, 257, none⟩ = some (.slice (some ⟨gM, 0, none⟩) D.n D5.cM) := by have := H15.out.2.1.f2; rwa [HG.out.2.1, hm5] at this
  obtain ⟨i, hi⟩ : ∃ i, x0 % D.n = i := ⟨_, rfl⟩
  have hin : i < D.n := by rw [← hi]; exact Nat.mod_lt _ (by omega)
  have hrem : Int.tmod (x0 : Int) (D.n : Int) = (i : Int) := by rw [Int.tmod_eq_emod_of_nonneg (by omega), ← hi]; rfl
  have hk0 : ((D.n : Int) == 0) = false := by simp; omega
  have hk0' : (D.n == 0) = false := by simp; omega
  have hk1' : ¬ ((D.n : Int) = 0) := by omega
  have hk2' : ¬ (D.n = 0) := by omega
  have hrem2 : (x0 : Int) % (D.n : Int) = (i : Int) := by rw [← hi]; rfl
  have hw1 : IntKind.i64.wrap ((i : Nat) : Int) = ((i : Nat) : Int) := IntWalk.i64_in _ (by omega)
  have hw2 : IntKind.i64.wrap ((x0 : Nat) : Int) = ((x0 : Nat) : Int) := IntWalk.i64_in _ (by omega)
  have hw3 : IntKind.i64.wrap (Int.tmod (x0 : Int) (D.n : Int)) = ((i : Nat) : Int) := by rw [hrem]; exact hw1
  clear hi
  go_upto_region 11 with fail
  clear q0 hrem hk0 hk0' hk1' hk2' hrem2 hw1 hw2 hw3
  obtain ⟨gM2, eM2, _, hgl, hcM⟩ := ownsRow_read (ownsRow_keep H15.out.2.2 (Below.refl _ _).drew) (by omega)
  obtain rfl : gM = gM2 := by simpa using eM2
  have h7 : w15.drew.cell? ⟨gM, i, none⟩ = some (.int .i64 (D.q i)) := by rw [(hcM i (by omega)).1]; simp [ints, hin]
  have h8 : w15.drew.frozen? ⟨gM, i, none⟩ = false := (hcM i (by omega)).2
  have hqi := HR.out.q i hin
  have hw4 : IntKind.i64.wrap (D.q i + 1) = D.q i + 1 := IntWalk.i64_in _ (by omega)
  clear hcM eM2
  refine wp_region_held_drew (S := fun W' => W'.cell? ⟨b9, 257, none⟩ = some (.slice (some ⟨gM, 0, none⟩) D.n D5.cM)) (by kernel_rfl) q1 (fun hHeld => ?_)
  (refine wpAnyH_take (i := 0) (oi := ?_) (v := ?_) ?_ (by kernel_rfl) (by kernel_rfl) (by kernel_rfl) ?_ (Or.inl ⟨?_, ?_⟩) (by assumption) ?_; rotate_left 2; (focus ((simp only [List.getElem?_toArray, List.getElem?_cons_zero]); first | done | rfl)); (focus (exact fun _ _ _ h => h)); (focus rfl); (focus (intro wz hSw; (try dsimp only at hSw); go_simp; first | done | with_reducible rfl)); try simp only [Act.put, List.setIfInBounds_toArray, List.set_cons_zero, List.set_cons_succ])
  (refine wpAnyH_take (i := 1) (oi := ?_) (v := ?_) ?_ (by kernel_rfl) (by kernel_rfl) (by kernel_rfl) ?_ (Or.inl ⟨?_, ?_⟩) (by assumption) ?_; rotate_left 2; (focus ((simp only [List.getElem?_toArray, List.getElem?_cons_succ, List.getElem?_cons_zero]); first | done | rfl)); (focus (exact fun _ _ _ h => h)); (focus rfl); (focus (intro wz hSw; (try dsimp only at hSw); go_simp; first | done | with_reducible rfl)); try simp only [Act.put, List.setIfInBounds_toArray, List.set_cons_zero, List.set_cons_succ])
  (refine wpAnyH_take (i := 2) (oi := ?_) (v := ?_) ?_ (by kernel_rfl) (by kernel_rfl) (by kernel_rfl) ?_ (Or.inl ⟨?_, ?_⟩) (by assumption) ?_; rotate_left 2; (focus ((simp only [List.getElem?_toArray, List.getElem?_cons_succ, List.getElem?_cons_zero]); first | done | rfl)); (focus (exact fun _ _ _ h => h)); (focus rfl); (focus (intro wz hSw; (try dsimp only at hSw); go_simp; first | done | with_reducible rfl)); try simp only [Act.put, List.setIfInBounds_toArray, List.set_cons_zero, List.set_cons_succ])
  (refine wpAnyH_take (i := 3) (oi := ?_) (v := ?_) ?_ (by kernel_rfl) (by kernel_rfl) (by kernel_rfl) ?_ (Or.inl ⟨?_, ?_⟩) (by assumption) ?_; rotate_left 2; (focus ((simp only [List.getElem?_toArray, List.getElem?_cons_succ, List.getElem?_cons_zero]); first | done | rfl)); (focus (exact fun _ _ _ h => h)); (focus rfl); (focus (intro wz hSw; (try dsimp only at hSw); go_simp; first | done | with_reducible rfl)); try simp only [Act.put, List.setIfInBounds_toArray, List.set_cons_zero, List.set_cons_succ])
  (refine wpAnyH_take (i := 4) (oi := ?_) (v := ?_) ?_ (by kernel_rfl) (by kernel_rfl) (by kernel_rfl) ?_ (Or.inl ⟨?_, ?_⟩) (by assumption) ?_; rotate_left 2; (focus ((simp only [List.getElem?_toArray, List.getElem?_cons_succ, List.getElem?_cons_zero]); first | done | rfl)); (focus (exact fun _ _ _ h => h)); (focus rfl); (focus (intro wz hSw; (try dsimp only at hSw); go_simp; first | done | with_reducible rfl)); try simp only [Act.put, List.setIfInBounds_toArray, List.set_cons_zero, List.set_cons_succ])
  (refine wpAnyH_take (i := 5) (oi := ?_) (v := ?_) ?_ (by kernel_rfl) (by kernel_rfl) (by kernel_rfl) ?_ (Or.inl ⟨?_, ?_⟩) (by assumption) ?_; rotate_left 2; (focus ((simp only [List.getElem?_toArray, List.getElem?_cons_succ, List.getElem?_cons_zero]); first | done | rfl)); (focus (exact fun _ _ _ h => h)); (focus rfl); (focus (intro wz hSw; (try dsimp only at hSw); go_simp; first | done | with_reducible rfl)); try simp only [Act.put, List.setIfInBounds_toArray, List.set_cons_zero, List.set_cons_succ])
  (refine wpAnyH_take (i := 6) (oi := ?_) (v := ?_) ?_ (by kernel_rfl) (by kernel_rfl) (by kernel_rfl) ?_ (Or.inl ⟨?_, ?_⟩) (by assumption) ?_; rotate_left 2; (focus ((simp only [List.getElem?_toArray, List.getElem?_cons_succ, List.getElem?_cons_zero]); first | done | rfl)); (focus (exact fun _ _ _ h => h)); (focus rfl); (focus (intro wz hSw; (try dsimp only at hSw); go_simp; first | done | with_reducible rfl)); try simp only [Act.put, List.setIfInBounds_toArray, List.set_cons_zero, List.set_cons_succ])
  refine wpAnyH_ready (rs := [7]) (by kernel_rfl) (by simp) ?_
  refine AllReadyH.cons (o := ?_) ?_ (fun K hK => ?_) ?_
  rotate_left
  (focus ((simp only [List.getElem?_toArray, List.getElem?_cons_succ, List.getElem?_cons_zero]); first | done | rfl))
  · skip
    go_simp
    refine hK.out _ _ (hHeld) (fun hHeld => ?_)
    clear hK K
    try simp only [Act.put, List.setIfInBounds_toArray, List.set_cons_zero, List.set_cons_succ]
    (refine wpAnyH_take (i := 8) (oi := ?_) (v := ?_) ?_ (by kernel_rfl) (by kernel_rfl) (by kernel_rfl) ?_ (Or.inl ⟨?_, ?_⟩) (by assumption) ?_; rotate_left 2; (focus ((simp only [List.getElem?_toArray, List.getElem?_cons_succ, List.getElem?_cons_zero]); first | done | rfl)); (focus (exact fun _ _ _ h => h)); (focus rfl); (focus (intro wz hSw; (try dsimp only at hSw); go_simp; first | done | with_reducible rfl)); try simp only [Act.put, List.setIfInBounds_toArray, List.set_cons_zero, List.set_cons_succ])
    (refine wpAnyH_take (i := 9) (oi := ?_) (v := ?_) ?_ (by kernel_rfl) (by kernel_rfl) (by kernel_rfl) ?_ (Or.inl ⟨?_, ?_⟩) (by assumption) ?_; rotate_left 2; (focus ((simp only [List.getElem?_toArray, List.getElem?_cons_succ, List.getElem?_cons_zero]); first | done | rfl)); (focus (exact fun _ _ _ h => h)); (focus rfl); (focus (intro wz hSw; (try dsimp only at hSw); go_simp; first | done | with_reducible rfl)); try simp only [Act.put, List.setIfInBounds_toArray, List.set_cons_zero, List.set_cons_succ])
    refine wpAnyH_ready (rs := [10]) (by kernel_rfl) (by simp) ?_
    refine AllReadyH.cons (o := ?_) ?_ (fun K hK => ?_) ?_
    rotate_left
    (focus ((simp only [List.getElem?_toArray, List.getElem?_cons_succ, List.getElem?_cons_zero]); first | done | rfl))
    · skip
      go_simp
      have hne : w15.drew.cell? ⟨b9, 257, none⟩ = some (.slice (some ⟨gM, 0, none⟩) D.n D5.cM) := hHeld
      refine hK.out _ _ ((by show (w15.setCell _ _).cell? _ = _; rw [World.cell?_setCell_far _ _ _ _ (by exact HG.out.2.2)]; exact hne)) (fun hHeld => ?_)
      clear hK K
      try simp only [Act.put, List.setIfInBounds_toArray, List.set_cons_zero, List.set_cons_succ]
      clear hne
      refine wpAnyH_done (by kernel_rfl) ?_ _
      clear hHeld h7 h8 hw4
      skip
      have HX : Hid (∃ D6, DBx (w15.setCell ⟨gM, i, none⟩ (.int .i64 (D.q i + 1))).drew b9 D6 ∧ Dif D C i D6 ∧ Below w13.heap.size w13 (w15.setCell ⟨gM, i, none⟩ (.int .i64 (D.q i + 1))).drew) := by
        obtain ⟨nx', hD6⟩ := H15.out.2.1.dm.put HG.out.2.1 (i := i) (by omega) (D.q i + 1)
        rw [Nat.zero_add] at hD6
        refine ⟨{ D5 with nx := nx', q := fun j => if j = i then D.q i + 1 else D5.q j }, DBx.keep ⟨H15.out.2.1.st.far (Ne.symm HG.out.2.2) _, hD6⟩ (Below.refl _ _).drew, ?_, (H15.out.1.setCell (p := ⟨gM, i, none⟩) HG.out.1 _).drew⟩
        obtain ⟨e1, e2, e3, e4, _, _⟩ := HD5.out
        exact ⟨e1, e2, e3, e4, if_pos rfl⟩
      go_upto_region 12 with fail
      generalize (w15.setCell ⟨gM, i, none⟩ (.int .i64 (D.q i + 1))).drew = w16 at HX ⊢
      obtain ⟨D6, hD6⟩ := HX.out
      have H6 := Lib.hid hD6
      have HSo : Hid (∀ W', Below w16.heap.size w16 W' → Below w16.heap.size w16 W' ∧ DBx W' b0 D ∧ DBx W' b9 D6) := fun W' h => ⟨h, (HK13.out _ (H6.out.2.2.trans (h.mono H6.out.2.2.size))).1, H6.out.1.keep h⟩
      have HFw : Hid (∀ W', Below w16.heap.size w16 W' → Below w.heap.size w W') := fun W' h => by
        rw [Hb0.out]
        exact (HK13.out _ (H6.out.2.2.trans (h.mono H6.out.2.2.size))).2.2
      clear hD6 HX H15 q1 hqi
      refine wp_region_held_drew (S := fun W' => Below w16.heap.size w16 W' ∧ DBx W' b0 D ∧ DBx W' b9 D6) (by kernel_rfl) (HSo.out _ (Below.refl _ _).drew) (fun hHeld => ?_)
      (refine wpAnyH_take (i := 0) (oi := ?_) (v := .agg D6.cD) ?_ (by kernel_rfl) (by kernel_rfl) (by kernel_rfl) ?_ (Or.inl ⟨?_, ?_⟩) (by assumption) ?_; rotate_left; (focus ((simp only [List.getElem?_toArray, List.getElem?_cons_zero]); first | done | rfl)); (focus (exact fun _ _ _ h => h)); (focus rfl); (focus (intro wz hSw; exact exec_load_any9 (o := _) (ρ := _) wz 30 (.tmp 9) rfl ⟨b9, 0, none⟩ rfl D6.cD _ (DBx.st (And.right (And.right hSw))).part Try.underlying30 rfl (DBx.dm (And.right (And.right hSw))).info)); try simp only [Act.put, List.setIfInBounds_toArray, List.set_cons_zero, List.set_cons_succ])
      (refine wpAnyH_take (i := 1) (oi := ?_) (v := .agg D.cD) ?_ (by kernel_rfl) (by kernel_rfl) (by kernel_rfl) ?_ (Or.inl ⟨?_, ?_⟩) (by assumption) ?_; rotate_left; (focus ((simp only [List.getElem?_toArray, List.getElem?_cons_succ, List.getElem?_cons_zero]); first | done | rfl)); (focus (exact fun _ _ _ h => h)); (focus rfl); (focus (intro wz hSw; exact exec_load_any9 (o := _) (ρ := _) wz 30 (.tmp 3) rfl ⟨b0, 0, none⟩ rfl D.cD _ (DBx.st (And.left (And.right hSw))).part Try.underlying30 rfl (DBx.dm (And.left (And.right hSw))).info)); try simp only [Act.put, List.setIfInBounds_toArray, List.set_cons_zero, List.set_cons_succ])
      refine wpAnyH_ready (rs := [2]) (by kernel_rfl) (by simp) ?_
      refine AllReadyH.cons (o := ?_) ?_ (fun K hK => ?_) ?_
      rotate_left
      (focus ((simp only [List.getElem?_toArray, List.getElem?_cons_succ, List.getElem?_cons_zero]); first | done | rfl))
      · skip
        go_simp
        go_at_call 29
        refine (rtrim_any D C _ hHeld.2.1.dm HR.out).mono ?_
        rintro e w17 ⟨D7, rfl, hd, e1, e2, e3, e4, e5, e6, vv, _⟩
        have hbn : Below w16.heap.size w16 w17 := hHeld.1.trans (vv.mono hHeld.1.size)
        have HD7 := Lib.hid (And.intro hd (show DfF D C D.n (trF D) D.q D7 from ⟨e1, e2, e3, e4, e5, e6⟩))
        clear hd e1 e2 e3 e4 e5 e6 vv
        try go_wp2_with fail
        refine hK.out _ _ (HSo.out _ hbn) (fun hHeld => ?_)
        clear hK K
        try simp only [Act.put, List.setIfInBounds_toArray, List.set_cons_zero, List.set_cons_succ]
        clear hbn
        refine wpAnyH_ready (rs := [3]) (by kernel_rfl) (by simp) ?_
        refine AllReadyH.cons (o := ?_) ?_ (fun K hK => ?_) ?_
        rotate_left
        (focus ((simp only [List.getElem?_toArray, List.getElem?_cons_succ, List.getElem?_cons_zero]); first | done | rfl))
        · skip
          go_simp
          go_at_call 27
          refine (Dif.one H6.out.2.1 hin HD7.out.2 hn2 hC6 hHeld.2.2.dm HD7.out.1).mono ?_
          rintro e w18 ⟨rfl, vv⟩
          have hbn : Below w16.heap.size w16 w18 := hHeld.1.trans (vv.mono hHeld.1.size)
          clear vv HD7
          try go_wp2_with fail
          refine hK.out _ _ (HSo.out _ hbn) (fun hHeld => ?_)
          clear hK K
          try simp only [Act.put, List.setIfInBounds_toArray, List.set_cons_zero, List.set_cons_succ]
          clear hbn
          (refine wpAnyH_take (i := 4) (oi := ?_) (v := ?_) ?_ (by kernel_rfl) (by kernel_rfl) (by kernel_rfl) ?_ (Or.inl ⟨?_, ?_⟩) (by assumption) ?_; rotate_left 2; (focus ((simp only [List.getElem?_toArray, List.getElem?_cons_succ, List.getElem?_cons_zero]); first | done | rfl)); (focus (exact fun _ _ _ h => h)); (focus rfl); (focus (intro wz hSw; (try dsimp only at hSw); go_simp; first | done | with_reducible rfl)); try simp only [Act.put, List.setIfInBounds_toArray, List.set_cons_zero, List.set_cons_succ])
          (refine wpAnyH_take (i := 5) (oi := ?_) (v := ?_) ?_ (by kernel_rfl) (by kernel_rfl) (by kernel_rfl) ?_ (Or.inl ⟨?_, ?_⟩) (by assumption) ?_; rotate_left 2; (focus ((simp only [List.getElem?_toArray, List.getElem?_cons_succ, List.getElem?_cons_zero]); first | done | rfl)); (focus (exact fun _ _ _ h => h)); (focus rfl); (focus (intro wz hSw; (try dsimp only at hSw); go_simp; first | done | with_reducible rfl)); try simp only [Act.put, List.setIfInBounds_toArray, List.set_cons_zero, List.set_cons_succ])
          (refine wpAnyH_take (i := 6) (oi := ?_) (v := .agg D.cD) ?_ (by kernel_rfl) (by kernel_rfl) (by kernel_rfl) ?_ (Or.inl ⟨?_, ?_⟩) (by assumption) ?_; rotate_left; (focus ((simp only [List.getElem?_toArray, List.getElem?_cons_succ, List.getElem?_cons_zero]); first | done | rfl)); (focus (exact fun _ _ _ h => h)); (focus rfl); (focus (intro wz hSw; exact exec_load_any9 (o := _) (ρ := _) wz 30 (.tmp 3) rfl ⟨b0, 0, none⟩ rfl D.cD _ (DBx.st (And.left (And.right hSw))).part Try.underlying30 rfl (DBx.dm (And.left (And.right hSw))).info)); try simp only [Act.put, List.setIfInBounds_toArray, List.set_cons_zero, List.set_cons_succ])
          (refine wpAnyH_take (i := 8) (oi := ?_) (v := .agg D6.cD) ?_ (by kernel_rfl) (by kernel_rfl) (by kernel_rfl) ?_ (Or.inl ⟨?_, ?_⟩) (by assumption) ?_; rotate_left; (focus ((simp only [List.getElem?_toArray, List.getElem?_cons_succ, List.getElem?_cons_zero]); first | done | rfl)); (focus (exact fun _ _ _ h => h)); (focus rfl); (focus (intro wz hSw; exact exec_load_any9 (o := _) (ρ := _) wz 30 (.tmp 9) rfl ⟨b9, 0, none⟩ rfl D6.cD _ (DBx.st (And.right (And.right hSw))).part Try.underlying30 rfl (DBx.dm (And.right (And.right hSw))).info)); try simp only [Act.put, List.setIfInBounds_toArray, List.set_cons_zero, List.set_cons_succ])
          refine wpAnyH_ready (rs := [7]) (by kernel_rfl) (by simp) ?_
          refine AllReadyH.cons (o := ?_) ?_ (fun K hK => ?_) ?_
          rotate_left
          (focus ((simp only [List.getElem?_toArray, List.getElem?_cons_succ, List.getElem?_cons_zero]); first | done | rfl))
          · skip
            go_simp
            go_at_call 29
            refine (rtrim_any D C _ hHeld.2.1.dm HR.out).mono ?_
            rintro e w19 ⟨D8, rfl, hd, e1, e2, e3, e4, e5, e6, vv, _⟩
            have hbn : Below w16.heap.size w16 w19 := hHeld.1.trans (vv.mono hHeld.1.size)
            have HD8 := Lib.hid (And.intro hd (show DfF D C D.n (trF D) D.q D8 from ⟨e1, e2, e3, e4, e5, e6⟩))
            clear hd e1 e2 e3 e4 e5 e6 vv
            try go_wp2_with fail
            refine hK.out _ _ (HSo.out _ hbn) (fun hHeld => ?_)
            clear hK K
            try simp only [Act.put, List.setIfInBounds_toArray, List.set_cons_zero, List.set_cons_succ]
            clear hbn
            refine wpAnyH_ready (rs := [9]) (by kernel_rfl) (by simp) ?_
            refine AllReadyH.cons (o := ?_) ?_ (fun K hK => ?_) ?_
            rotate_left
            (focus ((simp only [List.getElem?_toArray, List.getElem?_cons_succ, List.getElem?_cons_zero]); first | done | rfl))
            · skip
              go_simp
              go_at_call 27
              refine (Dif.two H6.out.2.1 hin HD8.out.2 hn2 hC6 hHeld.2.2.dm HD8.out.1).mono ?_
              rintro e w20 ⟨rfl, vv⟩
              have hbn : Below w16.heap.size w16 w20 := hHeld.1.trans (vv.mono hHeld.1.size)
              clear vv HD8
              try go_wp2_with fail
              refine hK.out _ _ (HSo.out _ hbn) (fun hHeld => ?_)
              clear hK K
              try simp only [Act.put, List.setIfInBounds_toArray, List.set_cons_zero, List.set_cons_succ]
              clear hbn
              (refine wpAnyH_take (i := 10) (oi := ?_) (v := ?_) ?_ (by kernel_rfl) (by kernel_rfl) (by kernel_rfl) ?_ (Or.inl ⟨?_, ?_⟩) (by assumption) ?_; rotate_left 2; (focus ((simp only [List.getElem?_toArray, List.getElem?_cons_succ, List.getElem?_cons_zero]); first | done | rfl)); (focus (exact fun _ _ _ h => h)); (focus rfl); (focus (intro wz hSw; (try dsimp only at hSw); go_simp; first | done | with_reducible rfl)); try simp only [Act.put, List.setIfInBounds_toArray, List.set_cons_zero, List.set_cons_succ])
              (refine wpAnyH_take (i := 11) (oi := ?_) (v := ?_) ?_ (by kernel_rfl) (by kernel_rfl) (by kernel_rfl) ?_ (Or.inl ⟨?_, ?_⟩) (by assumption) ?_; rotate_left 2; (focus ((simp only [List.getElem?_toArray, List.getElem?_cons_succ, List.getElem?_cons_zero]); first | done | rfl)); (focus (exact fun _ _ _ h => h)); (focus rfl); (focus (intro wz hSw; (try dsimp only at hSw); go_simp; first | done | with_reducible rfl)); try simp only [Act.put, List.setIfInBounds_toArray, List.set_cons_zero, List.set_cons_succ])
              (refine wpAnyH_take (i := 12) (oi := ?_) (v := ?_) ?_ (by kernel_rfl) (by kernel_rfl) (by kernel_rfl) ?_ (Or.inl ⟨?_, ?_⟩) (by assumption) ?_; rotate_left 2; (focus ((simp only [List.getElem?_toArray, List.getElem?_cons_succ, List.getElem?_cons_zero]); first | done | rfl)); (focus (exact fun _ _ _ h => h)); (focus rfl); (focus (intro wz hSw; (try dsimp only at hSw); go_simp; first | done | with_reducible rfl)); try simp only [Act.put, List.setIfInBounds_toArray, List.set_cons_zero, List.set_cons_succ])
              refine wpAnyH_done (by kernel_rfl) ?_ _
              have HF := Lib.hid (HFw.out _ hHeld.1)
              clear hHeld
              go_wp2_with fail
              go_ret
              exact ⟨rfl, HF.out⟩
            exact AllReadyH.nil
          exact AllReadyH.nil
        exact AllReadyH.nil
      exact AllReadyH.nil
    exact AllReadyH.nil
  exact AllReadyH.nil
end Go.Proofs.Ytlnndkilaklifaa

namespace Go.Proofs.Ytlnndkilaklifaa.dfaKeeps
open Go.ChangeShapes Go.WideShapes Go.ChangeAt Go.RowKit Go.Deep
set_option linter.unusedVariables false

set_option maxRecDepth 100000 in
/-- Two bytes that came in. -/
theorem open_two_val {H : Type} {enc : TypeId × Value → H} {w : World} {base b0 : Nat} {r : Reach} {spare : Nat → Bool} {held : Bool} {v : Value} (hk : Value.okWide Try.prog w r b0 60 v)
    (h : ∃ (fuel : Nat) (x : DataW H × List MemPlace), DataW.trod enc Try.prog w base spare held fuel 60 v.cells.toList = some x) :
    ∃ (x0 : Nat) (x1 : Int), v = .agg #[.int .u8 ((x0 : Nat) : Int), .int .u8 x1] ∧ x0 < 256 := by
  obtain ⟨xs, rfl, hsz⟩ : ∃ xs : Array Value, v = .agg xs ∧ xs.size = Try.prog.cellsOf 60 := by
    simp only [Value.okWide, Try.underlying60] at hk
    obtain ⟨cs, h1, h2, _⟩ := hk
    exact ⟨cs, h1, h2⟩
  rw [show Try.prog.cellsOf 60 = 2 by kernel_rfl] at hsz
  obtain ⟨fuel, x, hf⟩ := h
  have hcs : (Value.agg xs).cells.toList = xs.toList := rfl
  rw [hcs] at hf
  obtain ⟨us, mu, _, _, _, hul, hu⟩ := DataW.trod_array Try.underlying60 hf
  have c6 : Try.prog.cellsOf 5 = 1 := by kernel_rfl
  have hsz2 : xs.toList.length = 2 := by simpa using hsz
  have u0 := hu 0 (by omega)
  have u1 := hu 1 (by omega)
  rw [c6, List.getElem?_eq_getElem (by omega), take1_drop _ _ (by omega)] at u0 u1
  obtain ⟨a, ea, _, wa⟩ := DataW.trod_int Try.underlying5 u0
  obtain ⟨b, eb, _, wb⟩ := DataW.trod_int Try.underlying5 u1
  have ea' : xs.toList[0] = .int .u8 a := by simpa using ea
  have eb' : xs.toList[1] = .int .u8 b := by simpa using eb
  have ha : 0 ≤ a ∧ a < 256 := by
    simp [Lit.wf] at wa
    have a1 : IntKind.u8.min = 0 := by decide
    have a2 : IntKind.u8.max = 255 := by decide
    rw [a1, a2] at wa
    omega
  refine ⟨a.toNat, b, ?_, by omega⟩
  congr 1
  apply Array.toList_inj.1
  rw [show ((a.toNat : Nat) : Int) = a by omega, ← ea', ← eb']
  refine List.ext_getElem (by simpa using hsz) fun n h1 h2 => ?_
  match n, h1 with
  | 0, _ => rfl
  | 1, _ => rfl
  | n + 2, h => omega

set_option maxRecDepth 100000 in
theorem lifted (os : Os) (started : os.Started) (H : Type) (enc : TypeId × Value → H) :
    ReturnsInHanded {} Try.checked os 7 .any (Rows.dfaKeepsSpec.pre6 enc Try.prog Try.f7 Rows.dfaKeepsRow.domain false) (Rows.dfaKeepsSpec.post enc Try.prog Try.f7 false true false false) := by
  refine returnsInHanded_of_change (C := Try.checked) own started (by kernel_rfl) Try.func7
    (ChangeSpec.witness6 (enc := enc) (C := Try.checked) false ⟨#[], #[.agg ((List.replicate 256 (Value.int .u8 0)) ++ [Value.slice none 0 0, Value.slice none 0 0]).toArray, .string .empty, .agg #[.int .u8 0, .int .u8 0]], []⟩ 8 (by kernel_rfl) (by kernel_rfl) (by kernel_rfl) (by kernel_rfl)) ?_
  intro W base args ds gs before hval0 hW hcnd _
  have hval : ∀ (j : Nat) t v, Try.f7.params[j]? = some t → args[j]? = some v → Value.okWide Try.prog W .any base t v := hval0
  have hW' := hW
  obtain ⟨p, q, hA0, hV, rfl, hfz, hnd⟩ := hW
  have hA : DataW.TrodAll enc Try.prog W 0 (fun _ => true) true Try.f7.params.toList args.toList ds p := hA0
  rw [Try.params7] at hA hval
  obtain ⟨v0, vs0, d0, ds0, p0, q0, hargs, rfl, rfl, h0, r0⟩ := trodAll_cons hA
  obtain ⟨v1, vs1, d1, ds1, p1, q1, rfl, rfl, rfl, h1, r1⟩ := trodAll_cons r0
  obtain ⟨v2, vs2, d2, ds2, p2, q2, rfl, rfl, rfl, h2, r2⟩ := trodAll_cons r1
  obtain ⟨rfl, rfl, rfl⟩ := trodAll_nil r2
  obtain rfl : args = #[v0, v1, v2] := by cases args; simp_all
  obtain ⟨rfl, rfl⟩ := trodVars_none hV
  have k0 := h0
  have lt0 : ∀ x ∈ p0, x.block < W.heap.size := by obtain ⟨m, hm⟩ := k0; exact DataW.trod_lt m _ _ _ hm
  have k1 := h1
  have lt1 : ∀ x ∈ p1, x.block < W.heap.size := by obtain ⟨m, hm⟩ := k1; exact DataW.trod_lt m _ _ _ hm
  have k2 := h2
  have lt2 : ∀ x ∈ p2, x.block < W.heap.size := by obtain ⟨m, hm⟩ := k2; exact DataW.trod_lt m _ _ _ hm
  obtain ⟨D, rfl, hD, hn, hm, hl⟩ := open_dfa_val (hval 0 30 v0 rfl rfl) (by obtain ⟨fuel, hf⟩ := h0; exact ⟨fuel, _, hf⟩)
  obtain ⟨s, rfl⟩ := okWide_string Try.underlying9 (hval 1 9 v1 rfl rfl)
  obtain ⟨x0, x1, rfl, hx0⟩ := open_two_val (hval 2 60 v2 rfl rfl) (by obtain ⟨fuel, hf⟩ := h2; exact ⟨fuel, _, hf⟩)
  clear hA0 hval0
  unfold maxLen at hn hm hl
  refine (dfaKeeps_any D s x0 x1 hx0 (by omega) (by omega) (fun i hi => Nat.le_trans (hl i hi) (by omega)) W hD).mono fun e W' ⟨he, bel⟩ => ?_
  subst he
  exact ⟨_, rfl, _, _, _, [], _, [], hW', trodAll_mk1 (shut_bool Try.underlying4 _), (trodAll_cons_mk (Below.trod laidOut (by kernel_rfl) (of_decide_eq_true (by kernel_rfl)) k0 bel lt0) (trodAll_cons_mk (Below.trod laidOut (by kernel_rfl) (of_decide_eq_true (by kernel_rfl)) k1 bel lt1) (trodAll_cons_mk (Below.trod laidOut (by kernel_rfl) (of_decide_eq_true (by kernel_rfl)) k2 bel lt2) trodAll_mk0))), rfl, bel.frame _, fun h => by cases h⟩

theorem over : Rows.dfaKeepsRow.holds Try.pinned (OpenSpec.ofChange Rows.dfaKeepsSpec) :=
  OpenClaim.holds_of_wide 7 Try.f7 rfl rfl rfl rfl rfl rfl rfl ⟨rfl, rfl, rfl, rfl, rfl⟩ rfl rfl rfl rfl rfl (by kernel_rfl) Try.func7 (by kernel_rfl)
    (of_decide_eq_true (by kernel_rfl)) (by unfold Func.isWrapper; first | (rw [if_pos (by decide +kernel)]; kernel_rfl) | (rw [if_neg (by decide +kernel)]; exact ⟨rfl, rfl⟩))
    (fun os started H enc _ => lifted os started H enc)

/-- The statement. -/
theorem proved : Rows.DfaKeepsSaid := over
end Go.Proofs.Ytlnndkilaklifaa.dfaKeeps
