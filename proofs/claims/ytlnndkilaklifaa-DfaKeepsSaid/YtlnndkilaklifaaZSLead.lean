import Derived.Test.YtlnndkilaklifaaZSLeadN
import Derived.Deep.RegionWith
import Derived.Deep.AppendLies
import Derived.Deep.RegionHeld3
import Derived.Deep.DeepCutAuto
namespace Go.Proofs.Ytlnndkilaklifaa
open Go.RowKit Go.Maps Go.WideElems Go.ChangeMaps Go.MapKept
set_option linter.unusedVariables false
set_option linter.unusedSimpArgs false

theorem zof_strOf (l : List Nat) (hl : ∀ x ∈ l, x < 256) (i : Nat) (h : i < l.length) : zof (strOf l) i = l[i] := by
  have hs : i < (strOf l).size := by rw [strOf_size]; exact h
  rw [← zof_at _ i hs]
  have h1 : ((strOf l).data.toList)[i]? = some ((strOf l)[i]'hs) := by
    rw [Array.getElem?_toList]
    exact Array.getElem?_eq_getElem hs
  rw [strOf_list, List.getElem?_map, List.getElem?_eq_getElem h] at h1
  simp only [Option.map_some, Option.some.injEq] at h1
  rw [← h1]
  have := hl l[i] (List.getElem_mem h)
  simp [UInt8.toNat_ofNat]
  omega
theorem zof_txt (M : Nat) (f : Nat → Bool) (i : Nat) (h : i < (M + 7) / 8) : zof (txt M f) i = by8 (upTo f M) i := by
  unfold txt
  rw [zof_strOf _ (keyL_small f M) i (by simp [keyL]; omega)]
  simp [keyL]
theorem txt_size (M : Nat) (f : Nat → Bool) : (txt M f).size = (M + 7) / 8 := by unfold txt; rw [strOf_size]; simp [keyL]
/-- What a target is. -/
def InTg (L : List En) (rp : Nat → Nat) (es : List En) (c x : Nat) : Prop := ∃ e ∈ es, e.p (rp c) = true ∧ e.t = x

/-- The answers of a row. -/
def LeadPost (B bm gI bM m M C bn : Nat) (K : Nat → Lit) (L : List En) (mk : Nat → Int) (SS : List (Nat → Bool)) (R : List (List Int)) (T : Nat → Nat → Prop) (w : World) (e : Ending) (w' : World) : Prop :=
  ∃ (row : List Int) (SS' : List (Nat → Bool)) (ms' : List Int) (D' : List ((Nat → Bool) × Nat)) (n' : Nat) (cs' : Array Value) (l' : List Nat) (vL' vS' vK' vN' : Value) (gs' : List Nat), e = .returned (.tuple #[]) ∧
    MkS B bm gI bM m M C bn K L mk SS' ms' D' (R ++ [row]) n' cs' l' vL' vS' vK' vN' gs' w' ∧ RowD M T SS C row SS' ∧ Below B w w'

set_option maxHeartbeats 2000000 in
set_option maxRecDepth 100000 in
theorem lead_any (B bm gI bM m M C bn gM cM gF cF gS cS n fr : Nat) (aF aS : Nat → Option Addr) (cRF cRS rp : Nat → Nat) (K : Nat → Lit) (L : List En) (mk : Nat → Int) (w : World)
    (HF : NetFr w B bn gF M cF aF cRF L) (HT : NetSt w B bn gS M cS aS cRS (fun p => lst (fun c => p (rp c)) C) L) (HV : NetMk w B bn gM M cM mk) (hE : ∀ e ∈ L, e.f < M ∧ e.t < M) (hLl : L.length ≤ 30) (hmk : ∀ i, i < M → -1 ≤ mk i)
    (hC : nrep K 256 = C) (hC2 : C ≤ 256) (hM : M ≤ 100) (hm : (M + 7) / 8 = m) (SS : List (Nat → Bool)) (ms : List Int) (D : List ((Nat → Bool) × Nat)) (R : List (List Int)) (cs : Array Value) (l : List Nat) (vL vS vK vN : Value) (gs : List Nat)
    (h : MkS B bm gI bM m M C bn K L mk SS ms D R n cs l vL vS vK vN gs w) (hfr : fr < SS.length) (hS : SS.length ≤ 3000) (hR : R.length ≤ 3000) :
    Calls Try.prog 63 #[.pointer (some ⟨bm, 0, none⟩), .int .i64 ((fr : Nat) : Int)] w (LeadPost B bm gI bM m M C bn K L mk SS R (fun c x => FR L (Mv L (fun y => y < M ∧ SS[fr] y = true) (rp c)) x) w) := by
  obtain ⟨cA, hcAs, hcA⟩ : ∃ cA : Array Value, cA.size = 256 ∧ ∀ j, j < 256 → cA[j]? = some (.int .u8 ((cls K j : Nat) : Int)) := ⟨((List.range 256).map fun j => .int .u8 ((cls K j : Nat) : Int)).toArray, by simp, fun j hj => by simp [hj]⟩
  have hinfo : (Try.prog.info? 27).map (·.size) = some cA.size := by rw [hcAs]; kernel_rfl
  have hcell : ∀ j v, cA.toList[j]? = some v → w.cell? ((⟨bm, 1, none⟩ : Addr).add j) = some v := by
    intro j v hj
    have hj2 : j < 256 := by
      have := (List.getElem?_eq_some_iff.1 hj).1
      simpa [hcAs] using this
    have e : (⟨bm, 1, none⟩ : Addr).add j = ⟨bm, 1 + j, none⟩ := by unfold Addr.add; split <;> simp_all
    have h1 := hcA j hj2
    rw [← Array.getElem?_toList, hj] at h1
    rw [e, h.a.r.other (1 + j) (by omega), h.cl j hj2, h1]
  have HCt := Lib.hid (count_any K cA hcAs hcA w)
  have hm1 := make_ints C (by omega)
  have H := Lib.hid h
  have HN := Lib.hid (And.intro HF (And.intro HT (And.intro HV (And.intro hE (And.intro hmk (And.intro hm hfr))))))
  rw [hC] at HCt
  obtain ⟨aS0, cS0, rfl⟩ := ownsRow_slice h.t.os
  obtain ⟨gS0, rfl, _, _, hcS⟩ := ownsRow_read h.t.os (by omega)
  have d0 := (hcS fr (by omega)).1
  have d1 : w.cell? ⟨bm, 259, none⟩ = some (.slice (some ⟨gS0, 0, none⟩) SS.length cS0) := by rw [h.a.r.other 259 (by decide), h.t.cS]
  have hlt1 : bm < w.heap.size := h.a.r.sm.lt
  have hlt2 : gS0 < w.heap.size := by have := h.bs_lt gS0 ((bsA_mem ..).2 (by simp [Value.ownBlock])); exact this
  have hB0 : B ≤ w.heap.size := h.a.r.hB
  rw [show (strs (SS.map (txt M)))[fr]? = some (.string (txt M SS[fr])) from by simp [strs, hfr]] at d0
  have HMem := Lib.hid (fun W : World => members_any (txt M SS[fr]) m (by rw [txt_size, hm]) (by omega) (upTo SS[fr] M) (fun i hi => zof_txt M _ i (by omega)) W)
  obtain ⟨fs, hfs⟩ : ∃ fs, SS[fr] = fs := ⟨_, rfl⟩
  rw [hfs] at d0 HMem
  rw [show (fun c x => FR L (Mv L (fun y => y < M ∧ SS[fr] y = true) (rp c)) x) = (fun c x => FR L (Mv L (fun y => y < M ∧ fs y = true) (rp c)) x) from by rw [hfs]]
  have hfk : fr < SS.length := hfr
  obtain ⟨kS, hkS⟩ : ∃ kS, SS.length = kS := ⟨_, rfl⟩
  have HKS := Lib.hid hkS
  rw [hkS] at d1 hfk hS
  have i0 : (fr : Int) < (kS : Int) := by omega
  clear h HF HT HV hE hmk hcA hm hcS hfr hfs hkS
  go_enter Try.func63, Try.ntmps63
  go_wp2_with (refine wpList_load_part rfl 27 _ rfl ⟨bm, 1, none⟩ rfl cA (.array 256 5) hcell Try.underlying27 rfl hinfo ?_)
  refine HCt.out.mono ?_
  rintro e w1 ⟨rfl, hB1⟩
  have hs1 := hB1.size
  have d0' : (w1.alloc (.cells (madeCells #[.slice none 0 0] C) 25)).cell? ⟨gS0, fr, none⟩ = some (.string (txt M fs)) := (((al w1 _).cell (p := ⟨gS0, fr, none⟩) (by show gS0 < _; omega)).trans (hB1.cell (p := ⟨gS0, fr, none⟩) hlt2)).trans d0
  have d1' : (w1.alloc (.cells (madeCells #[.slice none 0 0] C) 25)).cell? ⟨bm, 259, none⟩ = some (.slice (some ⟨gS0, 0, none⟩) kS cS0) := (((al w1 _).cell (p := ⟨bm, 259, none⟩) (by show bm < _; omega)).trans (hB1.cell (p := ⟨bm, 259, none⟩) hlt1)).trans d1
  clear d0 d1 hcell HCt
  go_wp2_with fail
  refine (HMem.out _).mono ?_
  rintro e w3 ⟨Ls, aL, cL, rfl, hO, hnd, hmem, hB3⟩
  have HTg := Lib.hid (TgAt.made w1 w.heap.size C w3 hs1 hB3)
  have hBw : Below w.heap.size w w3 := (hB1.trans ((al w1 _).mono hs1)).trans (hB3.mono (by simp; omega))
  obtain ⟨gT, hgT⟩ : ∃ gT, w1.heap.size = gT := ⟨_, rfl⟩
  have hgT3 : gT < w3.heap.size := by have := hB3.size; simp at this; omega
  rw [hgT] at HTg
  have hstate : ∀ x ∈ Ls, x < M ∧ fs x = true := fun x hx => by have := ((hmem x).1 hx).2; simpa [upTo] using this
  have HLs := Lib.hid (And.intro hO (And.intro hnd (And.intro (fun x => show x ∈ Ls ↔ x < M ∧ fs x = true from ⟨hstate x, fun hx => (hmem x).2 ⟨by have := HN.out.2.2.2.2.2.1; omega, by simp [upTo, hx.1, hx.2]⟩⟩) hBw)))
  have hgTk : ∀ g, (Value.slice aL Ls.length cL).ownBlock = some g → g ≠ gT := fun g e h => by
    have h1 := own_ne hO (HTg.out.grid.1) (by decide) g e
    exact h1 h
  have HGT := Lib.hid hgTk
  have hLsM : Ls.length ≤ M := nodup_below hnd (fun x hx => (hstate x hx).1)
  obtain ⟨q, hq⟩ : ∃ q, Ls.length = q := ⟨_, rfl⟩
  have HQ := Lib.hid hq
  rw [hq] at hLsM
  rw [hgT]
  rw [hq]
  clear hO hnd hmem hB3 hstate hgTk hBw hB1 d0' d1' HMem hm1 hq hgT
  go_wp2_with fail
  go_loopw [6, 8, 10, 30] (fun _ _ _ v wq => ∃ (i : Nat) (vs : Nat → Value) (tg : Nat → List Nat), v = .int .i64 i ∧ i ≤ q ∧ Hid (TgAt w3 w.heap.size gT C vs tg wq) ∧ Hid (∀ c, c < C → (tg c).length ≤ i * 8000 ∧ ∀ x, x ∈ tg c ↔ InTg L rp ((Ls.take i).flatMap (rowB L)) c x)) (fun _ _ _ v _ => q - (intOf v).toNat)
  case atStart => exact ⟨0, _, _, rfl, Nat.zero_le _, HTg, fun c hc => ⟨by simp, fun x => by simp [InTg]⟩⟩
  case round =>
    obtain ⟨i, vs, tg, rfl, hi, HA, HC⟩ := hrel
    clear HTg
    have hW : Below w.heap.size w wr := HLs.out.2.2.2.trans HA.out.below
    have HW := Lib.hid hW
    by_cases hlt : i < q
    · have hil : i < Ls.length := by rw [HQ.out]; exact hlt
      obtain ⟨gl, rfl, _, hgl3, hcl⟩ := ownsRow_read HLs.out.1 (by omega)
      have d0 := (hcl i (by omega)).1
      rw [nums64_get Ls i hil] at d0
      have hglT : gl ≠ gT := HGT.out gl rfl
      replace d0 : wr.cell? ⟨gl, i, none⟩ = some (.int .i64 ((Ls[i] : Nat) : Int)) := (HA.out.kept.cell9 (by simpa using hglT) hgl3).trans d0
      have hs := ((HLs.out.2.2.1 Ls[i]).1 (List.getElem_mem _)).1
      have HTk : Hid (Ls.take (i + 1) = Ls.take i ++ [Ls[i]]) := List.take_succ_eq_append_getElem hil
      generalize Ls[i] = st at d0 hs HTk
      have c0 : wr.cell? ⟨bm, 0, none⟩ = some (.pointer (some ⟨bn, 0, none⟩)) := (hW.cell (p := ⟨bm, 0, none⟩) hlt1).trans ((H.out.a.r.other 0 (by decide)).trans H.out.c0)
      have hst := HN.out.2.1.below (hW.mono hB0)
      have f0 := hst.fld
      have k0 := hst.row st hs
      have HRw := Lib.hid (HN.out.2.1.at_ st hs)
      obtain ⟨aR, haR⟩ : ∃ aR, aS st = aR := ⟨_, rfl⟩
      obtain ⟨cR', hcR⟩ : ∃ cR', cRS st = cR' := ⟨_, rfl⟩
      rw [haR, hcR] at k0
      rw [haR] at HRw
      have HBE : Hid (∀ e ∈ rowB L st, e.t < M) := fun e he => (HN.out.2.2.2.1 e ((rowB_mem L st e).1 he).1).2
      obtain ⟨p, hp⟩ : ∃ p, (rowB L st).length = p := ⟨_, rfl⟩
      have hpl : p ≤ 30 := by rw [← hp]; exact Nat.le_trans (rowB_len L st) hLl
      have HP := Lib.hid hp
      rw [hp] at k0
      have i1 : (i : Int) < (q : Int) := by omega
      have i2 : (st : Int) < (M : Int) := by omega
      clear hst haR hcR hp hcl hil hlt hi hW hglT hgl3
      go_wp2_with fail
      clear c0 f0 k0 d0
      go_loopw [8, 10, 45] (fun _ _ v wq => ∃ (k : Nat) (vs2 : Nat → Value) (tg2 : Nat → List Nat), v = .int .i64 k ∧ k ≤ p ∧ Hid (TgAt w3 w.heap.size gT C vs2 tg2 wq) ∧ Hid (∀ c, c < C → (tg2 c).length ≤ i * 8000 + k * 256 ∧ ∀ x, x ∈ tg2 c ↔ InTg L rp ((Ls.take i).flatMap (rowB L) ++ (rowB L st).take k) c x)) (fun _ _ v _ => p - (intOf v).toNat)
      case atStart => exact ⟨0, vs, tg, rfl, Nat.zero_le _, HA, fun c hc => ⟨(HC.out c hc).1, fun x => by rw [(HC.out c hc).2 x]; simp⟩⟩
      case round =>
        clear HA HC HW
        obtain ⟨k, vs2, tg2, rfl, hk, HA, HC⟩ := hrel
        have hW : Below w.heap.size w wr := HLs.out.2.2.2.trans HA.out.below
        by_cases hkp : k < p
        · have hkl : k < (rowB L st).length := by rw [HP.out]; exact hkp
          obtain ⟨gx, off, rfl, hgx, hcells⟩ := HRw.out (by omega)
          obtain ⟨ac, cc, s0, s1, hI⟩ := hcells k hkl
          replace s0 := (hW.cell (p := ⟨gx, off + k * 2, none⟩) (by show gx < _; omega)).trans s0
          replace s1 := (hW.cell (p := ⟨gx, off + k * 2 + 1, none⟩) (by show gx < _; omega)).trans s1
          have HTK : Hid ((rowB L st).take (k + 1) = (rowB L st).take k ++ [(rowB L st)[k]]) := List.take_succ_eq_append_getElem hkl
          have htM := HBE.out _ (List.getElem_mem hkl)
          generalize (rowB L st)[k] = ed at s0 s1 hI HTK htM
          obtain ⟨lc, hlc⟩ : ∃ lc, lst (fun c => ed.p (rp c)) C = lc := ⟨_, rfl⟩
          have HLC : Hid (∀ x, x ∈ lc ↔ x < C ∧ ed.p (rp x) = true) := fun x => by rw [← hlc]; exact lst_mem _ _ x
          have hlcl : lc.length ≤ C := by rw [← hlc]; exact lst_le _ _
          dsimp only at s0 hI
          rw [hlc] at s0 hI
          have HI := Lib.hid hI
          obtain ⟨pc, hpc⟩ : ∃ pc, lc.length = pc := ⟨_, rfl⟩
          have HPC := Lib.hid hpc
          rw [hpc] at s0 hlcl
          obtain ⟨t, ht⟩ : ∃ t, ed.t = t := ⟨_, rfl⟩
          have HTD := Lib.hid ht
          rw [ht] at s1 htM
          have i5 : (k : Int) < (p : Int) := by omega
          have HA1 := Lib.hid (HA.out.keep (al wr (.cells #[.slice ac pc cc, .int .i64 ((t : Nat) : Int)] 107)))
          have HE1 := Lib.hid (St.new wr 107 #[.slice ac pc cc, .int .i64 ((t : Nat) : Int)])
          clear hI hlc hpc ht hcells hkl hW hk
          go_wp2_with fail
          obtain ⟨g8, hg8⟩ : ∃ g8, wr.heap.size = g8 := ⟨_, rfl⟩
          rw [hg8] at HE1
          rw [hg8]
          generalize wr.alloc (.cells #[.slice ac pc cc, .int .i64 ((t : Nat) : Int)] 107) = W1 at HA1 HE1 ⊢
          clear hg8 s0 s1 HA
          go_loopw [10, 52] (fun _ v wz => ∃ (j : Nat) (vs3 : Nat → Value) (tg3 : Nat → List Nat), v = .int .i64 j ∧ j ≤ pc ∧ Hid (TgAt w3 w.heap.size gT C vs3 tg3 wz) ∧ Hid (St wz 107 g8 #[.slice ac pc cc, .int .i64 ((t : Nat) : Int)]) ∧ Hid (∀ c, c < C → (tg3 c).length ≤ i * 8000 + k * 256 + j ∧ ∀ x, x ∈ tg3 c ↔ InTg L rp ((Ls.take i).flatMap (rowB L) ++ (rowB L st).take k) c x ∨ (c ∈ lc.take j ∧ x = t))) (fun _ v _ => pc - (intOf v).toNat)
          case atStart => exact ⟨0, vs2, tg2, rfl, Nat.zero_le _, HA1, HE1, fun c hc => ⟨(HC.out c hc).1, fun x => by rw [(HC.out c hc).2 x]; simp⟩⟩
          case round =>
            clear HA1 HE1
            obtain ⟨j, vs3, tg3, rfl, hj, HA3, HE3, HC3⟩ := hrel
            have hW : Below w.heap.size w wr := HLs.out.2.2.2.trans HA3.out.below
            by_cases hjp : j < pc
            · have hjl : j < lc.length := by rw [HPC.out]; exact hjp
              obtain ⟨gi, oi, rfl, hgi, hic⟩ := HI.out (by omega)
              have s2 := (hW.cell (p := ⟨gi, oi + j, none⟩) (by show gi < _; omega)).trans (hic j hjl)
              have hx := ((HLC.out lc[j]).1 (List.getElem_mem hjl)).1
              have HTJ : Hid (lc.take (j + 1) = lc.take j ++ [lc[j]]) := List.take_succ_eq_append_getElem hjl
              generalize lc[j] = x at s2 hx HTJ
              have i6 : (j : Int) < (pc : Int) := by omega
              clear hic hjl hW
              have HF3 : Hid (∀ c, c < C → ((fun jj => if jj = x then tg3 x ++ [t] else tg3 jj) c).length ≤ i * 8000 + k * 256 + (j + 1) ∧ ∀ y, y ∈ (fun jj => if jj = x then tg3 x ++ [t] else tg3 jj) c ↔ InTg L rp ((Ls.take i).flatMap (rowB L) ++ (rowB L st).take k) c y ∨ (c ∈ lc.take (j + 1) ∧ y = t)) := fun c hc => by
                obtain ⟨h1, h2⟩ := HC3.out c hc
                rw [HTJ.out]
                by_cases e : c = x
                · subst e
                  refine ⟨by simp; omega, fun y => ?_⟩
                  simp only [if_true, List.mem_append, List.mem_singleton, h2 y]
                  constructor
                  · rintro ((h3 | ⟨h3, h4⟩) | h3)
                    · exact Or.inl h3
                    · exact Or.inr ⟨Or.inl h3, h4⟩
                    · exact Or.inr ⟨Or.inr trivial, h3⟩
                  · rintro (h3 | ⟨h3, h4⟩)
                    · exact Or.inl (Or.inl h3)
                    · exact Or.inr h4
                · refine ⟨by simp [e]; omega, fun y => ?_⟩
                  show (y ∈ if c = x then tg3 x ++ [t] else tg3 c) ↔ _
                  rw [if_neg e, h2 y, List.mem_append, List.mem_singleton]
                  simp [e]
              go_wp2_with fail
              -- REG10
              obtain ⟨aR3, cR3, hv⟩ := ownsRow_slice (HA3.out.grid.2.1 x hx)
              dsimp only at hv
              have HA4 := Lib.hid (HA3.out.keep (al wr (.cells #[.int .i64 ((t : Nat) : Int)] 3)).drew)
              have HE4 := Lib.hid (HE3.out.keep (al wr (.cells #[.int .i64 ((t : Nat) : Int)] 3)).drew)
              have hrow := HA4.out.grid.2.1 x hx
              rw [hv] at hrow
              dsimp only at hrow
              have hlen := (HC3.out x hx).1
              obtain ⟨p3, hp3⟩ : ∃ p3, (tg3 x).length = p3 := ⟨_, rfl⟩
              have k0 : wr.cell? ⟨gT, x, none⟩ = some (.slice aR3 p3 cR3) := by rw [(HA3.out.grid.cell x hx).1, hv, hp3]
              have m2 : (wr.alloc (.cells #[.int .i64 ((t : Nat) : Int)] 3)).drew.cell? ⟨gT, x, none⟩ = some (.slice aR3 p3 cR3) := by rw [(HA4.out.grid.cell x hx).1, hv, hp3]
              have HV3 := Lib.hid (And.intro hv hp3)
              have j1 : (x : Int) < (C : Int) := by omega
              have j2 : (0 : Int) ≤ (x : Int) := by omega
              have hH2 : w3.heap.size ≤ ((wr.alloc (.cells #[.int .i64 ((t : Nat) : Int)] 3)).drew).heap.size := HA4.out.below.size
              rw [hp3] at hrow hlen
              obtain ⟨i0, hi0, hz0, hz1, hz2⟩ := info_parts Try.info_int9
              have HS0 := Lib.hid (fun (W : World) (h1 : St W 107 g8 #[.slice (some ⟨gi, oi, none⟩) pc cc, .int .i64 ((t : Nat) : Int)]) => (h1.at_ 1 : W.cell? ⟨g8, 1, none⟩ = some (.int .i64 ((t : Nat) : Int))))
              clear hv hp3
              refine wp_region_held_drew (S := fun W' => W'.cell? ⟨g8, 1, none⟩ = some (.int .i64 ((t : Nat) : Int))) (by kernel_rfl) (HS0.out _ HE3.out.drew) (fun hHeld => ?_)
              (refine wpAnyH_take (i := 0) (oi := ?_) (v := ?_) ?_ (by kernel_rfl) (by kernel_rfl) (by kernel_rfl) ?_ (Or.inl ⟨?_, ?_⟩) (by assumption) ?_; rotate_left 2; (focus ((simp only [List.getElem?_toArray, List.getElem?_cons_zero]); first | done | rfl)); (focus (exact fun _ _ _ h => h)); (focus rfl); (focus (intro wz hSw; (try dsimp only at hSw); go_simp; first | done | with_reducible rfl)); try simp only [Act.put, List.setIfInBounds_toArray, List.set_cons_zero, List.set_cons_succ])
              (refine wpAnyH_take (i := 1) (oi := ?_) (v := ?_) ?_ (by kernel_rfl) (by kernel_rfl) (by kernel_rfl) ?_ (Or.inl ⟨?_, ?_⟩) (by assumption) ?_; rotate_left 2; (focus ((simp only [List.getElem?_toArray, List.getElem?_cons_succ, List.getElem?_cons_zero]); first | done | rfl)); (focus (exact fun _ _ _ h => h)); (focus rfl); (focus (intro wz hSw; (try dsimp only at hSw); go_simp; first | done | with_reducible rfl)); try simp only [Act.put, List.setIfInBounds_toArray, List.set_cons_zero, List.set_cons_succ])
              (refine wpAnyH_take (i := 2) (oi := ?_) (v := ?_) ?_ (by kernel_rfl) (by kernel_rfl) (by kernel_rfl) ?_ (Or.inl ⟨?_, ?_⟩) (by assumption) ?_; rotate_left 2; (focus ((simp only [List.getElem?_toArray, List.getElem?_cons_succ, List.getElem?_cons_zero]); first | done | rfl)); (focus (exact fun _ _ _ h => h)); (focus rfl); (focus (intro wz hSw; (try dsimp only at hSw); go_simp; first | done | with_reducible rfl)); try simp only [Act.put, List.setIfInBounds_toArray, List.set_cons_zero, List.set_cons_succ])
              (refine wpAnyH_take (i := 3) (oi := ?_) (v := ?_) ?_ (by kernel_rfl) (by kernel_rfl) (by kernel_rfl) ?_ (Or.inl ⟨?_, ?_⟩) (by assumption) ?_; rotate_left 2; (focus ((simp only [List.getElem?_toArray, List.getElem?_cons_succ, List.getElem?_cons_zero]); first | done | rfl)); (focus (exact fun _ _ _ h => h)); (focus rfl); (focus (intro wz hSw; (try dsimp only at hSw); go_simp; first | done | with_reducible rfl)); try simp only [Act.put, List.setIfInBounds_toArray, List.set_cons_zero, List.set_cons_succ])
              (refine wpAnyH_take (i := 4) (oi := ?_) (v := ?_) ?_ (by kernel_rfl) (by kernel_rfl) (by kernel_rfl) ?_ (Or.inl ⟨?_, ?_⟩) (by assumption) ?_; rotate_left 2; (focus ((simp only [List.getElem?_toArray, List.getElem?_cons_succ, List.getElem?_cons_zero]); first | done | rfl)); (focus (exact fun _ _ _ h => h)); (focus rfl); (focus (intro wz hSw; (try dsimp only at hSw); go_simp; first | done | with_reducible rfl)); try simp only [Act.put, List.setIfInBounds_toArray, List.set_cons_zero, List.set_cons_succ])
              (refine wpAnyH_take (i := 6) (oi := ?_) (v := ?_) ?_ (by kernel_rfl) (by kernel_rfl) (by kernel_rfl) ?_ (Or.inl ⟨?_, ?_⟩) (by assumption) ?_; rotate_left 2; (focus ((simp only [List.getElem?_toArray, List.getElem?_cons_succ, List.getElem?_cons_zero]); first | done | rfl)); (focus (exact fun _ _ _ h => h)); (focus rfl); (focus (intro wz hSw; (try dsimp only at hSw); go_simp; first | done | with_reducible rfl)); try simp only [Act.put, List.setIfInBounds_toArray, List.set_cons_zero, List.set_cons_succ])
              (refine wpAnyH_take (i := 7) (oi := ?_) (v := ?_) ?_ (by kernel_rfl) (by kernel_rfl) (by kernel_rfl) ?_ (Or.inl ⟨?_, ?_⟩) (by assumption) ?_; rotate_left 2; (focus ((simp only [List.getElem?_toArray, List.getElem?_cons_succ, List.getElem?_cons_zero]); first | done | rfl)); (focus (exact fun _ _ _ h => h)); (focus rfl); (focus (intro wz hSw; (try dsimp only at hSw); go_simp; first | done | with_reducible rfl)); try simp only [Act.put, List.setIfInBounds_toArray, List.set_cons_zero, List.set_cons_succ])
              refine wpAnyH_ready (rs := [5, 8]) (by kernel_rfl) (by simp) ?_
              refine AllReadyH.cons (o := ?_) ?_ (fun K hK => ?_) ?_
              rotate_left
              (focus ((simp only [List.getElem?_toArray, List.getElem?_cons_succ, List.getElem?_cons_zero]); first | done | rfl))
              · skip
                go_simp
                refine hK.out _ _ (HS0.out _ HE3.out.drew) (fun hHeld => ?_)
                clear hK K
                try simp only [Act.put, List.setIfInBounds_toArray, List.set_cons_zero, List.set_cons_succ]
                refine wpAnyH_ready (rs := [8]) (by kernel_rfl) (by simp) ?_
                refine AllReadyH.cons (o := ?_) ?_ (fun K hK => ?_) ?_
                rotate_left
                (focus ((simp only [List.getElem?_toArray, List.getElem?_cons_succ, List.getElem?_cons_zero]); first | done | rfl))
                · skip
                  go_simp
                  refine hK.out _ _ (HS0.out _ HE4.out) (fun hHeld => ?_)
                  clear hK K
                  try simp only [Act.put, List.setIfInBounds_toArray, List.set_cons_zero, List.set_cons_succ]
                  refine wpAnyH_ready (rs := [9]) (by kernel_rfl) (by simp) ?_
                  refine AllReadyH.cons (o := ?_) ?_ (fun K hK => ?_) ?_
                  rotate_left
                  (focus ((simp only [List.getElem?_toArray, List.getElem?_cons_succ, List.getElem?_cons_zero]); first | done | rfl))
                  · skip
                    skip
                    refine step_append_lies _ (by rfl) _ _ _ (by rfl) w3.heap.size 3 i0 (.int .i64 0) 1 8 Try.underlying25 hi0 hz0 hz1 hz2 (by rfl) (by decide) _ p3 (nums64 (tg3 x)) (by rfl) hrow ⟨wr.heap.size, 0, none⟩ 1 1 (#[.int .i64 ((t : Nat) : Int)]).toList (by rfl) (by rfl) (World.news_of_block (cs := #[.int .i64 ((t : Nat) : Int)]) (t := 3) (fr := (0, 0)) (heap_alloc_new wr _)) (by simp [Value.oneCell']) (by omega) (by unfold maxLen; omega) (by omega) hH2 (wr.heap.size + 1) (by simp) ?_
                    intro gg cap6 w6 hown6 hgrow6 hat6 hlt6
                    have hse6 := HE4.out.grown_own hrow (by decide) hgrow6
                    have hgr6 := HA4.out.grid.1.grown_own hrow (by decide) hgrow6
                    have t2 : w6.cell? ⟨gT, x, none⟩ = some (.slice aR3 p3 cR3) := by rw [hgr6.at_]; simp only [List.getElem?_toArray, List.getElem?_map, List.getElem?_range hx, Option.map_some, HV3.out.1, HV3.out.2]
                    have t3 := hgr6.thaw_ x
                    have HF : Hid (TgAt w3 w.heap.size gT C (fun j => if j = x then (.slice (some ⟨gg, 0, none⟩) (p3 + 1) cap6) else vs3 j) (fun j => if j = x then tg3 x ++ [t] else tg3 j) (w6.setCell ⟨gT, x, none⟩ (.slice (some ⟨gg, 0, none⟩) (p3 + 1) cap6))) :=
                      HA4.out.app hx HV3.out.2 hown6 (by rw [HV3.out.1, HV3.out.2]; exact hgrow6) (fun b e => by rw [HV3.out.1, HV3.out.2]; injection e with e; rw [← e]; rcases hat6 with h | h; exact Or.inl h; exact Or.inr (by rw [h]; simp))
                    have HF2 : Hid (St (w6.setCell ⟨gT, x, none⟩ (.slice (some ⟨gg, 0, none⟩) (p3 + 1) cap6)) 107 g8 #[.slice (some ⟨gi, oi, none⟩) pc cc, .int .i64 ((t : Nat) : Int)]) := hse6.set_far hgr6 (by decide) x _
                    refine hK.out _ _ (HS0.out _ hse6) (fun hHeld => ?_)
                    clear hK K hown6 hgrow6 hat6 hlt6
                    try simp only [Act.put, List.setIfInBounds_toArray, List.set_cons_zero, List.set_cons_succ]
                    (refine wpAnyH_take (i := 10) (oi := ?_) (v := ?_) ?_ (by kernel_rfl) (by kernel_rfl) (by kernel_rfl) ?_ (Or.inl ⟨?_, ?_⟩) (by assumption) ?_; rotate_left 2; (focus ((simp only [List.getElem?_toArray, List.getElem?_cons_succ, List.getElem?_cons_zero]); first | done | rfl)); (focus (exact fun _ _ _ h => h)); (focus rfl); (focus (intro wz hSw; (try dsimp only at hSw); go_simp; first | done | with_reducible rfl)); try simp only [Act.put, List.setIfInBounds_toArray, List.set_cons_zero, List.set_cons_succ])
                    refine wpAnyH_ready (rs := [11]) (by kernel_rfl) (by simp) ?_
                    refine AllReadyH.cons (o := ?_) ?_ (fun K hK => ?_) ?_
                    rotate_left
                    (focus ((simp only [List.getElem?_toArray, List.getElem?_cons_succ, List.getElem?_cons_zero]); first | done | rfl))
                    · skip
                      go_simp
                      refine hK.out _ _ (HS0.out _ (hse6.set_far hgr6 (by decide) x _)) (fun hHeld => ?_)
                      clear hK K
                      try simp only [Act.put, List.setIfInBounds_toArray, List.set_cons_zero, List.set_cons_succ]
                      refine wpAnyH_done (by kernel_rfl) ?_ _
                      clear hse6 hgr6 t2 t3 hHeld
                      go_wp2_with fail
                      go_roundw
                      case rel => exact ⟨j + 1, _, _, by go_num, by omega, HF, HF2, HF3⟩
                      case measure => simp [intOf]; omega
                    exact AllReadyH.nil
                  exact AllReadyH.nil
                exact AllReadyH.nil
              refine AllReadyH.cons (o := ?_) ?_ (fun K hK => ?_) ?_
              rotate_left
              (focus ((simp only [List.getElem?_toArray, List.getElem?_cons_succ, List.getElem?_cons_zero]); first | done | rfl))
              · skip
                go_simp
                refine hK.out _ _ (HS0.out _ HE4.out) (fun hHeld => ?_)
                clear hK K
                try simp only [Act.put, List.setIfInBounds_toArray, List.set_cons_zero, List.set_cons_succ]
                refine wpAnyH_ready (rs := [5]) (by kernel_rfl) (by simp) ?_
                refine AllReadyH.cons (o := ?_) ?_ (fun K hK => ?_) ?_
                rotate_left
                (focus ((simp only [List.getElem?_toArray, List.getElem?_cons_succ, List.getElem?_cons_zero]); first | done | rfl))
                · skip
                  go_simp
                  refine hK.out _ _ (HS0.out _ HE4.out) (fun hHeld => ?_)
                  clear hK K
                  try simp only [Act.put, List.setIfInBounds_toArray, List.set_cons_zero, List.set_cons_succ]
                  refine wpAnyH_ready (rs := [9]) (by kernel_rfl) (by simp) ?_
                  refine AllReadyH.cons (o := ?_) ?_ (fun K hK => ?_) ?_
                  rotate_left
                  (focus ((simp only [List.getElem?_toArray, List.getElem?_cons_succ, List.getElem?_cons_zero]); first | done | rfl))
                  · skip
                    skip
                    refine step_append_lies _ (by rfl) _ _ _ (by rfl) w3.heap.size 3 i0 (.int .i64 0) 1 8 Try.underlying25 hi0 hz0 hz1 hz2 (by rfl) (by decide) _ p3 (nums64 (tg3 x)) (by rfl) hrow ⟨wr.heap.size, 0, none⟩ 1 1 (#[.int .i64 ((t : Nat) : Int)]).toList (by rfl) (by rfl) (World.news_of_block (cs := #[.int .i64 ((t : Nat) : Int)]) (t := 3) (fr := (0, 0)) (heap_alloc_new wr _)) (by simp [Value.oneCell']) (by omega) (by unfold maxLen; omega) (by omega) hH2 (wr.heap.size + 1) (by simp) ?_
                    intro gg cap6 w6 hown6 hgrow6 hat6 hlt6
                    have hse6 := HE4.out.grown_own hrow (by decide) hgrow6
                    have hgr6 := HA4.out.grid.1.grown_own hrow (by decide) hgrow6
                    have t2 : w6.cell? ⟨gT, x, none⟩ = some (.slice aR3 p3 cR3) := by rw [hgr6.at_]; simp only [List.getElem?_toArray, List.getElem?_map, List.getElem?_range hx, Option.map_some, HV3.out.1, HV3.out.2]
                    have t3 := hgr6.thaw_ x
                    have HF : Hid (TgAt w3 w.heap.size gT C (fun j => if j = x then (.slice (some ⟨gg, 0, none⟩) (p3 + 1) cap6) else vs3 j) (fun j => if j = x then tg3 x ++ [t] else tg3 j) (w6.setCell ⟨gT, x, none⟩ (.slice (some ⟨gg, 0, none⟩) (p3 + 1) cap6))) :=
                      HA4.out.app hx HV3.out.2 hown6 (by rw [HV3.out.1, HV3.out.2]; exact hgrow6) (fun b e => by rw [HV3.out.1, HV3.out.2]; injection e with e; rw [← e]; rcases hat6 with h | h; exact Or.inl h; exact Or.inr (by rw [h]; simp))
                    have HF2 : Hid (St (w6.setCell ⟨gT, x, none⟩ (.slice (some ⟨gg, 0, none⟩) (p3 + 1) cap6)) 107 g8 #[.slice (some ⟨gi, oi, none⟩) pc cc, .int .i64 ((t : Nat) : Int)]) := hse6.set_far hgr6 (by decide) x _
                    refine hK.out _ _ (HS0.out _ hse6) (fun hHeld => ?_)
                    clear hK K hown6 hgrow6 hat6 hlt6
                    try simp only [Act.put, List.setIfInBounds_toArray, List.set_cons_zero, List.set_cons_succ]
                    (refine wpAnyH_take (i := 10) (oi := ?_) (v := ?_) ?_ (by kernel_rfl) (by kernel_rfl) (by kernel_rfl) ?_ (Or.inl ⟨?_, ?_⟩) (by assumption) ?_; rotate_left 2; (focus ((simp only [List.getElem?_toArray, List.getElem?_cons_succ, List.getElem?_cons_zero]); first | done | rfl)); (focus (exact fun _ _ _ h => h)); (focus rfl); (focus (intro wz hSw; (try dsimp only at hSw); go_simp; first | done | with_reducible rfl)); try simp only [Act.put, List.setIfInBounds_toArray, List.set_cons_zero, List.set_cons_succ])
                    refine wpAnyH_ready (rs := [11]) (by kernel_rfl) (by simp) ?_
                    refine AllReadyH.cons (o := ?_) ?_ (fun K hK => ?_) ?_
                    rotate_left
                    (focus ((simp only [List.getElem?_toArray, List.getElem?_cons_succ, List.getElem?_cons_zero]); first | done | rfl))
                    · skip
                      go_simp
                      refine hK.out _ _ (HS0.out _ (hse6.set_far hgr6 (by decide) x _)) (fun hHeld => ?_)
                      clear hK K
                      try simp only [Act.put, List.setIfInBounds_toArray, List.set_cons_zero, List.set_cons_succ]
                      refine wpAnyH_done (by kernel_rfl) ?_ _
                      clear hse6 hgr6 t2 t3 hHeld
                      go_wp2_with fail
                      go_roundw
                      case rel => exact ⟨j + 1, _, _, by go_num, by omega, HF, HF2, HF3⟩
                      case measure => simp [intOf]; omega
                    exact AllReadyH.nil
                  exact AllReadyH.nil
                exact AllReadyH.nil
              exact AllReadyH.nil
              -- END10
            · obtain rfl : j = pc := by omega
              have HZ : Hid (∀ c, c < C → (tg3 c).length ≤ i * 8000 + (k + 1) * 256 ∧ ∀ x, x ∈ tg3 c ↔ InTg L rp ((Ls.take i).flatMap (rowB L) ++ (rowB L st).take (k + 1)) c x) := fun c hc => by
                obtain ⟨h1, h2⟩ := HC3.out c hc
                refine ⟨by omega, fun x => ?_⟩
                rw [h2 x, HTK.out, ← HPC.out, List.take_length, HLC.out c, ← HTD.out]
                unfold InTg
                simp only [List.mem_append, List.mem_singleton]
                constructor
                · rintro (⟨e, he, h3, h4⟩ | ⟨⟨_, h3⟩, h4⟩)
                  · exact ⟨e, by rcases he with he | he; exact Or.inl he; exact Or.inr (Or.inl he), h3, h4⟩
                  · exact ⟨ed, Or.inr (Or.inr rfl), h3, h4.symm⟩
                · rintro ⟨e, he, h3, h4⟩
                  rcases he with he | he | rfl
                  · exact Or.inl ⟨e, Or.inl he, h3, h4⟩
                  · exact Or.inl ⟨e, Or.inr he, h3, h4⟩
                  · exact Or.inr ⟨⟨hc, h3⟩, h4.symm⟩
              clear hW
              go_wp2_with fail
              go_roundw
              case rel => exact ⟨k + 1, vs3, tg3, by go_num, by omega, HA3, HZ⟩
              case measure => simp [intOf]; omega
        · obtain rfl : k = p := by omega
          have HZ : Hid (∀ c, c < C → (tg2 c).length ≤ (i + 1) * 8000 ∧ ∀ x, x ∈ tg2 c ↔ InTg L rp ((Ls.take (i + 1)).flatMap (rowB L)) c x) := fun c hc => by
            obtain ⟨h1, h2⟩ := HC.out c hc
            refine ⟨by omega, fun x => ?_⟩
            rw [h2 x, HTk.out, ← HP.out, List.take_length, List.flatMap_append]
            simp
          clear hW
          go_wp2_with fail
          go_roundw
          case rel => exact ⟨i + 1, vs2, tg2, by go_num, by omega, HA, HZ⟩
          case measure => simp [intOf]; omega
    · obtain rfl : i = q := by omega
      have HZ : Hid (∀ c, c < C → (tg c).length ≤ 800000 ∧ ∀ x, x ∈ tg c ↔ InTg L rp (Ls.flatMap (rowB L)) c x) := fun c hc => by
        obtain ⟨h1, h2⟩ := HC.out c hc
        refine ⟨by omega, fun x => ?_⟩
        rw [h2 x, ← HQ.out, List.take_length]
      -- REST
      have hgTw : gT < wr.heap.size := by have := HA.out.below.size; omega
      have hm9 := make_row9 C (by omega)
      have HVs := Lib.hid (Kept.refl [] [] wr)
      have H1 := Lib.hid (H.out.keep hW)
      have hBlt : ∀ x ∈ bsA bm gI bM vL (.slice (some ⟨gS0, 0, none⟩) SS.length cS0) vK, x < w.heap.size := H.out.bs_lt
      have hgTlo : w.heap.size ≤ gT := HA.out.lo.1
      have HR0 := Lib.hid (And.intro hBlt hgTlo)
      clear hBlt hgTlo
      go_wp2_with fail
      obtain ⟨gR, hgR⟩ : ∃ gR, wr.heap.size = gR := ⟨_, rfl⟩
      rw [hgR]
      have HG := Lib.hid (HA.out.grid)
      have HGlt : Hid (∀ c, c < C → ∀ b, (vs c).ownBlock = some b → b < gR ∧ w3.heap.size ≤ b) := fun c hc b e => by
        obtain ⟨c1, fz, h1⟩ := own_kind (HG.out.2.1 c hc) b e
        exact ⟨by rw [← hgR]; exact (Array.getElem?_eq_some_iff.1 h1).1, own_above (HG.out.2.1 c hc) b e⟩
      have HSt : Hid (St (wr.alloc (.cells (madeCells #[.int .i64 0] C) 3)) 3 gR (ints (List.replicate C 0)).toArray) := by
        show St _ _ _ _
        rw [← made_ints9, ← hgR]
        exact St.new _ _ _
      have H2 := Lib.hid (H1.out.keep (al wr (.cells (madeCells #[.int .i64 0] C) 3)))
      have HG2 := Lib.hid (HG.out.keep (al wr (.cells (madeCells #[.int .i64 0] C) 3)))
      have hVs : (wr.alloc (.cells (madeCells #[.int .i64 0] C) 3)).heap.size = gR + 1 := by simp [hgR]
      have hBV : Below w.heap.size w (wr.alloc (.cells (madeCells #[.int .i64 0] C) 3)) := (hW.trans ((al wr _).mono hW.size))
      have HBV := Lib.hid hBV
      generalize wr.alloc (.cells (madeCells #[.int .i64 0] C) 3) = V at HSt H2 HG2 hVs hBV HBV ⊢
      obtain ⟨bs0, hbs0⟩ : ∃ bs0, bsA bm gI bM vL (.slice (some ⟨gS0, 0, none⟩) SS.length cS0) vK = bs0 := ⟨_, rfl⟩
      have HBS := Lib.hid hbs0
      clear H1 HG HVs hBV hm9 hW hbs0
      have hgTR : gT < gR := by omega
      have HTC : Hid (∀ c, c < C → (fun x => FR L (fun y => y ∈ tg c) x) = (fun x => FR L (Mv L (fun y => y < M ∧ fs y = true) (rp c)) x)) := fun c hc => funext fun x => propext (FR.congr (fun y => by
        rw [(HC.out c hc).2 y]
        rw [← HQ.out, List.take_length]
        constructor
        · rintro ⟨e, he, h1, h2⟩
          obtain ⟨st, hst, he⟩ := List.mem_flatMap.1 he
          obtain ⟨h3, h4, h5⟩ := (rowB_mem L st e).1 he
          exact ⟨e, h3, h4, h1, by rw [h5]; exact (HLs.out.2.2.1 st).1 hst, h2⟩
        · rintro ⟨e, h3, h4, h1, h5, h2⟩
          exact ⟨e, List.mem_flatMap.2 ⟨e.f, (HLs.out.2.2.1 e.f).2 h5, (rowB_mem L e.f e).2 ⟨h3, h4, rfl⟩⟩, h1, h2⟩) x)
      have HTL : Hid (∀ c, c < C → (tg c).length ≤ 800000 ∧ ∀ x ∈ tg c, x < M) := fun c hc => ⟨by have := (HC.out c hc).1; omega, fun x hx => by
        obtain ⟨e, he, h1, h2⟩ := ((HC.out c hc).2 x).1 hx
        obtain ⟨st, hst, he⟩ := List.mem_flatMap.1 he
        rw [← h2]
        exact (HN.out.2.2.2.1 e ((rowB_mem L st e).1 he).1).2⟩
      have hbsw : Hid (∀ x ∈ bs0, x < w.heap.size) := by rw [← HBS.out]; exact HR0.out.1
      have hgTlo : w.heap.size ≤ gT := HR0.out.2
      clear HC HA hi hlt HW HR0 hgTw
      go_loopw [12, 13, 75] (fun _ _ v wq => ∃ (c : Nat) (row : List Int) (SS' : List (Nat → Bool)) (ms' : List Int) (D' : List ((Nat → Bool) × Nat)) (n' : Nat) (cs' : Array Value) (l' : List Nat) (vL' vS' vK' : Value), v = .int .i64 c ∧ c ≤ C ∧
        Hid (MkS B bm gI bM m M C bn K L mk SS' ms' D' R n' cs' l' vL' vS' vK' vN gs wq) ∧ Hid (RowD M (fun c x => FR L (Mv L (fun y => y < M ∧ fs y = true) (rp c)) x) SS c row SS') ∧ Hid (Kept [] (gR :: bs0) V wq ∧ Below B V wq ∧ (∀ x ∈ bsA bm gI bM vL' vS' vK', x ∈ bs0 ∨ V.heap.size ≤ x) ∧ St wq 3 gR (ints (row ++ List.replicate (C - c) 0)).toArray ∧ ∀ x ∈ gs, x ≠ gR)) (fun _ _ v _ => C - (intOf v).toNat)
      case atStart => exact ⟨0, [], SS, ms, D, n, cs, l, vL, _, vK, rfl, Nat.zero_le _, H2, RowD.zero, Kept.refl _ _ _, Below.refl _ _, fun x hx => Or.inl (by rw [← HBS.out]; exact hx), by simpa using HSt.out, fun x hx e => by
        obtain ⟨i1, h1, h2⟩ := List.getElem_of_mem hx
        have h3 := (H.out.nx.row i1 h1 (by rw [← H.out.nx.len]; exact h1)).1.lt
        omega⟩
      case round =>
        clear H2 HSt
        obtain ⟨c, row, SS', ms', D', n', cs', l', vL', vS', vK', rfl, hc, HM, HRw, HK⟩ := hrel
        have hrl := HRw.out.len
        have hgRb : gR ∉ bs0 := fun h => by have := hbsw.out _ h; omega
        have hgTb : gT ∉ gR :: bs0 := fun h => by
          rcases List.mem_cons.1 h with h | h
          · omega
          · have := hbsw.out _ h; omega
        have hgRm : gR ∉ bsA bm gI bM vL' vS' vK' := fun h => by
          rcases HK.out.2.2.1 _ h with h | h
          · exact hgRb h
          · omega
        have hBw : Below B w wr := (HBV.out.mono hB0).trans HK.out.2.1
        by_cases hlt : c < C
        · have hO := HG2.out.2.1 c hlt
          obtain ⟨aT, cT, hv⟩ := ownsRow_slice hO
          dsimp only at hv hO
          have t0 : wr.cell? ⟨gT, c, none⟩ = some (.slice aT (tg c).length cT) := by rw [HK.out.1.cell9 hgTb (by omega), (HG2.out.cell c hlt).1, hv]
          have hglt := HGlt.out c hlt
          rw [hv] at hO hglt
          have HAt : Hid (∀ W : World, (∀ g, g ∉ gR :: bs0 → g < V.heap.size → W.heap[g]? = V.heap[g]?) → IAt W W.heap.size aT (tg c)) := fun W hW h0 => by
            obtain ⟨gt, rfl, hlo, hhi, hcs⟩ := ownsRow_read hO h0
            have h1 := (hglt gt rfl).1
            have h2 := hW gt (fun h => by
              rcases List.mem_cons.1 h with h | h
              · omega
              · have := hbsw.out _ h; omega) hhi
            refine ⟨gt, 0, rfl, ?_, fun j hj => ?_⟩
            · rw [Array.getElem?_eq_getElem hhi] at h2
              exact (Array.getElem?_eq_some_iff.1 h2).1
            · rw [Nat.zero_add]
              have h3 : W.cell? ⟨gt, j, none⟩ = V.cell? ⟨gt, j, none⟩ := by simp only [World.cell?, h2]
              rw [h3, (hcs j (by omega)).1, nums64_get (tg c) j hj]
          have htl := HTL.out c hlt
          have htM := Lib.hid htl.2
          replace htl := htl.1
          have hTC := Lib.hid (HTC.out c hlt)
          obtain ⟨tc, htc⟩ : ∃ tc, tg c = tc := ⟨_, rfl⟩
          rw [htc] at t0 HAt htl htM hTC
          have hrow : row.length = c := hrl.1
          have hst := HK.out.2.2.2.1
          rw [ints_zero row C c hlt] at hst
          have e0 : wr.cell? ⟨gR, c, none⟩ = some (.int .i64 0) := by rw [hst.at_, ints_at row C c hrow]
          have e1 := hst.thaw_ c
          have HS1 : Hid (St (wr.setCell ⟨gR, c, none⟩ (.int .i64 (-1))) 3 gR (ints ((row ++ [-1]) ++ List.replicate (C - (c + 1)) 0)).toArray) := by
            have := hst.set c (.int .i64 (-1))
            rwa [ints_set row C c hrow hlt] at this
          have hk1 : Kept [] [gR] wr (wr.setCell ⟨gR, c, none⟩ (.int .i64 (-1))) := (Kept.refl _ _ _).setCell _ _ (Or.inl (by simp))
          have hb1 : Below B wr (wr.setCell ⟨gR, c, none⟩ (.int .i64 (-1))) := (Below.refl _ _).setCell (p := ⟨gR, c, none⟩) (by show B ≤ gR; omega) _
          have HM1 := Lib.hid (HM.out.far hk1 hb1 (fun x hx h => hgRm (by rw [← List.mem_singleton.1 h]; exact hx)) (fun b e h => own_ne HM.out.nx.own hst (by decide) b e (List.mem_singleton.1 h)) (fun x hx h => HK.out.2.2.2.2 x hx (List.mem_singleton.1 h)))
          have HK1 : Hid (Kept [] (gR :: bs0) V (wr.setCell ⟨gR, c, none⟩ (.int .i64 (-1))) ∧ Below B V (wr.setCell ⟨gR, c, none⟩ (.int .i64 (-1)))) := ⟨HK.out.1.setCell _ _ (Or.inl (by simp)), HK.out.2.1.trans hb1⟩
          have i1 : (c : Int) < (C : Int) := by omega
          obtain ⟨p, hp⟩ : ∃ p, tc.length = p := ⟨_, rfl⟩
          rw [hp] at t0 htl
          have HP := Lib.hid hp
          clear hO hv hglt hst hk1 hb1 hp
          go_upto_region 19 with fail
          generalize wr.setCell ⟨gR, c, none⟩ (.int .i64 (-1)) = W1 at HS1 HM1 HK1 ⊢
          have HB1 : Hid (∀ x ∈ bsA bm gI bM vL' vS' vK', x ∈ bs0 ∨ V.heap.size ≤ x) := HK.out.2.2.1
          have HGS : Hid (∀ x ∈ gs, x ≠ gR) := HK.out.2.2.2.2
          clear e0 e1 t0 HK HM
          by_cases hp0 : p = 0
          · subst hp0
            have HZ : Hid (RowD M (fun c x => FR L (Mv L (fun y => y < M ∧ fs y = true) (rp c)) x) SS (c + 1) (row ++ [-1]) SS') := by
              refine RowD.succ HRw.out (Or.inl ⟨fun x hx h => ?_, rfl, rfl⟩)
              have h1 := congrFun hTC.out x
              have h2 : FR L (fun y => y ∈ tc) x := by
                have e : (FR L (fun y => y ∈ tc) x) = _ := h1
                rw [e]; exact h
              rw [List.length_eq_zero_iff.1 HP.out] at h2
              exact FR.none (fun x h => by simp at h) x h2
            clear hrl hrow htc
            go_wp2_with fail
            go_roundw
            case rel => exact ⟨c + 1, row ++ [-1], SS', ms', D', n', cs', l', vL', vS', vK', by go_num, by omega, HM1, HZ, HK1.out.1, HK1.out.2, HB1.out, HS1.out, HGS.out⟩
            case measure => simp [intOf]; omega
          · have hq0 : (0 : Int) < (p : Int) := by omega
            have hSl : SS'.length ≤ 3256 := by have := HKS.out; omega
            have hn2 : n' ≤ 100000 := by have := HM1.out.hn; omega
            have hll : l'.length ≤ 100000 := by have := HM1.out.a.len; omega
            have hbw1 : Below B w W1 := (HBV.out.mono hB0).trans HK1.out.2
            have HCl := Lib.hid (closeOf_any W1 B (bsA bm gI bM vL' vS' vK') bm gI m M bM bn gM cM gF cF aF cRF L (HN.out.1.below hbw1) HN.out.2.2.2.1 (by omega) cs' mk (HN.out.2.2.1.below hbw1) HN.out.2.2.2.2.1 HM1.out.c0 (by omega) HN.out.2.2.2.2.2.1 _ l' vL' vS' vK' n' SS' ms' D' (by omega) hn2 hll
              aT p cT tc HP.out (by omega) htM.out (fun W hW => HAt.out W (fun g hg hl => by
                have h1 := HK1.out.1 g _ (Array.getElem?_eq_getElem hl) (fun _ _ _ _ => by simp) hg
                rw [Array.getElem?_eq_getElem hl]
                exact hW g _ h1 (fun _ _ _ _ => by simp) (fun hm => by
                  rcases HB1.out _ hm with h | h
                  · exact hg (List.mem_cons_of_mem _ h)
                  · omega))) W1 HM1.out.a.r HM1.out.t HM1.out.inv)
            have h0 : ∃ x, x < M ∧ FR L (fun y => y ∈ tc) x := by
              have hp1 : 0 < tc.length := by rw [HP.out]; omega
              exact ⟨tc[0], htM.out _ (List.getElem_mem hp1), .base (List.getElem_mem hp1)⟩
            have H0 := Lib.hid h0
            have HGRm := Lib.hid hgRm
            clear h0 hbw1 hrl htc hgRm hBw hgTb hn2 hll
            go_wp2_with fail
            refine HCl.out.mono ?_
            rintro e w5 hpost
            obtain ⟨r, SS2, ms2, D2, n2, cs2, l2, vL2, vS2, vK2, rfl, hM2, hAdd, hk2, hB2, hb2⟩ := HM1.out.close hpost H0.out
            have hst5 := HS1.out.kept hk2 (by simp) HGRm.out
            have e0 : w5.cell? ⟨gR, c, none⟩ = some (.int .i64 (-1)) := by rw [hst5.at_, ints_at row C c hrow]
            have e1 := hst5.thaw_ c
            have hgR2 : gR ∉ bsA bm gI bM vL2 vS2 vK2 := fun h => by
              rcases hb2 _ h with h | h
              · exact HGRm.out h
              · have := HS1.out.lt; omega
            have hk3 : Kept [] [gR] w5 (w5.setCell ⟨gR, c, none⟩ (.int .i64 r)) := (Kept.refl _ _ _).setCell _ _ (Or.inl (by simp))
            have hb3 : Below B w5 (w5.setCell ⟨gR, c, none⟩ (.int .i64 r)) := (Below.refl _ _).setCell (p := ⟨gR, c, none⟩) (by show B ≤ gR; omega) _
            have HM3 := Lib.hid (hM2.far hk3 hb3 (fun x hx h => hgR2 (by rw [← List.mem_singleton.1 h]; exact hx)) (fun b e h => own_ne hM2.nx.own hst5 (by decide) b e (List.mem_singleton.1 h)) (fun x hx h => HGS.out x hx (List.mem_singleton.1 h)))
            have hk4 : Kept [] (gR :: bs0) V w5 := fun k o hk ho hn => hk2 k o (HK1.out.1 k o hk ho hn) ho (fun hm => by
              rcases HB1.out _ hm with h | h
              · exact hn (List.mem_cons_of_mem _ h)
              · have := (Array.getElem?_eq_some_iff.1 hk).1; omega)
            have HZ : Hid (Kept [] (gR :: bs0) V (w5.setCell ⟨gR, c, none⟩ (.int .i64 r)) ∧ Below B V (w5.setCell ⟨gR, c, none⟩ (.int .i64 r)) ∧ (∀ x ∈ bsA bm gI bM vL2 vS2 vK2, x ∈ bs0 ∨ V.heap.size ≤ x) ∧ St (w5.setCell ⟨gR, c, none⟩ (.int .i64 r)) 3 gR (ints (row ++ [r] ++ List.replicate (C - (c + 1)) 0)).toArray ∧ ∀ x ∈ gs, x ≠ gR) := by
              refine ⟨hk4.setCell _ _ (Or.inl (by simp)), (HK1.out.2.trans hB2).trans hb3, fun x hx => ?_, ?_, HGS.out⟩
              · rcases hb2 x hx with h | h
                · exact HB1.out x h
                · exact Or.inr (Nat.le_trans HK1.out.2.size h)
              · have := hst5.set c (.int .i64 r)
                rwa [ints_set row C c hrow hlt] at this
            have HZ2 : Hid (RowD M (fun c x => FR L (Mv L (fun y => y < M ∧ fs y = true) (rp c)) x) SS (c + 1) (row ++ [r]) SS2) := by
              refine RowD.succ HRw.out ?_
              rw [hTC.out] at hAdd
              exact hAdd
            clear hpost hM2 hAdd hk2 hB2 hb2 hst5 hgR2 hk3 hb3 hk4 HCl
            go_wp2_with fail
            go_roundw
            case rel => exact ⟨c + 1, row ++ [r], SS2, ms2, D2, n2, cs2, l2, vL2, vS2, vK2, by go_num, by omega, HM3, HZ2, HZ⟩
            case measure => simp [intOf]; omega
        · obtain rfl : c = C := by omega
          obtain ⟨aN, cN, rfl⟩ := ownsRow_slice HM.out.nx.own
          have n0 : wr.cell? ⟨bm, 257, none⟩ = some (.slice aN R.length cN) := by rw [HM.out.a.r.other 257 (by decide), HM.out.cN]
          have hO := HM.out.nx.own
          have hBB := HM.out.a.r.hB
          have HRL : Hid (St wr 3 gR (ints row).toArray) := by
            have := HK.out.2.2.2.1
            show St _ _ _ _
            simpa using this
          obtain ⟨kR, hkR⟩ : ∃ kR, R.length = kR := ⟨_, rfl⟩
          rw [hkR] at n0 hO hR
          have HKR := Lib.hid hkR
          obtain ⟨i9, hi9, hz0, hz1, hz2⟩ := info_parts Try.info_ints
          have HGRm := Lib.hid hgRm
          have HBw := Lib.hid hBw
          clear hkR hrl hgRm hgTb hBw
          go_wp2_with (at_builtin; refine wpList_append_own_at _ rfl _ _ 28 rfl B 25 i9 (.slice none 0 0) 1 24 Try.underlying28 hi9 hz0 hz1 hz2 rfl (by decide) _ _ _ rfl (hO.alloc _) ⟨wr.heap.size, 0, none⟩ 1 1 [.slice (some ⟨gR, 0, none⟩) c c] rfl rfl (cell_one_new _ _ _) ?d2 ?d3 ?d4 ?d5 ?_)
          case d2 => intro u hu; simp at hu; subst hu; rfl
          case d3 => unfold maxLen; omega
          case d4 => omega
          case d5 => simp; omega
          intro v' w5 hown5 hgrow5 _ hat5
          obtain ⟨a5, c5, rfl⟩ := ownsRow_slice hown5
          have h2 := HM.out.keep (al wr (.cells #[.slice (some ⟨gR, 0, none⟩) c c] 25))
          have hown6 := hown5
          rw [← HKR.out] at hown6
          obtain ⟨hF, hFB⟩ := h2.next (HRL.out.keep (al wr _)) HGRm.out (v' := .slice a5 (kR + 1) c5) (by simpa [HKR.out] using hown6) (by rw [HKR.out]; exact hgrow5)
          have hsw5 : St w5 93 bm _ := h2.a.r.sm.grown_own h2.nx.own (by decide) (by rw [HKR.out]; exact hgrow5)
          have p3 : w5.cell? ⟨bm, 257, none⟩ = some (.slice aN kR cN) := by rw [hsw5.at_, Array.getElem?_setIfInBounds_ne (by decide), h2.cN, HKR.out]
          have pf := hsw5.thaw_ 257
          have HFin : Hid (LeadPost B bm gI bM m M c bn K L mk SS R (fun c x => FR L (Mv L (fun y => y < M ∧ fs y = true) (rp c)) x) w (.returned (.tuple #[])) (w5.setCell ⟨bm, 257, none⟩ (.slice a5 (kR + 1) c5))) :=
            ⟨row, SS', ms', D', n', _, l', vL', vS', vK', _, _, rfl, hF, HRw.out, (HBw.out.trans ((al wr _).mono HM.out.a.r.hB)).trans hFB⟩
          clear hown5 hown6 hgrow5 hat5 h2 hsw5 hF hFB hO n0
          go_wp2_with fail
          refine bodyPost_ret (results_none rfl _ _ _) rfl ?_
          exact HFin.out
end Go.Proofs.Ytlnndkilaklifaa
