import Derived.Test.YtohgbkajnhgnaaaZLBfs
import Derived.Test.YtohgbkajnhgnaaaZLPairA
import Derived.Test.YtohgbkajnhgnaaaZPOf
namespace Go.Proofs.Ytohgbkajnhgnaaa
open Go.RowKit Go.Maps Go.WideElems Go.ChangeMaps Go.MapKept
set_option linter.unusedVariables false
set_option linter.unusedSimpArgs false

theorem make_mapW9 (W : World) : (Instr.makeMap 54 none).run Try.prog W = .ok (.map (some W.heap.size)) (W.alloc (.map #[] 0)) := by
  kernel_rfl
theorem way_built (x y : Int) (W : World) : (Instr.build 53 #[(0, .int .i64 x), (1, .int .u8 y)]).run Try.prog W = .ok (.agg #[.int .i64 x, .int .u8 y]) W := by kernel_rfl
theorem way_built0 (x : Int) (W : World) : (Instr.build 53 #[(0, .int .i64 x)]).run Try.prog W = .ok (.agg #[.int .i64 x, .int .u8 0]) W := by kernel_rfl
theorem way_put {w : World} {bM N : Nat} {dom : List Nat} {f : Nat → Int × Nat} (h : MapN w 3 bM N (WyQ dom f)) (hN : N < maxLen) (t : Nat) (ht : t ∉ dom) (hb : t ≤ 1000000) (x : Int × Nat) :
    ∃ w', (Instr.mapUpdate 54 (.map (some bM)) (.int .i64 ((t : Nat) : Int)) (wyv x)).run Try.prog w = .ok () w' ∧ MapN w' 3 bM (N + 1) (WyQ (dom ++ [t]) (fun s => if s = t then x else f s)) ∧ w.grownBy w' (some bM) := by
  refine h.update law_int9 Try.underlying54 hN (int_key9 t (by omega)) ?_ ?_ ?_ ?_
  · rintro y ⟨s, h1, h2, _⟩
    rw [← key_inj9 h2] at h1
    exact ht h1
  · rintro a b ⟨s, h1, h2, h3⟩
    exact ⟨s, List.mem_append_left _ h1, h2, by show b = wyv (if s = t then x else f s); rw [if_neg (fun (e : s = t) => ht (by rw [← e]; exact h1))]; exact h3⟩
  · exact ⟨t, by simp, rfl, by show wyv x = wyv (if t = t then x else f t); rw [if_pos rfl]⟩
  · rintro a b ⟨s, h1, h2, h3⟩ hne
    rcases List.mem_append.1 h1 with h4 | h4
    · exact ⟨wyv (f s), s, h4, h2, rfl⟩
    · have : s = t := by simpa using h4
      exact absurd (by rw [h2, this]) hne
/-- The search, as it lies in memory. -/
structure ShM (W0 : World) (bM : Nat) (mM mT : List Nat) (f : Nat → Int × Nat) (vM : Value) (vL : Value) (lt : List Nat) (w : World) : Prop where
  bel : Below W0.heap.size W0 w
  map : MapN w 3 bM mM.length (WyQ mM f)
  row : w.ownsRow W0.heap.size 3 1 vM mT.length (nums64 mT)
  lets : w.ownsRow W0.heap.size 5 1 vL lt.length (u8s lt)
  loM : W0.heap.size ≤ bM
section
variable {W0 w w' : World} {bM : Nat} {mM mT : List Nat} {f : Nat → Int × Nat} {vM vL : Value} {lt : List Nat}
theorem ShM.keep (h : ShM W0 bM mM mT f vM vL lt w) (k : Below w.heap.size w w') : ShM W0 bM mM mT f vM vL lt w' :=
  ⟨h.bel.trans (k.mono h.bel.size), h.map.same (k.block _ h.map.lt), ownsRow_keep h.row k, ownsRow_keep h.lets k, h.loM⟩
theorem ShM.put (h : ShM W0 bM mM mT f vM vL lt w) (hN : mM.length < maxLen) (t : Nat) (ht : t ∉ mM) (hb : t ≤ 1000000) (x : Int × Nat) :
    ∃ w', (Instr.mapUpdate 54 (.map (some bM)) (.int .i64 ((t : Nat) : Int)) (wyv x)).run Try.prog w = .ok () w' ∧ ShM W0 bM (mM ++ [t]) mT (fun s => if s = t then x else f s) vM vL lt w' := by
  obtain ⟨w', h1, h2, hg⟩ := way_put h.map hN t ht hb x
  have hmo := h.map.ex.of
  exact ⟨w', h1, h.bel.grown hg h.bel.size (fun g e => by injection e with e; rw [← e]; exact h.loM), by rw [List.length_append]; exact h2, own_grown_map h.row hmo hg, own_grown_map h.lets hmo hg, h.loM⟩
theorem ShM.push {vM' : Value} {t : Nat} (h : ShM W0 bM mM mT f vM vL lt w) (ho : w'.ownsRow W0.heap.size 3 1 vM' (mT.length + 1) (nums64 mT ++ [.int .i64 ((t : Nat) : Int)])) (hg : w.grownBy w' vM.ownBlock) : ShM W0 bM mM (mT ++ [t]) f vM' vL lt w' := by
  refine ⟨below_grown_own h.bel h.row h.bel.size hg, h.map.grown_own h.row hg, ?_, own_grown h.lets hg (fun b e e2 => own_kinds h.lets h.row (by decide) b e e2.symm), h.loM⟩
  rw [List.length_append]
  simpa [nums64] using ho
theorem ShM.at_ (h : ShM W0 bM mM mT f vM vL lt w) {i x : Nat} (hi : mT[i]? = some x) : ∃ g c, vM = .slice (some ⟨g, 0, none⟩) mT.length c ∧ w.cell? ⟨g, i, none⟩ = some (.int .i64 ((x : Nat) : Int)) := by
  obtain ⟨a, c, rfl⟩ := ownsRow_slice h.row
  have hil := (List.getElem?_eq_some_iff.1 hi).1
  obtain ⟨g, rfl, _, _, hc⟩ := ownsRow_read h.row (by omega)
  refine ⟨g, c, rfl, ?_⟩
  rw [(hc i (by omega)).1]
  simp [nums64, hi]
theorem ShM.let_ (h : ShM W0 bM mM mT f vM vL lt w) {i : Nat} (hi : i < lt.length) : ∃ g c, vL = .slice (some ⟨g, 0, none⟩) lt.length c ∧ w.cell? ⟨g, i, none⟩ = some (.int .u8 ((lt.getD i 0 : Nat) : Int)) := by
  obtain ⟨a, c, rfl⟩ := ownsRow_slice h.lets
  obtain ⟨g, rfl, _, _, hc⟩ := ownsRow_read h.lets (by omega)
  refine ⟨g, c, rfl, ?_⟩
  rw [(hc i (by omega)).1, u8s_at (List.getElem?_eq_getElem hi), List.getD_eq_getElem?_getD, List.getElem?_eq_getElem hi]
  rfl
theorem ShM.start {w : World} {aL : Option Addr} {cL : Nat} {lt : List Nat} (W0 : World) (hB : Below W0.heap.size W0 w) (hM : MapN w 3 bM 1 (WyQ [0] (fun _ => (-1, 0)))) (hl : w.ownsRow W0.heap.size 5 1 (.slice aL lt.length cL) lt.length (u8s lt)) (hlo : W0.heap.size ≤ bM) :
    ShM W0 bM [0] [0] (fun _ => (-1, 0)) (.slice (some ⟨w.heap.size, 0, none⟩) 1 1) (.slice aL lt.length cL) lt (w.alloc (.cells #[.int .i64 0] 3)) := by
  have k := al w (.cells #[.int .i64 0] 3)
  refine ⟨hB.trans (k.mono hB.size), hM.same (k.block _ hM.lt), ?_, ownsRow_keep hl k, hlo⟩
  have h := made_own w W0.heap.size 1 3 (.int .i64 0) hB.size (by unfold maxLen; omega)
  have e : madeCells #[Value.int .i64 0] 1 = #[.int .i64 0] := by first | rfl | kernel_rfl
  rw [e] at h
  exact h
end
end Go.Proofs.Ytohgbkajnhgnaaa

namespace Go.Proofs.Ytohgbkajnhgnaaa
open Go.RowKit Go.Maps Go.WideElems Go.ChangeMaps Go.MapKept
set_option linter.unusedVariables false
set_option linter.unusedSimpArgs false

/-- The answer of shortest. -/
def ShoP (D : Dd) (w : World) (e : Ending) (w' : World) : Prop :=
  ((∃ l, e = .returned (.tuple #[.string (strOf l), .bool true]) ∧ ShoF D l ∧ l.length ≤ D.n) ∨ (e = .returned (.tuple #[.string ⟨#[]⟩, .bool false]) ∧ ∀ l : List Nat, (∀ b ∈ l, b < 256) → ¬ 0 ≤ markF D (runL D l))) ∧ Below w.heap.size w w'
/-- What is so at the loop. -/
def ShO (W0 : World) (D : Dd) (bM : Nat) (g : Nat → Nat) (vL : Value) (i q : Nat) (vM : Value) (w : World) : Prop :=
  ∃ (met : List Nat) (f : Nat → Int × Nat) (dp : Nat → Nat), met.length = q ∧ BfI D met f dp i ∧ i ≤ q ∧ (∀ y, met[i]? = some y → ∀ s ∈ met, dp s ≤ dp y + 1) ∧ ShM W0 bM met met f vM vL (rpl g 256) w
def ShJ (W0 : World) (D : Dd) (bM : Nat) (g : Nat → Nat) (vL : Value) (i x k q : Nat) (vM : Value) (w : World) : Prop :=
  ∃ (met : List Nat) (f : Nat → Int × Nat) (dp : Nat → Nat), met.length = q ∧ BfJ D (rpl g 256) met f dp i x k ∧ ShM W0 bM met met f vM vL (rpl g 256) w

set_option maxHeartbeats 2000000 in
set_option maxRecDepth 100000 in
theorem short_any (D : Dd) (C : Nat) (hR : DR D C) (hn : D.n ≤ 2000) (w : World) (hD : DM w D) :
    Calls Try.prog 19 #[.agg D.cD] w (ShoP D w) := by
  have hmm := make_mapW9
  obtain ⟨iI, hI, hI0, hI1, hI2⟩ := info_parts Try.info_int9
  have HR := Lib.hid (And.intro hR hn)
  have kb := al w (.cells D.cD 26)
  have HB : Hid (DBx (w.alloc (.cells D.cD 26)) w.heap.size D ∧ Below w.heap.size w (w.alloc (.cells D.cD 26))) := ⟨DBx.new hD, kb⟩
  clear kb hR hn hD
  go_enter Try.func19, Try.ntmps19
  go_upto_region 1 with fail
  generalize w.alloc (.cells D.cD 26) = W1 at HB ⊢
  obtain ⟨b0, hb0⟩ : ∃ b0, w.heap.size = b0 := ⟨_, rfl⟩
  have Hb0 := Lib.hid hb0
  rw [hb0] at HB
  rw [hb0]
  clear hb0
  have HCo := Lib.hid (common_any D.K D.K HB.out.1.dm.kl HB.out.1.dm.kl W1)
  go_wp2_with (refine wpList_load_any9 (by rfl) 22 _ rfl ⟨b0, 0, none⟩ rfl (clsOf D.K) _ HB.out.1.clsPart Try.underlying22 rfl (clsOf_info D.K) ?_)
  refine HCo.out.mono ?_
  rintro e w2 ⟨g, m, aL, cL, rfl, hown, hnum, hbel⟩
  have hgm := hnum.rpl_all
  have HN := Lib.hid (And.intro hnum hgm)
  have H2 : Hid (DBx w2 b0 D ∧ Below b0 w w2 ∧ Below W1.heap.size W1 w2 ∧ w2.ownsRow W1.heap.size 5 1 (.slice aL m cL) m (u8s (rpl g 256))) := ⟨HB.out.1.keep hbel, HB.out.2.trans (hbel.mono (by have := HB.out.2.size; have := Hb0.out; omega)), hbel, hown⟩
  clear HCo hown hnum hbel hgm
  go_upto_region 2 with (first | (refine wpList_alloc9 rfl 22 rfl (zC 22) (zCls_run _) ?_) | (refine wpList_store_var9 rfl 22 _ _ rfl w2.heap.size 22 (zC 22) (clsOf g) rfl rfl (St.new _ _ _) (by rw [zCls_eq, clsOf_size, clsOf_size]) (clsOf_info g) (clsOf_one _) ?_))
  have k3 : Below w2.heap.size w2 ((w2.alloc (.cells (zC 22) 22)).setRow w2.heap.size (clsOf g)) := below_setRow9 (al w2 _) (Nat.le_refl _) _
  have H3 : Hid (Below b0 w ((w2.alloc (.cells (zC 22) 22)).setRow w2.heap.size (clsOf g)) ∧ Below W1.heap.size W1 ((w2.alloc (.cells (zC 22) 22)).setRow w2.heap.size (clsOf g)) ∧ ((w2.alloc (.cells (zC 22) 22)).setRow w2.heap.size (clsOf g)).ownsRow W1.heap.size 5 1 (.slice aL m cL) m (u8s (rpl g 256))) :=
    ⟨H2.out.2.1.trans (k3.mono (by have := H2.out.2.1.size; have := Hb0.out; omega)), H2.out.2.2.1.trans (k3.mono H2.out.2.2.1.size), ownsRow_keep H2.out.2.2.2 k3⟩
  clear k3 H2
  obtain ⟨p4, hp4⟩ : ∃ p4, w2.heap.size = p4 := ⟨_, rfl⟩
  generalize (w2.alloc (.cells (zC 22) 22)).setRow w2.heap.size (clsOf g) = W3 at H3 ⊢
  rw [hp4]
  clear hp4
  have hMp : MapN (W3.alloc (.map #[] 0)) 3 W3.heap.size 0 (WyQ [] (fun _ => (-1, 0))) := MapN.made _ _ _ (fun x y h => by
    obtain ⟨s, h1, _⟩ := h
    simp at h1)
  obtain ⟨w5, hup, hM5, hg5⟩ := way_put hMp (by unfold maxLen; omega) 0 (by simp) (by omega) (-1, 0)
  have hup2 : (Instr.mapUpdate 54 (.map (some W3.heap.size)) (.int .i64 0) (.agg #[.int .i64 (-1), .int .u8 0])).run Try.prog (W3.alloc (.map #[] 0)) = .ok () w5 := hup
  have hM5' : MapN w5 3 W3.heap.size 1 (WyQ [0] (fun _ => (-1, 0))) := by
    have e : (fun s : Nat => if s = 0 then ((-1 : Int), 0) else (-1, 0)) = fun _ => (-1, 0) := by
      funext s
      split <;> rfl
    rw [e] at hM5
    exact hM5
  have kmp := al W3 (.map #[] 0)
  have hB5 : Below W1.heap.size W1 w5 := (H3.out.2.1.trans (kmp.mono H3.out.2.1.size)).grown hg5 (by have := H3.out.2.1.size; simp; omega) (fun g e => by injection e with e; rw [← e]; exact H3.out.2.1.size)
  have hO5 : w5.ownsRow W1.heap.size 5 1 (.slice aL m cL) m (u8s (rpl g 256)) := own_grown_map (ownsRow_keep H3.out.2.2 kmp) hMp.ex.of hg5
  have hWs : W1.heap.size ≤ W3.heap.size := H3.out.2.1.size
  have HO : Hid (ShO W1 D W3.heap.size g (.slice aL m cL) 0 1 (.slice (some ⟨w5.heap.size, 0, none⟩) 1 1) (w5.alloc (.cells #[.int .i64 0] 3))) := by
    refine ⟨[0], _, _, rfl, BfI.start HR.out.1.n1, by omega, fun y _ s _ => Nat.zero_le _, ?_⟩
    have := ShM.start (bM := W3.heap.size) (lt := rpl g 256) (aL := aL) (cL := cL) W1 hB5 hM5' (by rw [HN.out.2]; exact hO5) hWs
    rw [HN.out.2] at this
    exact this
  clear hMp hup hM5 hM5' hg5 kmp hB5 hO5 hWs H3
  go_wp2_with (refine wpList_build9 rfl 53 _ rfl #[(0, .int .i64 (-1))] (by first | rfl | kernel_rfl | (go_simp; done)) (.agg #[.int .i64 (-1), .int .u8 0]) (way_built0 (-1) _) ?_)
  clear hup2
  generalize w5.alloc (.cells #[.int .i64 0] 3) = W6 at HO ⊢
  obtain ⟨bM, hbM⟩ : ∃ bM, W3.heap.size = bM := ⟨_, rfl⟩
  obtain ⟨g7, hg7⟩ : ∃ g7, w5.heap.size = g7 := ⟨_, rfl⟩
  rw [hbM, hg7] at HO
  rw [hbM, hg7]
  clear hbM hg7
  go_loopw [7, 8] (fun v7 v8 wq => ∃ (i q : Nat) (aM : Option Addr) (cM : Nat), v7 = .slice aM q cM ∧ v8 = .int .i64 i ∧ i ≤ 2000 ∧ Hid (ShO W1 D bM g (.slice aL m cL) i q (.slice aM q cM) wq)) (fun _ v8 _ => 2001 - (intOf v8).toNat)
  case atStart => exact ⟨0, 1, _, _, rfl, rfl, by omega, HO⟩
  case round =>
    clear HO
    obtain ⟨i, q, aM, cM, rfl, rfl, hi2, HA⟩ := hrel
    obtain ⟨met, f, dp, hq, hBf, hiq, hcap, hM⟩ := HA.out
    clear HA
    have hqn : q ≤ D.n := by rw [← hq]; exact nodup_below hBf.nod hBf.rng
    have hn2 := HR.out.2
    have HK := Lib.hid (And.intro hq (And.intro hBf (And.intro hiq hcap)))
    have HM := Lib.hid hM
    by_cases hlt : i < q
    · have i0 : (i : Int) < (q : Int) := by omega
      obtain ⟨x, hx⟩ : ∃ x, met[i]? = some x := ⟨_, List.getElem?_eq_getElem (by omega)⟩
      obtain ⟨gA, cA, eA, hcx⟩ := hM.at_ hx
      rw [hq] at eA
      injection eA with eA _ eC
      subst eA eC
      have hbx := HB.out.1.keep hM.bel
      have HX := Lib.hid hx
      have hxn := hBf.rng x (List.mem_of_getElem? hx)
      have HBx := Lib.hid hbx
      have HMk := Lib.hid (dmark_any D C HR.out.1 (x : Int) wr hbx.dm)
      have HD := Lib.hid (fun (hm : 0 ≤ markF D (x : Int)) => hBf.found hx hm)
      clear hq hBf hiq hcap hM hx hbx
      go_wp2_with (refine wpList_load_any9 (by rfl) 26 _ rfl ⟨b0, 0, none⟩ rfl D.cD _ HBx.out.st.part Try.underlying26 rfl HBx.out.dm.info ?_)
      refine HMk.out.mono ?_
      rintro e w7 ⟨rfl, k7⟩
      have HM7 := Lib.hid (HM.out.keep k7)
      obtain ⟨mk, hmk⟩ : ∃ mk, markF D (x : Int) = mk := ⟨_, rfl⟩
      have HMx := Lib.hid hmk
      rw [hmk]
      clear k7 HMk HBx hmk hcx
      by_cases hm0 : 0 ≤ mk
      · obtain ⟨l, hp, hll, hSh⟩ := HD.out (by rw [HMx.out]; exact hm0)
        have HSp := Lib.hid (spelled_any f met (fun s hs => by have := HK.out.2.1.rng s hs; omega) bM met.length w7 HM7.out.map x l hp (by have := HK.out.1; omega))
        have HSh : Hid (ShoF D l ∧ l.length ≤ D.n) := ⟨hSh, by have := HK.out.1; omega⟩
        clear hp hll hSh
        go_wp2_with fail
        refine HSp.out.mono ?_
        rintro e w8 ⟨rfl, k8⟩
        have HF : Hid (ShoP D w (.returned (.tuple #[.string (strOf l), .bool true])) w8) := by
          refine ⟨Or.inl ⟨l, rfl, HSh.out.1, HSh.out.2⟩, ?_⟩
          have h1 := HM7.out.bel
          have h2 := h1.trans (k8.mono h1.size)
          exact (by rw [Hb0.out]; exact HB.out.2 : Below w.heap.size w W1).trans (h2.mono (by have := HB.out.2.size; omega))
        clear k8 HSp
        go_wp2_with fail
        go_ret2
        exact HF.out
      · have HJ : Hid (ShJ W1 D bM g (.slice aL m cL) i x 0 q (.slice (some ⟨gA, 0, none⟩) q cM) w7) := ⟨met, f, dp, HK.out.1, HK.out.2.1.tries HX.out (HK.out.2.2.2 x HX.out), HM7.out⟩
        have HMx2 : Hid (markF D (x : Int) < 0) := by rw [HMx.out]; exact Int.not_le.1 hm0
        clear HK HM HM7 HX HD HMx
        go_wp2_with fail
        go_loopw [7, 11, 12, 13, 14, 46] (fun v7 _ _ _ _ v46 wq => ∃ (k q : Nat) (aM : Option Addr) (cM : Nat), v7 = .slice aM q cM ∧ v46 = .int .i64 k ∧ k ≤ m ∧ Hid (ShJ W1 D bM g (.slice aL m cL) i x k q (.slice aM q cM) wq)) (fun _ _ _ _ _ v46 _ => m - (intOf v46).toNat)
        case atStart => exact ⟨0, q, _, _, rfl, rfl, by omega, HJ⟩
        case round =>
          clear HJ
          obtain ⟨k, q, aM, cM, rfl, rfl, hk, HA⟩ := hrel
          obtain ⟨met, f, dp, hq, hBj, hM⟩ := HA.out
          clear HA
          have hqn : q ≤ D.n := by rw [← hq]; exact nodup_below hBj.o.nod hBj.o.rng
          have HK := Lib.hid (And.intro hq hBj)
          have HM := Lib.hid hM
          by_cases hlk : k < m
          · have i1 : (k : Int) < (m : Int) := by omega
            have hm6 : m ≤ 256 := by rw [← HN.out.2]; exact rpl_len g 256
            obtain ⟨gL, cL', eL, hcl⟩ := hM.let_ (i := k) (by rw [HN.out.2]; exact hlk)
            rw [HN.out.2] at eL
            injection eL with eL _ eC
            subst eL eC
            obtain ⟨b, hb⟩ : ∃ b, (rpl g 256).getD k 0 = b := ⟨_, rfl⟩
            have hb2 : b < 256 := by rw [← hb]; exact num_lt HN.out.1 k hlk
            rw [hb] at hcl
            have Hbb := Lib.hid hb
            have hbx := HB.out.1.keep hM.bel
            have HBx := Lib.hid hbx
            have HSt := Lib.hid (dstep_any D C HR.out.1 (x : Int) b hb2 wr hbx.dm)
            have hbd := stepF_bd HR.out.1 (x : Int) hb2
            clear hq hBj hM hbx hb
            go_wp2_with (refine wpList_load_any9 (by rfl) 26 _ rfl ⟨b0, 0, none⟩ rfl D.cD _ HBx.out.st.part Try.underlying26 rfl HBx.out.dm.info ?_)
            refine HSt.out.mono ?_
            rintro e w8 ⟨rfl, k8⟩
            have HM8 := Lib.hid (HM.out.keep k8)
            have hlk8 := way_look2 HM8.out.map (stepF D (x : Int) b) (by omega)
            obtain ⟨tz, hto⟩ : ∃ tz, stepF D (x : Int) b = tz := ⟨_, rfl⟩
            have Hto := Lib.hid hto
            rw [hto] at hlk8 hbd
            rw [hto]
            clear k8 HSt HBx hto HM hcl
            rcases hlk8 with ⟨s, hts, hsm, hrun⟩ | ⟨hno, hrun⟩
            · subst hts
              have HJn : Hid (∀ W', Below w8.heap.size w8 W' → ShJ W1 D bM g (.slice (some ⟨gL, 0, none⟩) m cL) i x (k + 1) q (.slice aM q cM) W') := fun W' hW => ⟨met, f, dp, HK.out.1, HK.out.2.old (Or.inr ⟨s, by rw [Hbb.out]; exact Hto.out, hsm⟩), HM8.out.keep hW⟩
              have hne : ((s : Int) != (-1 : Int)) = true := by first | (simp; done) | (simp; omega)
              unfold wyv at hrun
              have HWn := Lib.hid (HJn.out _ (al w8 (.cells #[.int .i64 (f s).1, .int .u8 (((f s).2 : Nat) : Int)] 53)))
              clear hsm
              go_wp2_with fail
              go_roundw
              case rel => exact ⟨k + 1, q, aM, cM, rfl, by go_num, by omega, HWn⟩
              case measure => simp [intOf]; omega
            · unfold wyv at hrun
              have k9 := al w8 (.cells #[.int .i64 0, .int .u8 0] 53)
              have HM9 := Lib.hid (HM8.out.keep k9)
              clear k9
              by_cases hd : tz = -1
              · subst hd
                have HJn : Hid (ShJ W1 D bM g (.slice (some ⟨gL, 0, none⟩) m cL) i x (k + 1) q (.slice aM q cM) (w8.alloc (.cells #[.int .i64 0, .int .u8 0] 53))) := ⟨met, f, dp, HK.out.1, HK.out.2.old (Or.inl (by rw [Hbb.out]; exact Hto.out)), HM9.out⟩
                clear hno
                go_wp2_with fail
                go_roundw
                case rel => exact ⟨k + 1, q, aM, cM, rfl, by go_num, by omega, HJn⟩
                case measure => simp [intOf]; omega
              · obtain ⟨t, rfl⟩ : ∃ t : Nat, tz = (t : Int) := ⟨tz.toNat, by omega⟩
                have hne : ((t : Int) != (-1 : Int)) = true := by first | (simp; done) | (simp; omega)
                have htm : t ∉ met := hno t rfl
                have HBn := Lib.hid (HK.out.2.new (by rw [Hbb.out]; exact hb2) (by rw [Hbb.out]; exact Hto.out) (by omega) htm)
                rw [Hbb.out] at HBn
                obtain ⟨w10, hup, hM10⟩ := HM9.out.put (by have := HK.out.1; unfold maxLen; omega) t htm (by omega) ((x : Int), b)
                unfold wyv at hup
                have HM10 := Lib.hid hM10
                clear hno hM10 htm
                go_upto_region 16 with fail
                clear hrun
                generalize w8.alloc (.cells #[.int .i64 0, .int .u8 0] 53) = W9 at HM9 hup ⊢
                go_upto_region 17 with (refine wpList_build9 rfl 53 _ rfl #[(0, .int .i64 (x : Int)), (1, .int .u8 ((b : Nat) : Int))] (by first | rfl | kernel_rfl | (go_simp; done)) (.agg #[.int .i64 (x : Int), .int .u8 ((b : Nat) : Int)]) (way_built (x : Int) ((b : Nat) : Int) _) ?_)
                clear hup
                have k11 := al w10 (.cells #[.int .i64 ((t : Nat) : Int)] 3)
                have HM11 := Lib.hid (HM10.out.keep k11)
                have hO11 := HM11.out.row
                rw [HK.out.1] at hO11
                have hlo := HM11.out.bel.size
                clear k11
                go_wp2_with (at_builtin; refine wpList_append_own_at _ rfl _ _ 24 rfl W1.heap.size 3 iI (.int .i64 0) 1 8 Try.underlying24 hI hI0 hI1 hI2 rfl (by decide) _ _ _ rfl hO11 ⟨w10.heap.size, 0, none⟩ 1 1 [.int .i64 ((t : Nat) : Int)] rfl rfl (cell_one_new _ _ _) ?d2 ?d3 ?d4 ?d5 ?_)
                case d2 => first | (intro u hu; simp at hu; subst hu; rfl) | rfl
                case d3 => unfold maxLen; omega
                case d4 => omega
                case d5 => first | (simp; omega) | omega
                intro v' w12 hown hgrow _ hat
                obtain ⟨a5, c5, rfl⟩ := ownsRow_slice hown
                have HJn : Hid (ShJ W1 D bM g (.slice (some ⟨gL, 0, none⟩) m cL) i x (k + 1) (q + 1) (.slice a5 (q + 1) c5) w12) := ⟨met ++ [t], _, _, by rw [List.length_append, HK.out.1]; rfl, HBn.out, HM11.out.push (by rw [HK.out.1]; exact hown) hgrow⟩
                clear hown hgrow hat hO11
                go_wp2_with fail
                go_roundw
                case rel => exact ⟨k + 1, q + 1, a5, c5, rfl, by go_num, by omega, HJn⟩
                case measure => simp [intOf]; omega
          · obtain rfl : k = m := by omega
            have hnx := hBj.next HN.out.1 HMx2.out
            have HOn : Hid (ShO W1 D bM g (.slice aL k cL) (i + 1) q (.slice aM q cM) wr) := ⟨met, f, dp, hq, hnx.1, by have := (List.getElem?_eq_some_iff.1 hBj.at_).1; omega, hnx.2, hM⟩
            clear hq hBj hM hnx
            go_wp2_with fail
            go_roundw
            case rel => exact ⟨i + 1, q, aM, cM, rfl, by go_num, by omega, HOn⟩
            case measure => simp [intOf]; omega
    · obtain rfl : i = q := by omega
      have HF : Hid (ShoP D w (.returned (.tuple #[.string ⟨#[]⟩, .bool false])) wr) := by
        refine ⟨Or.inr ⟨rfl, BfI.none (by rw [hq]; exact hBf)⟩, ?_⟩
        exact (by rw [Hb0.out]; exact HB.out.2 : Below w.heap.size w W1).trans (hM.bel.mono (by have := HB.out.2.size; omega))
      clear hq hBf hcap hM
      go_wp2_with fail
      go_ret2
      exact HF.out
end Go.Proofs.Ytohgbkajnhgnaaa

namespace Go.Proofs.Ytohgbkajnhgnaaa
open Go.RowKit Go.Maps Go.WideElems Go.ChangeMaps Go.MapKept
set_option linter.unusedVariables false
set_option linter.unusedSimpArgs false

/-- Whether a text is accepted of which two automata decide. -/
def togL (how : Int) (A B : Dd) (l : List Nat) : Bool := togF how (decide (0 ≤ markF A (runL A l))) (decide (0 ≤ markF B (runL B l)))
theorem PairL.list {how : Int} {A B P : Dd} (h : PairL how A B P) (l : List Nat) (hl : ∀ b ∈ l, b < 256) : 0 ≤ markF P (runL P l) ↔ togL how A B l = true := by
  unfold togL
  rw [runL_runF, runL_runF, runL_runF]
  refine h (fun j => l.getD j 0) (fun j => ?_) l.length
  show l.getD j 0 < 256
  rw [List.getD_eq_getElem?_getD]
  by_cases hj : j < l.length
  · rw [List.getElem?_eq_getElem hj]
    exact hl _ (List.getElem_mem hj)
  · rw [List.getElem?_eq_none (by omega)]
    decide

set_option maxHeartbeats 1000000 in
set_option maxRecDepth 100000 in
theorem shortest_any (D : Dd) (C : Nat) (hR : DR D C) (hn : D.n ≤ 2000) (w : World) (hD : DM w D) :
    Calls Try.prog 10 #[.agg D.cD] w (ShoP D w) := by
  have HR := Lib.hid (And.intro hR hn)
  have kb := al w (.cells D.cD 26)
  have HB : Hid (DBx (w.alloc (.cells D.cD 26)) w.heap.size D ∧ Below w.heap.size w (w.alloc (.cells D.cD 26))) := ⟨DBx.new hD, kb⟩
  clear kb hR hn hD
  go_enter Try.func10, Try.ntmps10
  go_upto_region 1 with fail
  generalize w.alloc (.cells D.cD 26) = W1 at HB ⊢
  obtain ⟨b0, hb0⟩ : ∃ b0, w.heap.size = b0 := ⟨_, rfl⟩
  have Hb0 := Lib.hid hb0
  rw [hb0] at HB
  rw [hb0]
  clear hb0
  have HRy := Lib.hid (right_yes D C HR.out.1 W1 HB.out.1.dm)
  go_wp2_with (refine wpList_load_any9 (by rfl) 26 _ rfl ⟨b0, 0, none⟩ rfl D.cD _ HB.out.1.st.part Try.underlying26 rfl HB.out.1.dm.info ?_)
  refine HRy.out.mono ?_
  rintro e w2 ⟨rfl, k2⟩
  have H2 : Hid (DBx w2 b0 D ∧ Below b0 w w2) := ⟨HB.out.1.keep k2, HB.out.2.trans (k2.mono (by have := HB.out.2.size; have := Hb0.out; omega))⟩
  clear HRy k2 HB
  have HSh := Lib.hid (short_any D C HR.out.1 HR.out.2 w2 H2.out.1.dm)
  go_wp2_with (refine wpList_load_any9 (by rfl) 26 _ rfl ⟨b0, 0, none⟩ rfl D.cD _ H2.out.1.st.part Try.underlying26 rfl H2.out.1.dm.info ?_)
  refine HSh.out.mono ?_
  rintro e w3 ⟨hcase, k3⟩
  have HF : Hid (Below w.heap.size w w3) := by
    have h := H2.out.2
    have hz := h.size
    rw [Hb0.out]
    exact h.trans (k3.mono (by have := Hb0.out; omega))
  clear HSh k3
  rcases hcase with ⟨l, rfl, h1, h2⟩ | ⟨rfl, h1⟩
  · have H1 := Lib.hid (And.intro h1 h2)
    clear h1 h2
    go_wp2_with fail
    go_ret2
    exact ⟨Or.inl ⟨l, rfl, H1.out.1, H1.out.2⟩, HF.out⟩
  · have H1 := Lib.hid h1
    clear h1
    go_wp2_with fail
    go_ret2
    exact ⟨Or.inr ⟨rfl, fun l hl => Int.not_le.2 (H1.out l hl)⟩, HF.out⟩
/-- The answer of Equal, and of Within. -/
def EqP (how : Int) (A B : Dd) (w : World) (e : Ending) (w' : World) : Prop :=
  ((e = .returned (.tuple #[.bool true, .string ⟨#[]⟩, .int .i64 0]) ∧ ∀ l : List Nat, (∀ b ∈ l, b < 256) → togL how A B l = false) ∨
   (∃ l : List Nat, e = .returned (.tuple #[.bool false, .string (strOf l), .int .i64 0]) ∧ (∀ b ∈ l, b < 256) ∧ l.length ≤ 2000 ∧ togL how A B l = true)) ∧ Below w.heap.size w w'

set_option maxHeartbeats 1000000 in
set_option maxRecDepth 100000 in
theorem none_any (how : Int) (h0 : 0 ≤ how) (h3 : how ≤ 3) (A B : Dd) (CA CB : Nat) (hA : DR A CA) (hB : DR B CB) (hab : (A.n + 1) * (B.n + 1) ≤ 2000) (w : World) (hdA : DM w A) (hdB : DM w B) :
    Calls Try.prog 15 #[.int .i64 how, .agg A.cD, .agg B.cD] w (EqP how A B w) := by
  have HAB := Lib.hid (And.intro hA (And.intro hB hab))
  have k0 := al w (.cells A.cD 26)
  have k1 := al (w.alloc (.cells A.cD 26)) (.cells B.cD 26)
  have HB : Hid (DBx ((w.alloc (.cells A.cD 26)).alloc (.cells B.cD 26)) w.heap.size A ∧ DBx ((w.alloc (.cells A.cD 26)).alloc (.cells B.cD 26)) (w.heap.size + 1) B ∧ Below w.heap.size w ((w.alloc (.cells A.cD 26)).alloc (.cells B.cD 26))) := by
    refine ⟨(DBx.new hdA).keep k1, ?_, k0.trans (k1.mono k0.size)⟩
    have := DBx.new (hdB.below k0)
    simpa using this
  clear k0 k1 hdA hdB hA hB hab
  go_enter Try.func15, Try.ntmps15
  go_upto_region 1 with fail
  generalize (w.alloc (.cells A.cD 26)).alloc (.cells B.cD 26) = W1 at HB ⊢
  obtain ⟨b1, hb1⟩ : ∃ b1, w.heap.size + 1 = b1 := ⟨_, rfl⟩
  obtain ⟨b0, hb0⟩ : ∃ b0, w.heap.size = b0 := ⟨_, rfl⟩
  rw [hb1, hb0] at HB
  rw [hb1, hb0]
  have Hb := Lib.hid (And.intro hb0 hb1)
  clear hb0 hb1
  have HPr := Lib.hid (pair_any how h0 h3 A B CA CB HAB.out.1 HAB.out.2.1 HAB.out.2.2 W1 HB.out.1.dm HB.out.2.1.dm)
  go_wp2_with (first | (refine wpList_load_any9 (by rfl) 26 _ rfl ⟨b0, 0, none⟩ rfl A.cD _ HB.out.1.st.part Try.underlying26 rfl HB.out.1.dm.info ?_) | (refine wpList_load_any9 (by rfl) 26 _ rfl ⟨b1, 0, none⟩ rfl B.cD _ HB.out.2.1.st.part Try.underlying26 rfl HB.out.2.1.dm.info ?_))
  refine HPr.out.mono ?_
  rintro e w2 ⟨P, C, rfl, hdP, hRP, hnP, hLP, k2⟩
  have HSt : Hid (St (w2.alloc (.cells (zC 26) 26)) 26 w2.heap.size (zC 26)) := St.new _ _ _
  have HDP := Lib.hid hdP
  have hbx : DBx ((w2.alloc (.cells (zC 26) 26)).setRow w2.heap.size P.cD) w2.heap.size P := DBx.stored hRP (hdP.below (al w2 _)) HSt.out
  have HP2 : Hid (DBx ((w2.alloc (.cells (zC 26) 26)).setRow w2.heap.size P.cD) w2.heap.size P ∧ Below b0 w ((w2.alloc (.cells (zC 26) 26)).setRow w2.heap.size P.cD)) := by
    have h := HB.out.2.2
    have hz := h.size
    have hz2 := k2.size
    have h9 := Hb.out.1
    refine ⟨hbx, below_setRow9 ((h.trans (k2.mono (by omega))).trans ((al w2 _).mono (by omega))) (by omega) _⟩
  have HPL := Lib.hid (And.intro hRP (And.intro hnP hLP))
  clear HPr hdP hRP hnP hLP k2 hbx
  go_upto_region 2 with (first | (refine wpList_alloc9 rfl 26 rfl (zC 26) (zero_run9 _) ?_) | (refine wpList_store_var9 rfl 26 _ _ rfl w2.heap.size 26 (zC 26) P.cD rfl rfl HSt.out (by rw [zDfa_size, HDP.out.sz]) (by rw [info_dfa9, HDP.out.sz]) HDP.out.one ?_))
  clear HSt HDP
  obtain ⟨b9, hb9⟩ : ∃ b9, w2.heap.size = b9 := ⟨_, rfl⟩
  generalize (w2.alloc (.cells (zC 26) 26)).setRow w2.heap.size P.cD = W3 at HP2 ⊢
  rw [hb9] at HP2
  rw [hb9]
  clear hb9
  have HSh := Lib.hid (shortest_any P C HPL.out.1 HPL.out.2.1 W3 HP2.out.1.dm)
  go_wp2_with (refine wpList_load_any9 (by rfl) 26 _ rfl ⟨b9, 0, none⟩ rfl P.cD _ HP2.out.1.st.part Try.underlying26 rfl HP2.out.1.dm.info ?_)
  refine HSh.out.mono ?_
  rintro e w4 ⟨hcase, k4⟩
  have HF : Hid (Below w.heap.size w w4) := by
    have h := HP2.out.2
    have hz := h.size
    rw [Hb.out.1]
    exact h.trans (k4.mono (by have := Hb.out.1; omega))
  clear HSh k4
  rcases hcase with ⟨l, rfl, h1, h2⟩ | ⟨rfl, h1⟩
  · have H1 : Hid ((∀ b ∈ l, b < 256) ∧ l.length ≤ 2000 ∧ togL how A B l = true) := ⟨h1.1, Nat.le_trans h2 HPL.out.2.1, (HPL.out.2.2.list l h1.1).1 h1.2.1⟩
    clear h1 h2
    go_wp2_with fail
    go_ret3
    exact ⟨Or.inr ⟨l, rfl, H1.out⟩, HF.out⟩
  · have H1 : Hid (∀ l : List Nat, (∀ b ∈ l, b < 256) → togL how A B l = false) := fun l hl => by
      cases h : togL how A B l with
      | false => rfl
      | true => exact absurd ((HPL.out.2.2.list l hl).2 h) (h1 l hl)
    clear h1
    go_wp2_with fail
    go_ret3
    exact ⟨Or.inl ⟨rfl, H1.out⟩, HF.out⟩

set_option maxHeartbeats 1000000 in
set_option maxRecDepth 100000 in
theorem lequal_any (A B : Dd) (CA CB : Nat) (hA : DR A CA) (hB : DR B CB) (hab : (A.n + 1) * (B.n + 1) ≤ 2000) (w : World) (hdA : DM w A) (hdB : DM w B) :
    Calls Try.prog 7 #[.agg A.cD, .agg B.cD] w (EqP 3 A B w) := by
  have HAB := Lib.hid (And.intro hA (And.intro hB hab))
  have k0 := al w (.cells A.cD 26)
  have k1 := al (w.alloc (.cells A.cD 26)) (.cells B.cD 26)
  have HB : Hid (DBx ((w.alloc (.cells A.cD 26)).alloc (.cells B.cD 26)) w.heap.size A ∧ DBx ((w.alloc (.cells A.cD 26)).alloc (.cells B.cD 26)) (w.heap.size + 1) B ∧ Below w.heap.size w ((w.alloc (.cells A.cD 26)).alloc (.cells B.cD 26))) := by
    refine ⟨(DBx.new hdA).keep k1, ?_, k0.trans (k1.mono k0.size)⟩
    have := DBx.new (hdB.below k0)
    simpa using this
  clear k0 k1 hdA hdB hA hB hab
  go_enter Try.func7, Try.ntmps7
  go_upto_region 1 with fail
  generalize (w.alloc (.cells A.cD 26)).alloc (.cells B.cD 26) = W1 at HB ⊢
  obtain ⟨b1, hb1⟩ : ∃ b1, w.heap.size + 1 = b1 := ⟨_, rfl⟩
  obtain ⟨b0, hb0⟩ : ∃ b0, w.heap.size = b0 := ⟨_, rfl⟩
  rw [hb1, hb0] at HB
  rw [hb1, hb0]
  have Hb := Lib.hid (And.intro hb0 hb1)
  clear hb0 hb1
  have HPr := Lib.hid (none_any 3 (by omega) (by omega) A B CA CB HAB.out.1 HAB.out.2.1 HAB.out.2.2 W1 HB.out.1.dm HB.out.2.1.dm)
  go_wp2_with (first | (refine wpList_load_any9 (by rfl) 26 _ rfl ⟨b0, 0, none⟩ rfl A.cD _ HB.out.1.st.part Try.underlying26 rfl HB.out.1.dm.info ?_) | (refine wpList_load_any9 (by rfl) 26 _ rfl ⟨b1, 0, none⟩ rfl B.cD _ HB.out.2.1.st.part Try.underlying26 rfl HB.out.2.1.dm.info ?_))
  refine HPr.out.mono ?_
  rintro e w4 ⟨hcase, k4⟩
  have HF : Hid (Below w.heap.size w w4) := by
    have h := HB.out.2.2
    have hz := h.size
    rw [Hb.out.1]
    exact h.trans (k4.mono (by have := Hb.out.1; omega))
  clear HPr k4
  rcases hcase with ⟨rfl, h1⟩ | ⟨l, rfl, h1⟩
  · have H1 := Lib.hid h1
    clear h1
    go_wp2_with fail
    go_ret3
    exact ⟨Or.inl ⟨rfl, H1.out⟩, HF.out⟩
  · have H1 := Lib.hid h1
    clear h1
    go_wp2_with fail
    go_ret3
    exact ⟨Or.inr ⟨l, rfl, H1.out⟩, HF.out⟩

set_option maxHeartbeats 1000000 in
set_option maxRecDepth 100000 in
theorem lwithin_any (A B : Dd) (CA CB : Nat) (hA : DR A CA) (hB : DR B CB) (hab : (A.n + 1) * (B.n + 1) ≤ 2000) (w : World) (hdA : DM w A) (hdB : DM w B) :
    Calls Try.prog 8 #[.agg A.cD, .agg B.cD] w (EqP 2 A B w) := by
  have HAB := Lib.hid (And.intro hA (And.intro hB hab))
  have k0 := al w (.cells A.cD 26)
  have k1 := al (w.alloc (.cells A.cD 26)) (.cells B.cD 26)
  have HB : Hid (DBx ((w.alloc (.cells A.cD 26)).alloc (.cells B.cD 26)) w.heap.size A ∧ DBx ((w.alloc (.cells A.cD 26)).alloc (.cells B.cD 26)) (w.heap.size + 1) B ∧ Below w.heap.size w ((w.alloc (.cells A.cD 26)).alloc (.cells B.cD 26))) := by
    refine ⟨(DBx.new hdA).keep k1, ?_, k0.trans (k1.mono k0.size)⟩
    have := DBx.new (hdB.below k0)
    simpa using this
  clear k0 k1 hdA hdB hA hB hab
  go_enter Try.func8, Try.ntmps8
  go_upto_region 1 with fail
  generalize (w.alloc (.cells A.cD 26)).alloc (.cells B.cD 26) = W1 at HB ⊢
  obtain ⟨b1, hb1⟩ : ∃ b1, w.heap.size + 1 = b1 := ⟨_, rfl⟩
  obtain ⟨b0, hb0⟩ : ∃ b0, w.heap.size = b0 := ⟨_, rfl⟩
  rw [hb1, hb0] at HB
  rw [hb1, hb0]
  have Hb := Lib.hid (And.intro hb0 hb1)
  clear hb0 hb1
  have HPr := Lib.hid (none_any 2 (by omega) (by omega) A B CA CB HAB.out.1 HAB.out.2.1 HAB.out.2.2 W1 HB.out.1.dm HB.out.2.1.dm)
  go_wp2_with (first | (refine wpList_load_any9 (by rfl) 26 _ rfl ⟨b0, 0, none⟩ rfl A.cD _ HB.out.1.st.part Try.underlying26 rfl HB.out.1.dm.info ?_) | (refine wpList_load_any9 (by rfl) 26 _ rfl ⟨b1, 0, none⟩ rfl B.cD _ HB.out.2.1.st.part Try.underlying26 rfl HB.out.2.1.dm.info ?_))
  refine HPr.out.mono ?_
  rintro e w4 ⟨hcase, k4⟩
  have HF : Hid (Below w.heap.size w w4) := by
    have h := HB.out.2.2
    have hz := h.size
    rw [Hb.out.1]
    exact h.trans (k4.mono (by have := Hb.out.1; omega))
  clear HPr k4
  rcases hcase with ⟨rfl, h1⟩ | ⟨l, rfl, h1⟩
  · have H1 := Lib.hid h1
    clear h1
    go_wp2_with fail
    go_ret3
    exact ⟨Or.inl ⟨rfl, H1.out⟩, HF.out⟩
  · have H1 := Lib.hid h1
    clear h1
    go_wp2_with fail
    go_ret3
    exact ⟨Or.inr ⟨l, rfl, H1.out⟩, HF.out⟩
end Go.Proofs.Ytohgbkajnhgnaaa
