import Derived.Test.YthidhkaeebakjaaNUnion
import Derived.Test.YthidhkaeebakjaaNAwk
import Derived.Deep.RegionHeld3
import Derived.Deep.DeepCutAuto
namespace Go.Proofs.Ythidhkaeebakjaa
open Go.RowKit Go.Maps Go.WideElems Go.ChangeMaps Go.MapKept
set_option linter.unusedVariables false
set_option linter.unusedSimpArgs false

def Eg.n (e : Eg) : En := ⟨e.f.toNat, e.t.toNat, e.p, e.b⟩
def Mg.nf (g : Mg) : NF := ⟨g.S.toNat, g.F.toNat, g.T.toNat, g.L.map Eg.n⟩
/-- A machine whose states are there, a small one. -/
structure Good (g : Mg) : Prop where
  eq : g = g.nf.mg g.a g.c
  ok : g.nf.ok
  n : g.nf.N ≤ 30
  l : g.nf.L.length ≤ 100
theorem good_of (g : Mg) (hr : riB g.S g.L g.F g.T = true) (h1 : g.S ≤ 30) (h2 : g.L.length ≤ 100) : Good g := by
  obtain ⟨S, F, T, a, c, L⟩ := g
  obtain ⟨N, F', T', L', rfl, rfl, rfl, rfl, hO⟩ := right_nat hr
  have e : (L'.map En.z).map Eg.n = L' := by
    rw [List.map_map]
    exact (List.map_congr_left (fun x _ => rfl)).trans (List.map_id _)
  have e2 : (Mg.nf ⟨(N : Int), (F' : Int), (T' : Int), a, c, L'.map En.z⟩) = ⟨N, F', T', L'⟩ := by
    show NF.mk _ _ _ _ = _
    rw [e]; rfl
  refine ⟨by rw [e2]; rfl, by rw [e2]; exact hO, by rw [e2]; dsimp only at h1 ⊢; omega, by rw [e2]; simpa using h2⟩
theorem ri_union (M : Nat → NF) (n : Nat) (h : ∀ k, k < n → (M k).ok) : riB ((uo M n : Nat) : Int) ((uE M n).map En.z) 0 0 = true := by
  have hp := uo_pos M n
  simp only [riB, Bool.and_eq_true, List.all_eq_true, edB, stB_iff, List.mem_map]
  refine ⟨?_, by omega, by omega⟩
  rintro e ⟨x, hx, rfl⟩
  obtain ⟨h1, h2, h3⟩ := uE_lt M n h x hx
  simp only [En.z]
  omega

set_option maxHeartbeats 2000000 in
set_option maxRecDepth 100000 in
theorem nfaUnions_any (n c : Nat) (G : Nat → Mg) (a : Option Addr) (s : ByteArray) (m : Nat) (hs : s.size = m) (hm : m ≤ 9223372036854775807) (w : World) (hL : MgAt w a n G) (hn : n ≤ 9223372036854775807) (hG : ∀ k, k < n → (G k).L.length ≤ 9223372036854775807) :
    Calls Try.prog 4 #[.slice a n c, .string s] w fun e w' => e = .returned (.bool true) ∧ Below w.heap.size w w' := by
  have H0 := Lib.hid (And.intro hL (And.intro hs hG))
  have hss := hs
  clear hL hs hG
  go_enter Try.func4, Try.ntmps4
  go_wp2_with fail
  refine (awake06_any _).mono ?_
  rintro e w1 ⟨rfl, b1⟩
  have H1 := Lib.hid (And.intro (H0.out.1.below b1) b1)
  clear b1
  by_cases hn6 : 6 < n
  · go_wp2_with fail
    go_ret
    exact ⟨rfl, H1.out.2⟩
  by_cases hm12 : 12 < m
  · go_wp2_with fail
    go_ret
    exact ⟨rfl, H1.out.2⟩
  go_wp2_with fail
  go_loopw [5, 6] (fun v5 v6 wr => ∃ i : Nat, v6 = .int .i64 i ∧ i ≤ n ∧ v5 = .int .i64 ((uo (fun k => (G k).nf) i : Nat) : Int) ∧ Hid (∀ k, k < i → Good (G k)) ∧ Hid (Below w1.heap.size w1 wr)) (fun _ v6 _ => n - (intOf v6).toNat)
  case atStart => exact ⟨0, rfl, Nat.zero_le _, rfl, (fun k hk => by omega), Below.refl _ _⟩
  case round =>
    obtain ⟨i, rfl, hin, rfl, HG, HB⟩ := hrel
    by_cases hlt : i < n
    · obtain ⟨g, off, rfl, hg, hcs⟩ := (H1.out.1.below HB.out) (by omega)
      obtain ⟨⟨c0, c1, c2, c3⟩, hed⟩ := hcs i hlt
      have hlen := H0.out.2.2 i hlt
      have hub := uo_bnd (fun k => (G k).nf) i 30 (fun j hj => (HG.out j hj).n)
      have HS : Hid (∀ g : Mg, G i = g → Good g → ∀ k, k < i + 1 → Good (G k)) := fun g e hg k hk => by
        by_cases h : k = i
        · subst h; rw [e]; exact hg
        · exact HG.out k (by omega)
      have HU : Hid (∀ g : Mg, G i = g → uo (fun k => (G k).nf) (i + 1) = uo (fun k => (G k).nf) i + g.nf.N) := fun g e => by rw [← e]; rfl
      have hHG : ∃ gi, G i = gi := ⟨_, rfl⟩
      obtain ⟨gi, hgi⟩ := hHG
      have HGi := Lib.hid hgi
      rw [hgi] at c0 c1 c2 c3 hed hlen
      obtain ⟨p, hp⟩ : ∃ p, uo (fun k => (G k).nf) i = p := ⟨_, rfl⟩
      rw [hp] at hub ⊢
      have HP := Lib.hid hp
      clear hcs hgi hp
      obtain ⟨S, F, T, ai, ci, L⟩ := gi
      dsimp only at c0 c1 c2 c3 hed hlen
      have hpb : p ≤ 181 := by omega
      clear hub
      by_cases hS : 30 < S
      · go_wp2_with fail
        go_ret
        exact ⟨rfl, H1.out.2.trans (HB.out.mono H1.out.2.size)⟩
      by_cases hl : 100 < L.length
      · go_wp2_with fail
        go_ret
        exact ⟨rfl, H1.out.2.trans (HB.out.mono H1.out.2.size)⟩
      have HR := Lib.hid (rright_any S F T ai L.length ci L wr hed rfl (by unfold maxLen; omega))
      rcases hr : riB S L F T with _ | _
      · rw [hr] at HR
        go_wp2_with fail
        refine HR.out.mono ?_
        rintro e w2 ⟨rfl, b2⟩
        have HB2 := Lib.hid (H1.out.2.trans ((HB.out.trans (b2.mono HB.out.size)).mono H1.out.2.size))
        clear b2
        go_wp2_with fail
        go_ret
        exact ⟨rfl, HB2.out⟩
      · rw [hr] at HR
        have hgd := good_of ⟨S, F, T, ai, ci, L⟩ hr (by show S ≤ 30; omega) (by show L.length ≤ 100; omega)
        have HS2 := Lib.hid (HS.out _ HGi.out hgd)
        have hS0 : 0 ≤ S := by
          obtain ⟨N, F', T', L', h, _⟩ := right_nat hr
          omega
        obtain ⟨N, rfl⟩ : ∃ N : Nat, S = (N : Int) := ⟨S.toNat, by omega⟩
        have HU2 : Hid (uo (fun k => (G k).nf) (i + 1) = p + N) := by
          show _ = _
          rw [HU.out _ HGi.out, HP.out]
          simp [Mg.nf]
        clear hgd
        go_wp2_with fail
        refine HR.out.mono ?_
        rintro e w2 ⟨rfl, b2⟩
        have HB2 := Lib.hid (HB.out.trans (b2.mono HB.out.size))
        have hg2 : g < wr.heap.size := hg
        have q0 := (b2.cell (p := ⟨g, off + i * 4, none⟩) hg2).trans c0
        clear b2 c0 c1 c2 c3
        go_wp2_with fail
        go_roundw
        case rel => exact ⟨i + 1, by go_num, by omega, by rw [HU2.out]; go_num, HS2, HB2⟩
        case measure => simp [intOf]; omega
    · obtain rfl : i = n := by omega
      have HMg : Hid (MgAt wr a i (fun k => (G k).nf.mg (G k).a (G k).c)) := (H1.out.1.below HB.out).congr (fun k hk => (HG.out k hk).eq)
      have HB1 := Lib.hid (H1.out.2.trans (HB.out.mono H1.out.2.size))
      obtain ⟨M, hM⟩ : ∃ M : Nat → NF, (fun k => (G k).nf) = M := ⟨_, rfl⟩
      have HM : Hid (∀ k, k < i → (M k).ok ∧ (M k).N ≤ 30 ∧ (M k).L.length ≤ 100) := fun k hk => by rw [← hM]; exact ⟨(HG.out k hk).ok, (HG.out k hk).n, (HG.out k hk).l⟩
      have HMg2 : Hid (MgAt wr a i (fun k => (M k).mg (G k).a (G k).c)) := by rw [← hM]; exact HMg
      rw [hM]
      clear HMg HG hM HB
      go_wp2_with fail
      refine (union_any M i (fun k hk => ⟨(HM.out k hk).1, by have := (HM.out k hk).2.1; omega, by have := (HM.out k hk).2.2; omega⟩) (by omega) (fun k => (G k).a) (fun k => (G k).c) a c wr HMg2.out).mono ?_
      rintro e w3 ⟨aE, cE, aL, cL, rfl, hoE, hoL, b3⟩
      have hpb := uo_bnd M i 30 (fun k hk => (HM.out k hk).2.1)
      have hEb := uE_len M i 100 (fun k hk => (HM.out k hk).2.2)
      have hpp := uo_pos M i
      have HSg : Hid (∀ k, k < i → Seg (uE M i) (uo M k) (M k) ∧ uo M k + (M k).N ≤ uo M i ∧ (ula M i)[k]? = some (uo M k + (M k).T)) := fun k hk => ⟨uE_seg M i (fun k hk => (HM.out k hk).1) k hk, uo_le M (show k + 1 ≤ i by omega), ula_at M i k hk⟩
      have hri := ri_union M i (fun k hk => (HM.out k hk).1)
      have hOk : Ok (uE M i) (uo M i) 0 0 := ⟨by omega, by omega, fun e he => by have := uE_lt M i (fun k hk => (HM.out k hk).1) e he; omega⟩
      obtain ⟨P, hP⟩ : ∃ P, uo M i = P := ⟨_, rfl⟩
      obtain ⟨E, hE⟩ : ∃ E, uE M i = E := ⟨_, rfl⟩
      obtain ⟨ls, hls⟩ : ∃ ls, ula M i = ls := ⟨_, rfl⟩
      rw [hP] at hpb hpp hri hOk HSg ⊢
      rw [hE] at hEb hri hOk HSg hoE ⊢
      rw [hls] at HSg hoL
      have hPb : P ≤ 181 := by omega
      have hEl : E.length ≤ 606 := by omega
      have HB3 := Lib.hid (HB1.out.trans (b3.mono HB1.out.size))
      have HB3r := Lib.hid (fun W (hb : Below w3.heap.size w3 W) => HMg2.out.below (b3.trans (hb.mono b3.size)))
      have HO3 := Lib.hid (And.intro hoE hoL)
      have HF3 := Lib.hid (And.intro hri hOk)
      clear hoE hoL b3 hri hOk hP hE hls hpb hEb HB1
      have HR3 := Lib.hid (fun W (hb : Below w3.heap.size w3 W) => rright_any ((P : Nat) : Int) 0 0 aE E.length cE (E.map En.z) W ((own_edges HO3.out.1).below hb) (by simp) (by unfold maxLen; omega))
      rw [HF3.out.1] at HR3
      have H4 := Lib.hid (And.intro (nfa_new w3 ((P : Nat) : Int) 0 0 aE E.length cE) (al w3 (.cells #[.int .i64 ((P : Nat) : Int), .slice aE E.length cE, .int .i64 0, .int .i64 0] 24)))
      go_wp2_with fail
      generalize w3.alloc (.cells #[.int .i64 ((P : Nat) : Int), .slice aE E.length cE, .int .i64 0, .int .i64 0] 24) = w4 at H4 ⊢
      refine (HR3.out _ H4.out.2).mono ?_
      rintro e w5 ⟨rfl, b5⟩
      have H5 := Lib.hid (And.intro (H4.out.1.keep b5) (H4.out.2.trans (b5.mono H4.out.2.size)))
      obtain ⟨c0, c1, c2, c3⟩ := H5.out.1.cells4
      clear b5 H4
      go_wp2_with fail
      refine (rrun_any E P 0 0 HF3.out.2 (by omega) aE E.length cE w5 ((own_edges HO3.out.1).below H5.out.2) rfl (by omega) s m hss (by omega)).mono ?_
      rintro e w6 ⟨fA, aA, cA, rfl, hoA, hfA, b6⟩
      have H6 := Lib.hid (And.intro hfA (And.intro (bls_at hoA) (H5.out.2.trans (b6.mono H5.out.2.size))))
      clear hoA hfA b6 c0 c1 c2 c3 H5
      go_wp2_with fail
      go_loopw [10] (fun v wr => ∃ j : Nat, v = .int .i64 j ∧ j ≤ i ∧ Hid (Below w6.heap.size w6 wr)) (fun v _ => i - (intOf v).toNat)
      case atStart => exact ⟨0, rfl, Nat.zero_le _, Below.refl _ _⟩
      case round =>
        obtain ⟨j, rfl, hji, HB⟩ := hrel
        by_cases hlt : j < i
        · have hB3 : Below w3.heap.size w3 wr := H6.out.2.2.trans (HB.out.mono H6.out.2.2.size)
          obtain ⟨hseg, hle, hla⟩ := HSg.out j hlt
          obtain ⟨hok, hN30, hL100⟩ := HM.out j hlt
          obtain ⟨g, off, rfl, hg, hcs⟩ := (HB3r.out wr hB3) (by omega)
          obtain ⟨⟨c0, c1, c2, c3⟩, hed⟩ := hcs j hlt
          simp only [NF.mg, List.length_map] at c0 c1 c2 c3 hed
          have hrun := hseg.run hok (zof s) m (M j).T hok.t
          obtain ⟨gL, rfl, _, hgL, hcL⟩ := ownsRow_read (ownsRow_keep HO3.out.2 hB3) (by omega)
          have hx0 : wr.cell? ⟨gL, j, none⟩ = some (.int .i64 ((uo M j + (M j).T : Nat) : Int)) := by
            rw [(hcL j (by omega)).1]
            obtain ⟨h1, h2⟩ := List.getElem?_eq_some_iff.1 hla
            rw [nums64_get _ _ h1, h2]
          obtain ⟨aj, haj⟩ : ∃ aj, (G j).a = aj := ⟨_, rfl⟩
          obtain ⟨cj, hcj⟩ : ∃ cj, (G j).c = cj := ⟨_, rfl⟩
          obtain ⟨q, hq⟩ : ∃ q, uo M j = q := ⟨_, rfl⟩
          obtain ⟨⟨N, F, T, L⟩, hMj⟩ : ∃ mj, M j = mj := ⟨_, rfl⟩
          rw [hMj] at c0 c1 c2 c3 hed hrun hx0 hle hok hN30 hL100
          rw [haj] at c1 hed
          rw [hcj] at c1
          rw [hq] at hx0 hle hrun
          dsimp only at c0 c1 c2 c3 hed hrun hx0 hle hN30 hL100
          have hTN : T < N := hok.t
          have hFN : F < N := hok.f
          have hOkj : Ok L N F T := hok
          obtain ⟨x, hx⟩ : ∃ x, q + T = x := ⟨_, rfl⟩
          rw [hx] at hx0 hrun
          have hxP : x < P := by omega
          obtain ⟨b, hb⟩ : ∃ b, fA x = b := ⟨_, rfl⟩
          have HBx : Hid (b = true ↔ RunP L F (zof s) m T) := by
            show _ ↔ _
            rw [← hb, H6.out.1 x, hrun]
          obtain ⟨gA, oA, hAA, hgA, hcA⟩ := (H6.out.2.1.below HB.out) (by omega)
          have hA0 := hcA x hxP
          rw [hb] at hA0
          clear haj hcj hq hMj hx hb hrun hcs hcL hla hle hseg hok
          subst hAA
          have C7 := Lib.hid (fun W (hb : Below wr.heap.size wr W) => rrun_any L N F T hOkj (by omega) aj L.length cj W (hed.below hb) rfl (by omega) s m hss (by omega))
          have i1 : (j : Int) < (i : Int) := by omega
          have i2 : (x : Int) < (P : Int) := by omega
          have i3 : decide ((x : Int) < 0) = false := by simp
          have i5 : decide (P ≤ x) = false := by simp; omega
          have i6 : (0 : Int) ≤ (x : Int) := by omega
          have i4 : (T : Int) < (N : Int) := by omega
          have HSo : Hid (∀ W, Below wr.heap.size wr W → (Below wr.heap.size wr W ∧ W.cell? ⟨gL, j, none⟩ = some (.int .i64 ((x : Nat) : Int)) ∧ W.cell? ⟨gA, oA + x, none⟩ = some (.bool b) ∧ W.cell? ⟨g, off + j * 4, none⟩ = some (.int .i64 ((N : Nat) : Int)) ∧ W.cell? ⟨g, off + j * 4 + 1, none⟩ = some (.slice aj L.length cj) ∧ W.cell? ⟨g, off + j * 4 + 2, none⟩ = some (.int .i64 ((F : Nat) : Int)) ∧ W.cell? ⟨g, off + j * 4 + 3, none⟩ = some (.int .i64 ((T : Nat) : Int)))) :=
            fun W hW => ⟨hW, (hW.cell (p := ⟨gL, _, none⟩) hgL).trans hx0, (hW.cell (p := ⟨gA, _, none⟩) hgA).trans hA0, (hW.cell (p := ⟨g, _, none⟩) hg).trans c0, (hW.cell (p := ⟨g, _, none⟩) hg).trans c1, (hW.cell (p := ⟨g, _, none⟩) hg).trans c2, (hW.cell (p := ⟨g, _, none⟩) hg).trans c3⟩
          clear hed hOkj hcA hA0 hx0 c0 c1 c2 c3 hg hgL hgA hB3
          go_wp2_with fail
          -- REG19
          refine wp_region_held_drew (S := fun W' => Below wr.heap.size wr W' ∧ W'.cell? ⟨gL, j, none⟩ = some (.int .i64 ((x : Nat) : Int)) ∧ W'.cell? ⟨gA, oA + x, none⟩ = some (.bool b) ∧ W'.cell? ⟨g, off + j * 4, none⟩ = some (.int .i64 ((N : Nat) : Int)) ∧ W'.cell? ⟨g, off + j * 4 + 1, none⟩ = some (.slice aj L.length cj) ∧ W'.cell? ⟨g, off + j * 4 + 2, none⟩ = some (.int .i64 ((F : Nat) : Int)) ∧ W'.cell? ⟨g, off + j * 4 + 3, none⟩ = some (.int .i64 ((T : Nat) : Int))) (by kernel_rfl) (HSo.out _ (Below.refl _ _).drew) (fun hHeld => ?_)
          (refine wpAnyH_take (i := 0) (oi := ?_) (v := ?_) ?_ (by kernel_rfl) (by kernel_rfl) (by kernel_rfl) ?_ (Or.inl ⟨?_, ?_⟩) (by assumption) ?_; rotate_left 2; (focus ((simp only [List.getElem?_toArray, List.getElem?_cons_zero]); first | done | rfl)); (focus (exact fun _ _ _ h => h)); (focus rfl); (focus (intro wz hSw; (try dsimp only at hSw); go_simp; first | done | with_reducible rfl)); try simp only [Act.put, List.setIfInBounds_toArray, List.set_cons_zero, List.set_cons_succ])
          (refine wpAnyH_take (i := 1) (oi := ?_) (v := ?_) ?_ (by kernel_rfl) (by kernel_rfl) (by kernel_rfl) ?_ (Or.inl ⟨?_, ?_⟩) (by assumption) ?_; rotate_left 2; (focus ((simp only [List.getElem?_toArray, List.getElem?_cons_succ, List.getElem?_cons_zero]); first | done | rfl)); (focus (exact fun _ _ _ h => h)); (focus rfl); (focus (intro wz hSw; (try dsimp only at hSw); go_simp; first | done | with_reducible rfl)); try simp only [Act.put, List.setIfInBounds_toArray, List.set_cons_zero, List.set_cons_succ])
          (refine wpAnyH_take (i := 2) (oi := ?_) (v := ?_) ?_ (by kernel_rfl) (by kernel_rfl) (by kernel_rfl) ?_ (Or.inl ⟨?_, ?_⟩) (by assumption) ?_; rotate_left 2; (focus ((simp only [List.getElem?_toArray, List.getElem?_cons_succ, List.getElem?_cons_zero]); first | done | rfl)); (focus (exact fun _ _ _ h => h)); (focus rfl); (focus (intro wz hSw; (try dsimp only at hSw); go_simp; first | done | with_reducible rfl)); try simp only [Act.put, List.setIfInBounds_toArray, List.set_cons_zero, List.set_cons_succ])
          (refine wpAnyH_take (i := 3) (oi := ?_) (v := ?_) ?_ (by kernel_rfl) (by kernel_rfl) (by kernel_rfl) ?_ (Or.inl ⟨?_, ?_⟩) (by assumption) ?_; rotate_left 2; (focus ((simp only [List.getElem?_toArray, List.getElem?_cons_succ, List.getElem?_cons_zero]); first | done | rfl)); (focus (exact fun _ _ _ h => h)); (focus rfl); (focus (intro wz hSw; (try dsimp only at hSw); go_simp; first | done | with_reducible rfl)); try simp only [Act.put, List.setIfInBounds_toArray, List.set_cons_zero, List.set_cons_succ])
          (refine wpAnyH_take (i := 4) (oi := ?_) (v := ?_) ?_ (by kernel_rfl) (by kernel_rfl) (by kernel_rfl) ?_ (Or.inl ⟨?_, ?_⟩) (by assumption) ?_; rotate_left 2; (focus ((simp only [List.getElem?_toArray, List.getElem?_cons_succ, List.getElem?_cons_zero]); first | done | rfl)); (focus (exact fun _ _ _ h => h)); (focus rfl); (focus (intro wz hSw; (try dsimp only at hSw); go_simp; first | done | with_reducible rfl)); try simp only [Act.put, List.setIfInBounds_toArray, List.set_cons_zero, List.set_cons_succ])
          (refine wpAnyH_take (i := 5) (oi := ?_) (v := ?_) ?_ (by kernel_rfl) (by kernel_rfl) (by kernel_rfl) ?_ (Or.inl ⟨?_, ?_⟩) (by assumption) ?_; rotate_left 2; (focus ((simp only [List.getElem?_toArray, List.getElem?_cons_succ, List.getElem?_cons_zero]); first | done | rfl)); (focus (exact fun _ _ _ h => h)); (focus rfl); (focus (intro wz hSw; (try dsimp only at hSw); go_simp; first | done | with_reducible rfl)); try simp only [Act.put, List.setIfInBounds_toArray, List.set_cons_zero, List.set_cons_succ])
          (refine wpAnyH_take (i := 6) (oi := ?_) (v := ?_) ?_ (by kernel_rfl) (by kernel_rfl) (by kernel_rfl) ?_ (Or.inl ⟨?_, ?_⟩) (by assumption) ?_; rotate_left 2; (focus ((simp only [List.getElem?_toArray, List.getElem?_cons_succ, List.getElem?_cons_zero]); first | done | rfl)); (focus (exact fun _ _ _ h => h)); (focus rfl); (focus (intro wz hSw; (try dsimp only at hSw); go_simp; first | done | with_reducible rfl)); try simp only [Act.put, List.setIfInBounds_toArray, List.set_cons_zero, List.set_cons_succ])
          (refine wpAnyH_take (i := 7) (oi := ?_) (v := ?_) ?_ (by kernel_rfl) (by kernel_rfl) (by kernel_rfl) ?_ (Or.inl ⟨?_, ?_⟩) (by assumption) ?_; rotate_left 2; (focus ((simp only [List.getElem?_toArray, List.getElem?_cons_succ, List.getElem?_cons_zero]); first | done | rfl)); (focus (exact fun _ _ _ h => h)); (focus rfl); (focus (intro wz hSw; (try dsimp only at hSw); go_simp; first | done | with_reducible rfl)); try simp only [Act.put, List.setIfInBounds_toArray, List.set_cons_zero, List.set_cons_succ])
          (refine wpAnyH_take (i := 8) (oi := ?_) (v := ?_) ?_ (by kernel_rfl) (by kernel_rfl) (by kernel_rfl) ?_ (Or.inl ⟨?_, ?_⟩) (by assumption) ?_; rotate_left 2; (focus ((simp only [List.getElem?_toArray, List.getElem?_cons_succ, List.getElem?_cons_zero]); first | done | rfl)); (focus (exact fun _ _ _ h => h)); (focus rfl); (focus (intro wz hSw; (try dsimp only at hSw); go_simp; first | done | with_reducible rfl)); try simp only [Act.put, List.setIfInBounds_toArray, List.set_cons_zero, List.set_cons_succ])
          (refine wpAnyH_take (i := 9) (oi := ?_) (v := ?_) ?_ (by kernel_rfl) (by kernel_rfl) (by kernel_rfl) ?_ (Or.inl ⟨?_, ?_⟩) (by assumption) ?_; rotate_left 2; (focus ((simp only [List.getElem?_toArray, List.getElem?_cons_succ, List.getElem?_cons_zero]); first | done | rfl)); (focus (exact fun _ _ _ h => h)); (focus rfl); (focus (intro wz hSw; (try dsimp only at hSw); go_simp; first | done | with_reducible rfl)); try simp only [Act.put, List.setIfInBounds_toArray, List.set_cons_zero, List.set_cons_succ])
          (refine wpAnyH_take (i := 10) (oi := ?_) (v := ?_) ?_ (by kernel_rfl) (by kernel_rfl) (by kernel_rfl) ?_ (Or.inl ⟨?_, ?_⟩) (by assumption) ?_; rotate_left 2; (focus ((simp only [List.getElem?_toArray, List.getElem?_cons_succ, List.getElem?_cons_zero]); first | done | rfl)); (focus (exact fun _ _ _ h => h)); (focus rfl); (focus (intro wz hSw; (try dsimp only at hSw); go_simp; first | done | with_reducible rfl)); try simp only [Act.put, List.setIfInBounds_toArray, List.set_cons_zero, List.set_cons_succ])
          (refine wpAnyH_take (i := 11) (oi := ?_) (v := ?_) ?_ (by kernel_rfl) (by kernel_rfl) (by kernel_rfl) ?_ (Or.inl ⟨?_, ?_⟩) (by assumption) ?_; rotate_left 2; (focus ((simp only [List.getElem?_toArray, List.getElem?_cons_succ, List.getElem?_cons_zero]); first | done | rfl)); (focus (exact fun _ _ _ h => h)); (focus rfl); (focus (intro wz hSw; (try dsimp only at hSw); go_simp; first | done | with_reducible rfl)); try simp only [Act.put, List.setIfInBounds_toArray, List.set_cons_zero, List.set_cons_succ])
          (refine wpAnyH_take (i := 12) (oi := ?_) (v := ?_) ?_ (by kernel_rfl) (by kernel_rfl) (by kernel_rfl) ?_ (Or.inl ⟨?_, ?_⟩) (by assumption) ?_; rotate_left 2; (focus ((simp only [List.getElem?_toArray, List.getElem?_cons_succ, List.getElem?_cons_zero]); first | done | rfl)); (focus (exact fun _ _ _ h => h)); (focus rfl); (focus (intro wz hSw; (try dsimp only at hSw); go_simp; first | done | with_reducible rfl)); try simp only [Act.put, List.setIfInBounds_toArray, List.set_cons_zero, List.set_cons_succ])
          (refine wpAnyH_take (i := 13) (oi := ?_) (v := ?_) ?_ (by kernel_rfl) (by kernel_rfl) (by kernel_rfl) ?_ (Or.inl ⟨?_, ?_⟩) (by assumption) ?_; rotate_left 2; (focus ((simp only [List.getElem?_toArray, List.getElem?_cons_succ, List.getElem?_cons_zero]); first | done | rfl)); (focus (exact fun _ _ _ h => h)); (focus rfl); (focus (intro wz hSw; (try dsimp only at hSw); go_simp; first | done | with_reducible rfl)); try simp only [Act.put, List.setIfInBounds_toArray, List.set_cons_zero, List.set_cons_succ])
          (refine wpAnyH_take (i := 14) (oi := ?_) (v := ?_) ?_ (by kernel_rfl) (by kernel_rfl) (by kernel_rfl) ?_ (Or.inl ⟨?_, ?_⟩) (by assumption) ?_; rotate_left 2; (focus ((simp only [List.getElem?_toArray, List.getElem?_cons_succ, List.getElem?_cons_zero]); first | done | rfl)); (focus (exact fun _ _ _ h => h)); (focus rfl); (focus (intro wz hSw; (try dsimp only at hSw); go_simp; first | done | with_reducible rfl)); try simp only [Act.put, List.setIfInBounds_toArray, List.set_cons_zero, List.set_cons_succ])
          (refine wpAnyH_take (i := 15) (oi := ?_) (v := ?_) ?_ (by kernel_rfl) (by kernel_rfl) (by kernel_rfl) ?_ (Or.inl ⟨?_, ?_⟩) (by assumption) ?_; rotate_left 2; (focus ((simp only [List.getElem?_toArray, List.getElem?_cons_succ, List.getElem?_cons_zero]); first | done | rfl)); (focus (exact fun _ _ _ h => h)); (focus rfl); (focus (intro wz hSw; (try dsimp only at hSw); go_simp; first | done | with_reducible rfl)); try simp only [Act.put, List.setIfInBounds_toArray, List.set_cons_zero, List.set_cons_succ])
          (refine wpAnyH_take (i := 16) (oi := ?_) (v := ?_) ?_ (by kernel_rfl) (by kernel_rfl) (by kernel_rfl) ?_ (Or.inl ⟨?_, ?_⟩) (by assumption) ?_; rotate_left 2; (focus ((simp only [List.getElem?_toArray, List.getElem?_cons_succ, List.getElem?_cons_zero]); first | done | rfl)); (focus (exact fun _ _ _ h => h)); (focus rfl); (focus (intro wz hSw; (try dsimp only at hSw); go_simp; first | done | with_reducible rfl)); try simp only [Act.put, List.setIfInBounds_toArray, List.set_cons_zero, List.set_cons_succ])
          (refine wpAnyH_take (i := 17) (oi := ?_) (v := ?_) ?_ (by kernel_rfl) (by kernel_rfl) (by kernel_rfl) ?_ (Or.inl ⟨?_, ?_⟩) (by assumption) ?_; rotate_left 2; (focus ((simp only [List.getElem?_toArray, List.getElem?_cons_succ, List.getElem?_cons_zero]); first | done | rfl)); (focus (exact fun _ _ _ h => h)); (focus rfl); (focus (intro wz hSw; (try dsimp only at hSw); go_simp; first | done | with_reducible rfl)); try simp only [Act.put, List.setIfInBounds_toArray, List.set_cons_zero, List.set_cons_succ])
          (refine wpAnyH_take (i := 18) (oi := ?_) (v := ?_) ?_ (by kernel_rfl) (by kernel_rfl) (by kernel_rfl) ?_ (Or.inl ⟨?_, ?_⟩) (by assumption) ?_; rotate_left 2; (focus ((simp only [List.getElem?_toArray, List.getElem?_cons_succ, List.getElem?_cons_zero]); first | done | rfl)); (focus (exact fun _ _ _ h => h)); (focus rfl); (focus (intro wz hSw; (try dsimp only at hSw); go_simp; first | done | with_reducible rfl)); try simp only [Act.put, List.setIfInBounds_toArray, List.set_cons_zero, List.set_cons_succ])
          (refine wpAnyH_take (i := 19) (oi := ?_) (v := ?_) ?_ (by kernel_rfl) (by kernel_rfl) (by kernel_rfl) ?_ (Or.inl ⟨?_, ?_⟩) (by assumption) ?_; rotate_left 2; (focus ((simp only [List.getElem?_toArray, List.getElem?_cons_succ, List.getElem?_cons_zero]); first | done | rfl)); (focus (exact fun _ _ _ h => h)); (focus rfl); (focus (intro wz hSw; (try dsimp only at hSw); go_simp; first | done | with_reducible rfl)); try simp only [Act.put, List.setIfInBounds_toArray, List.set_cons_zero, List.set_cons_succ])
          (refine wpAnyH_take (i := 20) (oi := ?_) (v := ?_) ?_ (by kernel_rfl) (by kernel_rfl) (by kernel_rfl) ?_ (Or.inl ⟨?_, ?_⟩) (by assumption) ?_; rotate_left 2; (focus ((simp only [List.getElem?_toArray, List.getElem?_cons_succ, List.getElem?_cons_zero]); first | done | rfl)); (focus (exact fun _ _ _ h => h)); (focus rfl); (focus (intro wz hSw; (try dsimp only at hSw); go_simp; first | done | with_reducible rfl)); try simp only [Act.put, List.setIfInBounds_toArray, List.set_cons_zero, List.set_cons_succ])
          (refine wpAnyH_take (i := 21) (oi := ?_) (v := ?_) ?_ (by kernel_rfl) (by kernel_rfl) (by kernel_rfl) ?_ (Or.inl ⟨?_, ?_⟩) (by assumption) ?_; rotate_left 2; (focus ((simp only [List.getElem?_toArray, List.getElem?_cons_succ, List.getElem?_cons_zero]); first | done | rfl)); (focus (exact fun _ _ _ h => h)); (focus rfl); (focus (intro wz hSw; (try dsimp only at hSw); go_simp; first | done | with_reducible rfl)); try simp only [Act.put, List.setIfInBounds_toArray, List.set_cons_zero, List.set_cons_succ])
          (refine wpAnyH_take (i := 22) (oi := ?_) (v := ?_) ?_ (by kernel_rfl) (by kernel_rfl) (by kernel_rfl) ?_ (Or.inl ⟨?_, ?_⟩) (by assumption) ?_; rotate_left 2; (focus ((simp only [List.getElem?_toArray, List.getElem?_cons_succ, List.getElem?_cons_zero]); first | done | rfl)); (focus (exact fun _ _ _ h => h)); (focus rfl); (focus (intro wz hSw; (try dsimp only at hSw); go_simp; first | done | with_reducible rfl)); try simp only [Act.put, List.setIfInBounds_toArray, List.set_cons_zero, List.set_cons_succ])
          (refine wpAnyH_take (i := 23) (oi := ?_) (v := ?_) ?_ (by kernel_rfl) (by kernel_rfl) (by kernel_rfl) ?_ (Or.inl ⟨?_, ?_⟩) (by assumption) ?_; rotate_left 2; (focus ((simp only [List.getElem?_toArray, List.getElem?_cons_succ, List.getElem?_cons_zero]); first | done | rfl)); (focus (exact fun _ _ _ h => h)); (focus rfl); (focus (intro wz hSw; (try dsimp only at hSw); go_simp; first | done | with_reducible rfl)); try simp only [Act.put, List.setIfInBounds_toArray, List.set_cons_zero, List.set_cons_succ])
          (refine wpAnyH_take (i := 24) (oi := ?_) (v := ?_) ?_ (by kernel_rfl) (by kernel_rfl) (by kernel_rfl) ?_ (Or.inl ⟨?_, ?_⟩) (by assumption) ?_; rotate_left 2; (focus ((simp only [List.getElem?_toArray, List.getElem?_cons_succ, List.getElem?_cons_zero]); first | done | rfl)); (focus (exact fun _ _ _ h => h)); (focus rfl); (focus (intro wz hSw; (try dsimp only at hSw); go_simp; first | done | with_reducible rfl)); try simp only [Act.put, List.setIfInBounds_toArray, List.set_cons_zero, List.set_cons_succ])
          (refine wpAnyH_take (i := 25) (oi := ?_) (v := ?_) ?_ (by kernel_rfl) (by kernel_rfl) (by kernel_rfl) ?_ (Or.inl ⟨?_, ?_⟩) (by assumption) ?_; rotate_left 2; (focus ((simp only [List.getElem?_toArray, List.getElem?_cons_succ, List.getElem?_cons_zero]); first | done | rfl)); (focus (exact fun _ _ _ h => h)); (focus rfl); (focus (intro wz hSw; (try dsimp only at hSw); go_simp; first | done | with_reducible rfl)); try simp only [Act.put, List.setIfInBounds_toArray, List.set_cons_zero, List.set_cons_succ])
          (refine wpAnyH_take (i := 27) (oi := ?_) (v := ?_) ?_ (by kernel_rfl) (by kernel_rfl) (by kernel_rfl) ?_ (Or.inl ⟨?_, ?_⟩) (by assumption) ?_; rotate_left 2; (focus ((simp only [List.getElem?_toArray, List.getElem?_cons_succ, List.getElem?_cons_zero]); first | done | rfl)); (focus (exact fun _ _ _ h => h)); (focus rfl); (focus (intro wz hSw; (try dsimp only at hSw); go_simp; first | done | with_reducible rfl)); try simp only [Act.put, List.setIfInBounds_toArray, List.set_cons_zero, List.set_cons_succ])
          (refine wpAnyH_take (i := 28) (oi := ?_) (v := ?_) ?_ (by kernel_rfl) (by kernel_rfl) (by kernel_rfl) ?_ (Or.inl ⟨?_, ?_⟩) (by assumption) ?_; rotate_left 2; (focus ((simp only [List.getElem?_toArray, List.getElem?_cons_succ, List.getElem?_cons_zero]); first | done | rfl)); (focus (exact fun _ _ _ h => h)); (focus rfl); (focus (intro wz hSw; (try dsimp only at hSw); go_simp; first | done | with_reducible rfl)); try simp only [Act.put, List.setIfInBounds_toArray, List.set_cons_zero, List.set_cons_succ])
          (refine wpAnyH_take (i := 29) (oi := ?_) (v := ?_) ?_ (by kernel_rfl) (by kernel_rfl) (by kernel_rfl) ?_ (Or.inl ⟨?_, ?_⟩) (by assumption) ?_; rotate_left 2; (focus ((simp only [List.getElem?_toArray, List.getElem?_cons_succ, List.getElem?_cons_zero]); first | done | rfl)); (focus (exact fun _ _ _ h => h)); (focus rfl); (focus (intro wz hSw; (try dsimp only at hSw); go_simp; first | done | with_reducible rfl)); try simp only [Act.put, List.setIfInBounds_toArray, List.set_cons_zero, List.set_cons_succ])
          (refine wpAnyH_take (i := 30) (oi := ?_) (v := ?_) ?_ (by kernel_rfl) (by kernel_rfl) (by kernel_rfl) ?_ (Or.inl ⟨?_, ?_⟩) (by assumption) ?_; rotate_left 2; (focus ((simp only [List.getElem?_toArray, List.getElem?_cons_succ, List.getElem?_cons_zero]); first | done | rfl)); (focus (exact fun _ _ _ h => h)); (focus rfl); (focus (intro wz hSw; (try dsimp only at hSw); go_simp; first | done | with_reducible rfl)); try simp only [Act.put, List.setIfInBounds_toArray, List.set_cons_zero, List.set_cons_succ])
          (refine wpAnyH_take (i := 31) (oi := ?_) (v := ?_) ?_ (by kernel_rfl) (by kernel_rfl) (by kernel_rfl) ?_ (Or.inl ⟨?_, ?_⟩) (by assumption) ?_; rotate_left 2; (focus ((simp only [List.getElem?_toArray, List.getElem?_cons_succ, List.getElem?_cons_zero]); first | done | rfl)); (focus (exact fun _ _ _ h => h)); (focus rfl); (focus (intro wz hSw; (try dsimp only at hSw); go_simp; first | done | with_reducible rfl)); try simp only [Act.put, List.setIfInBounds_toArray, List.set_cons_zero, List.set_cons_succ])
          refine wpAnyH_ready (rs := [26]) (by kernel_rfl) (by simp) ?_
          refine AllReadyH.cons (o := ?_) ?_ (fun K hK => ?_) ?_
          rotate_left
          (focus ((simp only [List.getElem?_toArray, List.getElem?_cons_succ, List.getElem?_cons_zero]); first | done | rfl))
          · skip
            go_simp
            go_at_call 18
            refine (C7.out _ hHeld.1).mono ?_
            rintro e wj ⟨f7, a7, c7, rfl, ho7, hf7, vj⟩
            have hbn : Below wr.heap.size wr wj := hHeld.1.trans (vj.mono hHeld.1.size)
            obtain ⟨g7, rfl, _, _, hc7⟩ := ownsRow_read ho7 (by omega)
            have r7 : wj.cell? ⟨g7, T, none⟩ = some (.bool b) := by rw [(hc7 T (by omega)).1, show b = f7 T by rw [Bool.eq_iff_iff, HBx.out, hf7]]; simp [bls, hTN]
            clear hc7 ho7 hf7 vj
            try go_wp2_with fail
            refine hK.out _ _ (HSo.out _ hbn) (fun hHeld => ?_)
            clear hK K hbn
            try simp only [Act.put, List.setIfInBounds_toArray, List.set_cons_zero, List.set_cons_succ]
            (refine wpAnyH_take (i := 32) (oi := ?_) (v := ?_) ?_ (by kernel_rfl) (by kernel_rfl) (by kernel_rfl) ?_ (Or.inl ⟨?_, ?_⟩) (by assumption) ?_; rotate_left 2; (focus ((simp only [List.getElem?_toArray, List.getElem?_cons_succ, List.getElem?_cons_zero]); first | done | rfl)); (focus (exact fun _ _ _ h => h)); (focus rfl); (focus (intro wz hSw; (try dsimp only at hSw); go_simp; first | done | with_reducible rfl)); try simp only [Act.put, List.setIfInBounds_toArray, List.set_cons_zero, List.set_cons_succ])
            refine wpAnyH_ready (rs := [33]) (by kernel_rfl) (by simp) ?_
            refine AllReadyH.cons (o := ?_) ?_ (fun K hK => ?_) ?_
            rotate_left
            (focus ((simp only [List.getElem?_toArray, List.getElem?_cons_succ, List.getElem?_cons_zero]); first | done | rfl))
            · skip
              go_simp
              refine hK.out _ _ (HSo.out _ hHeld.1) (fun hHeld => ?_)
              clear hK K
              try simp only [Act.put, List.setIfInBounds_toArray, List.set_cons_zero, List.set_cons_succ]
              (refine wpAnyH_take (i := 34) (oi := ?_) (v := ?_) ?_ (by kernel_rfl) (by kernel_rfl) (by kernel_rfl) ?_ (Or.inl ⟨?_, ?_⟩) (by assumption) ?_; rotate_left 2; (focus ((simp only [List.getElem?_toArray, List.getElem?_cons_succ, List.getElem?_cons_zero]); first | done | rfl)); (focus (exact fun _ _ _ h => h)); (focus rfl); (focus (intro wz hSw; (try dsimp only at hSw); go_simp; first | done | with_reducible rfl)); try simp only [Act.put, List.setIfInBounds_toArray, List.set_cons_zero, List.set_cons_succ])
              (refine wpAnyH_take (i := 35) (oi := ?_) (v := ?_) ?_ (by kernel_rfl) (by kernel_rfl) (by kernel_rfl) ?_ (Or.inl ⟨?_, ?_⟩) (by assumption) ?_; rotate_left 2; (focus ((simp only [List.getElem?_toArray, List.getElem?_cons_succ, List.getElem?_cons_zero]); first | done | rfl)); (focus (exact fun _ _ _ h => h)); (focus rfl); (focus (intro wz hSw; (try dsimp only at hSw); go_simp; first | done | with_reducible rfl)); try simp only [Act.put, List.setIfInBounds_toArray, List.set_cons_zero, List.set_cons_succ])
              refine wpAnyH_done (by kernel_rfl) ?_ _
              have HFin := Lib.hid (HB.out.trans (hHeld.1.mono HB.out.size))
              clear hHeld r7
              go_wp2_with fail
              go_roundw
              case rel => exact ⟨j + 1, by go_num, by omega, HFin⟩
              case measure => simp [intOf]; omega
            exact AllReadyH.nil
          exact AllReadyH.nil
          -- END19
        · obtain rfl : j = i := by omega
          have HFin := Lib.hid (HB3.out.trans ((H6.out.2.2.trans (HB.out.mono H6.out.2.2.size)).mono HB3.out.size))
          go_wp2_with fail
          go_ret
          exact ⟨rfl, HFin.out⟩
end Go.Proofs.Ythidhkaeebakjaa
