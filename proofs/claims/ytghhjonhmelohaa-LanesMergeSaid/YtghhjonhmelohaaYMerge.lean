import Derived.Test.YtghhjonhmelohaaYOf
import Derived.Test.YtghhjonhmelohaaYNtAt
import Derived.Test.YtghhjonhmelohaaTk
import Derived.Laws.MakeOwn
import Derived.Deep.QuietTactic
import Derived.BigQuiet
namespace Go.Proofs.Ytghhjonhmelohaa
open Go.RowKit Go.Maps Go.WideElems Go.ChangeMaps Go.MapKept
set_option linter.unusedVariables false
set_option linter.unusedSimpArgs false

def lnV : Value → Nat
  | .slice _ n _ => n
  | _ => 0
/-- Two lists that are being merged. -/
structure MgI (w : World) (A B : List Tok) (i j p : Nat) (p1 p2 : Option Addr) (v : Value) (LA LB out : List Tok) (wr : World) : Prop where
  eq : mgF A B = out ++ mgF LA LB
  lo : out.length = p
  la : LA.length = i
  lb : LB.length = j
  ta : TkAt w p1 LA
  tb : TkAt w p2 LB
  ow : wr.ownsRow w.heap.size 32 3 v p (tks out)
  be : Below w.heap.size w wr
  sa : ∀ t ∈ LA, t.s.size ≤ 100000
  sb : ∀ t ∈ LB, t.s.size ≤ 100000
/-- The head of a list in memory. -/
theorem tk_head {w : World} {p1 : Option Addr} {L : List Tok} {i : Nat} (c : Nat) (h : TkAt w p1 L) (hl : L.length = i) (hi : 0 < i) (hc : i ≤ c) :
    ∃ x L' g o, L = x :: L' ∧ p1 = some ⟨g, o, none⟩ ∧ (∀ W', Below w.heap.size w W' → W'.cell? ⟨g, o, none⟩ = some (.int .i64 x.r) ∧ W'.cell? ⟨g, o + 1, none⟩ = some (.string x.s) ∧ W'.cell? ⟨g, o + 2, none⟩ = some (.int .i64 x.p)) ∧
      TkAt w (if c = 1 then some ⟨g, o, none⟩ else some ⟨g, o + 3, none⟩) L' := by
  match L, hl with
  | [], hl => simp at hl; omega
  | x :: L', hl =>
    obtain ⟨g, o, rfl, hg, x0, x1, x2⟩ := h.get 0 (by simp)
    refine ⟨x, L', g, o, rfl, rfl, fun W' hW => ?_, ?_⟩
    · exact ⟨(hW.cell (p := ⟨g, o, none⟩) hg).trans (by simpa using x0), (hW.cell (p := ⟨g, o + 1, none⟩) hg).trans (by simpa using x1), (hW.cell (p := ⟨g, o + 2, none⟩) hg).trans (by simpa using x2)⟩
    · by_cases h1 : c = 1
      · have : L' = [] := List.length_eq_zero_iff.1 (by simp at hl; omega)
        rw [this]
        exact fun h0 => absurd h0 (by simp)
      · rw [if_neg h1]
        have := h.drop 1 (by simp)
        simpa using this
theorem mg_takeB {LA LB : List Tok} {y : Tok} (h : LA = [] ∨ ∃ x L, LA = x :: L ∧ y.p < x.p) : mgF LA (y :: LB) = y :: mgF LA LB := by
  rcases h with rfl | ⟨x, L, rfl, h⟩
  · simp [mgF]
  · rw [mgF, if_pos h]
theorem mg_takeA {LA LB : List Tok} {x : Tok} (h : LB = [] ∨ ∃ y L, LB = y :: L ∧ ¬ (y.p < x.p)) : mgF (x :: LA) LB = x :: mgF LA LB := by
  rcases h with rfl | ⟨y, L, rfl, h⟩
  · rw [mgF_nil, mgF_nil]
  · rw [mgF, if_neg h]
theorem make_toks (N : Nat) (hN : N ≤ 1000000) (W : World) : (Instr.makeSlice 23 (.int .i64 0) (.int .i64 ((N : Nat) : Int))).run Try.prog W = .ok (.slice (some ⟨W.heap.size, 0, none⟩) 0 N) (W.alloc (.cells (madeCells #[.int .i64 0, .string ⟨#[]⟩, .int .i64 0] (N * 3)) 32)) := by
  obtain ⟨i0, hi, hz0, hz1, hz2⟩ := info_parts Try.info_tok
  have h := run_makeSlice (P := Try.prog) W 23 32 i0 (.agg #[.int .i64 0, .string ⟨#[]⟩, .int .i64 0]) Try.underlying23 hi hz0 .i64 .i64 0 ((N : Nat) : Int) (by omega) (by omega) (by rw [hz1]; simp; omega) (by rw [hz2]; omega) (by omega)
  have e : (Value.agg #[.int .i64 0, .string ⟨#[]⟩, .int .i64 0]).cells = #[.int .i64 0, .string ⟨#[]⟩, .int .i64 0] := rfl
  rw [hz1, e] at h
  simpa using h

set_option maxHeartbeats 1000000 in
set_option maxRecDepth 100000 in
theorem merge_any (n1 c1 : Nat) (a1 : Option Addr) (A : List Tok) (n2 c2 : Nat) (a2 : Option Addr) (B : List Tok) (hA : A.length = n1) (hB : B.length = n2) (h1 : n1 ≤ 100000) (h2 : n2 ≤ 100000) (hc1 : n1 ≤ c1) (hc2 : n2 ≤ c2) (hsA : ∀ t ∈ A, t.s.size ≤ 100000) (hsB : ∀ t ∈ B, t.s.size ≤ 100000) (w : World) (hTA : TkAt w a1 A) (hTB : TkAt w a2 B) :
    Calls Try.prog 20 #[.slice a1 n1 c1, .slice a2 n2 c2] w (OfP (mgF A B) w) := by
  obtain ⟨iT, hiT, hT0, hT1, hT2⟩ := info_parts Try.info_tok
  have hmk := make_toks (n1 + n2) (by omega)
  rw [Int.natCast_add] at hmk
  have iw : IntKind.i64.wrap ((n1 : Int) + (n2 : Int)) = (n1 : Int) + (n2 : Int) := IntWalk.i64_in _ ⟨by omega, by omega⟩
  have H0 : Hid (MgI w A B n1 n2 0 a1 a2 (.slice (some ⟨w.heap.size, 0, none⟩) 0 (n1 + n2)) A B [] (w.alloc (.cells (madeCells #[.int .i64 0, .string ⟨#[]⟩, .int .i64 0] ((n1 + n2) * 3)) 32))) :=
    ⟨rfl, rfl, hA, hB, hTA, hTB, ⟨rfl, Or.inr ⟨_, _, _, rfl, Nat.le_refl _, Bl.new _ _ _, Nat.zero_le _, by unfold maxLen; omega, by simp [size_madeCells], by simp [tks]⟩⟩, al w _, hsA, hsB⟩
  clear hA hB hTA hTB hsA hsB
  go_enter Try.func20, Try.ntmps20
  go_wp2_with fail
  generalize w.alloc (.cells (madeCells #[.int .i64 0, .string ⟨#[]⟩, .int .i64 0] ((n1 + n2) * 3)) 32) = W1 at H0 ⊢
  clear hmk iw
  go_loopw [0, 1, 5] (fun v0 v1 v5 wr => ∃ (i j p : Nat) (p1 : Option Addr) (e1 : Nat) (p2 : Option Addr) (e2 : Nat) (b : Option Addr) (d : Nat) (LA LB out : List Tok), v0 = .slice p1 i e1 ∧ v1 = .slice p2 j e2 ∧ v5 = .slice b p d ∧ i ≤ e1 ∧ j ≤ e2 ∧ p + i + j ≤ 200000 ∧ Hid (MgI w A B i j p p1 p2 (.slice b p d) LA LB out wr)) (fun v0 v1 _ _ => lnV v0 + lnV v1)
  case atStart => exact ⟨n1, n2, 0, a1, c1, a2, c2, _, _, A, B, [], rfl, rfl, rfl, hc1, hc2, by omega, H0⟩
  case round =>
    clear H0
    obtain ⟨i, j, p, p1, e1, p2, e2, b, d, LA, LB, out, rfl, rfl, rfl, hie, hje, hN, HI⟩ := hrel
    by_cases hi0 : i = 0
    · subst hi0
      by_cases hj0 : j = 0
      · subst hj0
        have HE : Hid (OfP (mgF A B) w (.returned (.slice b p d)) wr) := by
          have e0 := HI.out.eq
          rw [List.length_eq_zero_iff.1 HI.out.la, List.length_eq_zero_iff.1 HI.out.lb] at e0
          simp only [mgF, List.append_nil] at e0
          refine ⟨b, d, by rw [e0, HI.out.lo], ?_, HI.out.be, ?_⟩
          · rw [e0]
            exact own_tks HI.out.lo HI.out.ow
          · rw [e0, HI.out.lo]
            exact own_cap HI.out.ow
        go_wp2_with fail
        go_ret
        exact HE.out
      · have hj : 0 < j := by omega
        have j1 : (0 : Int) < (j : Int) := by omega
        have j3 : (1 : Int) ≤ (j : Int) := by omega
        have j2 : ((j : Int) == 0) = false := by rw [beq_eq_false_iff_ne]; omega
        obtain ⟨y, LB', g2, o2, e9, rfl, hcb, htb⟩ := tk_head e2 HI.out.tb HI.out.lb hj hje
        have HCb := Lib.hid hcb
        have HOb := Lib.hid (fun W => own_any y (HI.out.sb y (by rw [e9]; exact List.mem_cons_self)) W)
        obtain ⟨P, hP⟩ : ∃ P : Option Addr, (if e2 = 1 then some ⟨g2, o2, none⟩ else some ⟨g2, o2 + 3, none⟩) = P := ⟨_, rfl⟩
        rw [hP] at htb
        have HM : Hid (mgF A B = out ++ ([y] ++ mgF LA LB')) := by
          show _ = _
          rw [HI.out.eq, e9, mg_takeB (Or.inl (List.length_eq_zero_iff.1 HI.out.la))]
          rfl
        have HLb : Hid (LB'.length = j - 1 ∧ TkAt w P LB' ∧ ∀ t ∈ LB', t.s.size ≤ 100000) := ⟨by have := HI.out.lb; rw [e9] at this; simp at this; omega, htb, fun t ht => HI.out.sb t (by rw [e9]; exact List.mem_cons_of_mem _ ht)⟩
        clear e9 hcb htb hj0
        have HP := Lib.hid hP
        clear hP
        go_wp2_with fail
        go_quiet (fail)
        have HW : Hid ((wr.drewN nq).ownsRow w.heap.size 32 3 (.slice b p d) p (tks out) ∧ Below w.heap.size w (wr.drewN nq)) := ⟨HI.out.ow, ⟨HI.out.be.os, HI.out.be.tape, HI.out.be.output, HI.out.be.size, HI.out.be.block⟩⟩
        generalize wr.drewN nq = wq at HW ⊢
        go_upto_region 4 with fail
        refine wp_region_held_drew (S := fun W' => Below w.heap.size w W') (by kernel_rfl) (HW.out.2.drew) (fun hHeld => ?_)
        have HD : Hid (wq.drew.ownsRow w.heap.size 32 3 (.slice b p d) p (tks out) ∧ Below w.heap.size w wq.drew) := ⟨HW.out.1, hHeld⟩
        generalize wq.drew = we at HD hHeld ⊢
        refine tkA 0 ?_ (hy := by intro wz hSw; obtain ⟨z0, z1, z2⟩ := HCb.out wz hSw; have hP9 := HP.out; (try simp only [Act.put, List.setIfInBounds_toArray, List.set_cons_zero, List.set_cons_succ]); go_simp; first | done | with_reducible rfl)
        try simp only [Act.put, List.setIfInBounds_toArray, List.set_cons_zero, List.set_cons_succ]
        refine tkA 1 ?_ (hy := by intro wz hSw; obtain ⟨z0, z1, z2⟩ := HCb.out wz hSw; have hP9 := HP.out; (try simp only [Act.put, List.setIfInBounds_toArray, List.set_cons_zero, List.set_cons_succ]); go_simp; first | done | with_reducible rfl)
        try simp only [Act.put, List.setIfInBounds_toArray, List.set_cons_zero, List.set_cons_succ]
        refine tkA 2 ?_ (hy := by intro wz hSw; obtain ⟨z0, z1, z2⟩ := HCb.out wz hSw; have hP9 := HP.out; (try simp only [Act.put, List.setIfInBounds_toArray, List.set_cons_zero, List.set_cons_succ]); go_simp; first | done | with_reducible rfl)
        try simp only [Act.put, List.setIfInBounds_toArray, List.set_cons_zero, List.set_cons_succ]
        refine tkA 3 (v := .agg #[.int .i64 y.r, .string y.s, .int .i64 y.p]) ?_ (hy := by intro wz hSw; obtain ⟨z0, z1, z2⟩ := HCb.out wz hSw; have hP9 := HP.out; (try simp only [Act.put, List.setIfInBounds_toArray, List.set_cons_zero, List.set_cons_succ]); go_simp; first | done | with_reducible rfl)
        try simp only [Act.put, List.setIfInBounds_toArray, List.set_cons_zero, List.set_cons_succ]
        refine tkA 7 ?_ (hy := by intro wz hSw; obtain ⟨z0, z1, z2⟩ := HCb.out wz hSw; have hP9 := HP.out; (try simp only [Act.put, List.setIfInBounds_toArray, List.set_cons_zero, List.set_cons_succ]); go_simp; first | done | with_reducible rfl)
        try simp only [Act.put, List.setIfInBounds_toArray, List.set_cons_zero, List.set_cons_succ]
        refine tkA 8 ?_ (hy := by intro wz hSw; obtain ⟨z0, z1, z2⟩ := HCb.out wz hSw; have hP9 := HP.out; (try simp only [Act.put, List.setIfInBounds_toArray, List.set_cons_zero, List.set_cons_succ]); go_simp; first | done | with_reducible rfl)
        try simp only [Act.put, List.setIfInBounds_toArray, List.set_cons_zero, List.set_cons_succ]
        refine rd1 4 (fun K hK => ?_)
        go_simp
        go_at_call 22
        refine (HOb.out _).mono ?_
        rintro e w3 ⟨rfl, b3⟩
        have H3 := Lib.hid (And.intro (ownsRow_keep HD.out.1 b3) (HD.out.2.trans (b3.mono HD.out.2.size)))
        clear b3
        try go_wp2_with fail
        refine hK.out _ _ H3.out.2 (fun hHeld => ?_)
        clear hK K
        try simp only [Act.put, List.setIfInBounds_toArray, List.set_cons_zero, List.set_cons_succ]
        refine rd1 5 (fun K hK => ?_)
        go_simp
        have k7 := al w3 (.cells #[.int .i64 y.r, .string y.s, .int .i64 y.p] 32)
        have H7 := Lib.hid (And.intro (ownsRow_keep H3.out.1 k7) (And.intro (H3.out.2.trans (k7.mono H3.out.2.size)) (Bl.new w3 32 #[.int .i64 y.r, .string y.s, .int .i64 y.p])))
        generalize w3.alloc (.cells #[.int .i64 y.r, .string y.s, .int .i64 y.p] 32) = w7 at H7 ⊢
        clear k7
        refine hK.out _ _ H7.out.2.1 (fun hHeld => ?_)
        clear hK K
        try simp only [Act.put, List.setIfInBounds_toArray, List.set_cons_zero, List.set_cons_succ]
        refine rd1 6 (fun K hK => ?_)
        refine step_append_ownY (by rfl) _ _ _ (by rfl) w.heap.size 32 iT (.agg #[.int .i64 0, .string ⟨#[]⟩, .int .i64 0]) 3 32 Try.underlying23 hiT hT0 hT1 hT2 (by rfl) (by decide) _ p (tks out) (by rfl) H7.out.1 ⟨w3.heap.size, 0, none⟩ 1 1 (#[.int .i64 y.r, .string y.s, .int .i64 y.p]).toList (by rfl) (by rfl) (bl_news H7.out.2.2) (by simp [Value.oneCell']) (by unfold maxLen; omega) (by omega) H7.out.2.1.size ?_
        intro v' w8 hown8 hgrow8
        obtain ⟨a8, c8, rfl⟩ := ownsRow_slice hown8
        have H8 : Hid (w8.ownsRow w.heap.size 32 3 (.slice a8 (p + 1) c8) (p + 1) (tks (out ++ [y])) ∧ Below w.heap.size w w8) := by
          refine ⟨?_, H7.out.2.1.grown hgrow8 H7.out.2.1.size (fun g e => (H7.out.1.lt g e).1)⟩
          rw [tks_append]
          exact hown8
        clear hown8 hgrow8
        refine hK.out _ _ H8.out.2 (fun hHeld => ?_)
        clear hK K
        try simp only [Act.put, List.setIfInBounds_toArray, List.set_cons_zero, List.set_cons_succ]
        refine tkA 9 ?_ (hy := by intro wz hSw; obtain ⟨z0, z1, z2⟩ := HCb.out wz hSw; have hP9 := HP.out; (try simp only [Act.put, List.setIfInBounds_toArray, List.set_cons_zero, List.set_cons_succ]); go_simp; first | done | with_reducible rfl)
        try simp only [Act.put, List.setIfInBounds_toArray, List.set_cons_zero, List.set_cons_succ]
        refine tkA 10 ?_ (hy := by intro wz hSw; obtain ⟨z0, z1, z2⟩ := HCb.out wz hSw; have hP9 := HP.out; (try simp only [Act.put, List.setIfInBounds_toArray, List.set_cons_zero, List.set_cons_succ]); go_simp; first | done | with_reducible rfl)
        try simp only [Act.put, List.setIfInBounds_toArray, List.set_cons_zero, List.set_cons_succ]
        refine wpAnyH_done (by kernel_rfl) ?_ _
        clear hHeld
        go_wp2_with fail
        go_roundw
        case rel => exact ⟨0, j - 1, p + 1, _, e1, P, e2 - 1, a8, c8, LA, LB', out ++ [y], rfl, rfl, rfl, hie, by omega, by omega, ⟨by rw [List.append_assoc]; exact HM.out, by rw [List.length_append, HI.out.lo]; rfl, HI.out.la, HLb.out.1, HI.out.ta, HLb.out.2.1, H8.out.1, H8.out.2, HI.out.sa, HLb.out.2.2⟩⟩
        case measure => simp [lnV]; omega
    · have hi : 0 < i := by omega
      have i1 : (0 : Int) < (i : Int) := by omega
      have i3 : (1 : Int) ≤ (i : Int) := by omega
      have i2 : ((i : Int) == 0) = false := by rw [beq_eq_false_iff_ne]; omega
      obtain ⟨x, LA', g1, o1, e9, rfl, hca, hta⟩ := tk_head e1 HI.out.ta HI.out.la hi hie
      have HCa := Lib.hid hca
      have HOa := Lib.hid (fun W => own_any x (HI.out.sa x (by rw [e9]; exact List.mem_cons_self)) W)
      have HLa0 : Hid (LA = x :: LA') := e9
      have HLa : Hid (∀ P, (if e1 = 1 then some ⟨g1, o1, none⟩ else some ⟨g1, o1 + 3, none⟩) = P → LA'.length = i - 1 ∧ TkAt w P LA' ∧ ∀ t ∈ LA', t.s.size ≤ 100000) := fun P hP => ⟨by have := HI.out.la; rw [e9] at this; simp at this; omega, by rw [← hP]; exact hta, fun t ht => HI.out.sa t (by rw [e9]; exact List.mem_cons_of_mem _ ht)⟩
      clear e9 hca hta hi0
      by_cases hj0 : j = 0
      · subst hj0
        obtain ⟨P, hP⟩ : ∃ P : Option Addr, (if e1 = 1 then some ⟨g1, o1, none⟩ else some ⟨g1, o1 + 3, none⟩) = P := ⟨_, rfl⟩
        have HLa := Lib.hid (HLa.out P hP)
        have HM : Hid (mgF A B = out ++ ([x] ++ mgF LA' LB)) := by
          show _ = _
          rw [HI.out.eq, HLa0.out, mg_takeA (Or.inl (List.length_eq_zero_iff.1 HI.out.lb))]
          rfl
        have HP := Lib.hid hP
        clear hP
        go_wp2_with fail
        go_quiet (fail)
        have HW : Hid ((wr.drewN nq).ownsRow w.heap.size 32 3 (.slice b p d) p (tks out) ∧ Below w.heap.size w (wr.drewN nq)) := ⟨HI.out.ow, ⟨HI.out.be.os, HI.out.be.tape, HI.out.be.output, HI.out.be.size, HI.out.be.block⟩⟩
        generalize wr.drewN nq = wq at HW ⊢
        go_upto_region 5 with fail
        refine wp_region_held_drew (S := fun W' => Below w.heap.size w W') (by kernel_rfl) (HW.out.2.drew) (fun hHeld => ?_)
        have HD : Hid (wq.drew.ownsRow w.heap.size 32 3 (.slice b p d) p (tks out) ∧ Below w.heap.size w wq.drew) := ⟨HW.out.1, hHeld⟩
        generalize wq.drew = we at HD hHeld ⊢
        refine tkA 0 ?_ (hy := by intro wz hSw; obtain ⟨z0, z1, z2⟩ := HCa.out wz hSw; have hP9 := HP.out; (try simp only [Act.put, List.setIfInBounds_toArray, List.set_cons_zero, List.set_cons_succ]); go_simp; first | done | with_reducible rfl)
        try simp only [Act.put, List.setIfInBounds_toArray, List.set_cons_zero, List.set_cons_succ]
        refine tkA 1 ?_ (hy := by intro wz hSw; obtain ⟨z0, z1, z2⟩ := HCa.out wz hSw; have hP9 := HP.out; (try simp only [Act.put, List.setIfInBounds_toArray, List.set_cons_zero, List.set_cons_succ]); go_simp; first | done | with_reducible rfl)
        try simp only [Act.put, List.setIfInBounds_toArray, List.set_cons_zero, List.set_cons_succ]
        refine tkA 2 ?_ (hy := by intro wz hSw; obtain ⟨z0, z1, z2⟩ := HCa.out wz hSw; have hP9 := HP.out; (try simp only [Act.put, List.setIfInBounds_toArray, List.set_cons_zero, List.set_cons_succ]); go_simp; first | done | with_reducible rfl)
        try simp only [Act.put, List.setIfInBounds_toArray, List.set_cons_zero, List.set_cons_succ]
        refine tkA 3 (v := .agg #[.int .i64 x.r, .string x.s, .int .i64 x.p]) ?_ (hy := by intro wz hSw; obtain ⟨z0, z1, z2⟩ := HCa.out wz hSw; have hP9 := HP.out; (try simp only [Act.put, List.setIfInBounds_toArray, List.set_cons_zero, List.set_cons_succ]); go_simp; first | done | with_reducible rfl)
        try simp only [Act.put, List.setIfInBounds_toArray, List.set_cons_zero, List.set_cons_succ]
        refine tkA 7 ?_ (hy := by intro wz hSw; obtain ⟨z0, z1, z2⟩ := HCa.out wz hSw; have hP9 := HP.out; (try simp only [Act.put, List.setIfInBounds_toArray, List.set_cons_zero, List.set_cons_succ]); go_simp; first | done | with_reducible rfl)
        try simp only [Act.put, List.setIfInBounds_toArray, List.set_cons_zero, List.set_cons_succ]
        refine tkA 8 ?_ (hy := by intro wz hSw; obtain ⟨z0, z1, z2⟩ := HCa.out wz hSw; have hP9 := HP.out; (try simp only [Act.put, List.setIfInBounds_toArray, List.set_cons_zero, List.set_cons_succ]); go_simp; first | done | with_reducible rfl)
        try simp only [Act.put, List.setIfInBounds_toArray, List.set_cons_zero, List.set_cons_succ]
        refine rd1 4 (fun K hK => ?_)
        go_simp
        go_at_call 22
        refine (HOa.out _).mono ?_
        rintro e w3 ⟨rfl, b3⟩
        have H3 := Lib.hid (And.intro (ownsRow_keep HD.out.1 b3) (HD.out.2.trans (b3.mono HD.out.2.size)))
        clear b3
        try go_wp2_with fail
        refine hK.out _ _ H3.out.2 (fun hHeld => ?_)
        clear hK K
        try simp only [Act.put, List.setIfInBounds_toArray, List.set_cons_zero, List.set_cons_succ]
        refine rd1 5 (fun K hK => ?_)
        go_simp
        have k7 := al w3 (.cells #[.int .i64 x.r, .string x.s, .int .i64 x.p] 32)
        have H7 := Lib.hid (And.intro (ownsRow_keep H3.out.1 k7) (And.intro (H3.out.2.trans (k7.mono H3.out.2.size)) (Bl.new w3 32 #[.int .i64 x.r, .string x.s, .int .i64 x.p])))
        generalize w3.alloc (.cells #[.int .i64 x.r, .string x.s, .int .i64 x.p] 32) = w7 at H7 ⊢
        clear k7
        refine hK.out _ _ H7.out.2.1 (fun hHeld => ?_)
        clear hK K
        try simp only [Act.put, List.setIfInBounds_toArray, List.set_cons_zero, List.set_cons_succ]
        refine rd1 6 (fun K hK => ?_)
        refine step_append_ownY (by rfl) _ _ _ (by rfl) w.heap.size 32 iT (.agg #[.int .i64 0, .string ⟨#[]⟩, .int .i64 0]) 3 32 Try.underlying23 hiT hT0 hT1 hT2 (by rfl) (by decide) _ p (tks out) (by rfl) H7.out.1 ⟨w3.heap.size, 0, none⟩ 1 1 (#[.int .i64 x.r, .string x.s, .int .i64 x.p]).toList (by rfl) (by rfl) (bl_news H7.out.2.2) (by simp [Value.oneCell']) (by unfold maxLen; omega) (by omega) H7.out.2.1.size ?_
        intro v' w8 hown8 hgrow8
        obtain ⟨a8, c8, rfl⟩ := ownsRow_slice hown8
        have H8 : Hid (w8.ownsRow w.heap.size 32 3 (.slice a8 (p + 1) c8) (p + 1) (tks (out ++ [x])) ∧ Below w.heap.size w w8) := by
          refine ⟨?_, H7.out.2.1.grown hgrow8 H7.out.2.1.size (fun g e => (H7.out.1.lt g e).1)⟩
          rw [tks_append]
          exact hown8
        clear hown8 hgrow8
        refine hK.out _ _ H8.out.2 (fun hHeld => ?_)
        clear hK K
        try simp only [Act.put, List.setIfInBounds_toArray, List.set_cons_zero, List.set_cons_succ]
        refine tkA 9 ?_ (hy := by intro wz hSw; obtain ⟨z0, z1, z2⟩ := HCa.out wz hSw; have hP9 := HP.out; (try simp only [Act.put, List.setIfInBounds_toArray, List.set_cons_zero, List.set_cons_succ]); go_simp; first | done | with_reducible rfl)
        try simp only [Act.put, List.setIfInBounds_toArray, List.set_cons_zero, List.set_cons_succ]
        refine tkA 10 ?_ (hy := by intro wz hSw; obtain ⟨z0, z1, z2⟩ := HCa.out wz hSw; have hP9 := HP.out; (try simp only [Act.put, List.setIfInBounds_toArray, List.set_cons_zero, List.set_cons_succ]); go_simp; first | done | with_reducible rfl)
        try simp only [Act.put, List.setIfInBounds_toArray, List.set_cons_zero, List.set_cons_succ]
        refine wpAnyH_done (by kernel_rfl) ?_ _
        clear hHeld
        go_wp2_with fail
        go_roundw
        case rel => exact ⟨i - 1, 0, p + 1, P, e1 - 1, _, e2, a8, c8, LA', LB, out ++ [x], rfl, rfl, rfl, by omega, hje, by omega, ⟨by rw [List.append_assoc]; exact HM.out, by rw [List.length_append, HI.out.lo]; rfl, HLa.out.1, HI.out.lb, HLa.out.2.1, HI.out.tb, H8.out.1, H8.out.2, HLa.out.2.2, HI.out.sb⟩⟩
        case measure => simp [lnV]; omega
      · have hj : 0 < j := by omega
        have j1 : (0 : Int) < (j : Int) := by omega
        have j3 : (1 : Int) ≤ (j : Int) := by omega
        have j2 : ((j : Int) == 0) = false := by rw [beq_eq_false_iff_ne]; omega
        obtain ⟨y, LB', g2, o2, e9, rfl, hcb, htb⟩ := tk_head e2 HI.out.tb HI.out.lb hj hje
        have HCb := Lib.hid hcb
        have HOb := Lib.hid (fun W => own_any y (HI.out.sb y (by rw [e9]; exact List.mem_cons_self)) W)
        obtain ⟨_, _, x2⟩ := HCa.out wr HI.out.be
        obtain ⟨_, _, y2⟩ := HCb.out wr HI.out.be
        by_cases hyx : y.p < x.p
        · obtain ⟨P, hP⟩ : ∃ P : Option Addr, (if e2 = 1 then some ⟨g2, o2, none⟩ else some ⟨g2, o2 + 3, none⟩) = P := ⟨_, rfl⟩
          rw [hP] at htb
          have HM : Hid (mgF A B = out ++ ([y] ++ mgF LA LB')) := by
            show _ = _
            rw [HI.out.eq, e9, mg_takeB (Or.inr ⟨x, LA', HLa0.out, hyx⟩)]
            rfl
          have HLb : Hid (LB'.length = j - 1 ∧ TkAt w P LB' ∧ ∀ t ∈ LB', t.s.size ≤ 100000) := ⟨by have := HI.out.lb; rw [e9] at this; simp at this; omega, htb, fun t ht => HI.out.sb t (by rw [e9]; exact List.mem_cons_of_mem _ ht)⟩
          clear e9 hcb htb hj0
          have HP := Lib.hid hP
          clear hP
          go_wp2_with fail
          go_quiet (fail)
          clear x2 y2
          have HW : Hid ((wr.drewN nq).ownsRow w.heap.size 32 3 (.slice b p d) p (tks out) ∧ Below w.heap.size w (wr.drewN nq)) := ⟨HI.out.ow, ⟨HI.out.be.os, HI.out.be.tape, HI.out.be.output, HI.out.be.size, HI.out.be.block⟩⟩
          generalize wr.drewN nq = wq at HW ⊢
          go_upto_region 4 with fail
          refine wp_region_held_drew (S := fun W' => Below w.heap.size w W') (by kernel_rfl) (HW.out.2.drew) (fun hHeld => ?_)
          have HD : Hid (wq.drew.ownsRow w.heap.size 32 3 (.slice b p d) p (tks out) ∧ Below w.heap.size w wq.drew) := ⟨HW.out.1, hHeld⟩
          generalize wq.drew = we at HD hHeld ⊢
          refine tkA 0 ?_ (hy := by intro wz hSw; obtain ⟨z0, z1, z2⟩ := HCb.out wz hSw; have hP9 := HP.out; (try simp only [Act.put, List.setIfInBounds_toArray, List.set_cons_zero, List.set_cons_succ]); go_simp; first | done | with_reducible rfl)
          try simp only [Act.put, List.setIfInBounds_toArray, List.set_cons_zero, List.set_cons_succ]
          refine tkA 1 ?_ (hy := by intro wz hSw; obtain ⟨z0, z1, z2⟩ := HCb.out wz hSw; have hP9 := HP.out; (try simp only [Act.put, List.setIfInBounds_toArray, List.set_cons_zero, List.set_cons_succ]); go_simp; first | done | with_reducible rfl)
          try simp only [Act.put, List.setIfInBounds_toArray, List.set_cons_zero, List.set_cons_succ]
          refine tkA 2 ?_ (hy := by intro wz hSw; obtain ⟨z0, z1, z2⟩ := HCb.out wz hSw; have hP9 := HP.out; (try simp only [Act.put, List.setIfInBounds_toArray, List.set_cons_zero, List.set_cons_succ]); go_simp; first | done | with_reducible rfl)
          try simp only [Act.put, List.setIfInBounds_toArray, List.set_cons_zero, List.set_cons_succ]
          refine tkA 3 (v := .agg #[.int .i64 y.r, .string y.s, .int .i64 y.p]) ?_ (hy := by intro wz hSw; obtain ⟨z0, z1, z2⟩ := HCb.out wz hSw; have hP9 := HP.out; (try simp only [Act.put, List.setIfInBounds_toArray, List.set_cons_zero, List.set_cons_succ]); go_simp; first | done | with_reducible rfl)
          try simp only [Act.put, List.setIfInBounds_toArray, List.set_cons_zero, List.set_cons_succ]
          refine tkA 7 ?_ (hy := by intro wz hSw; obtain ⟨z0, z1, z2⟩ := HCb.out wz hSw; have hP9 := HP.out; (try simp only [Act.put, List.setIfInBounds_toArray, List.set_cons_zero, List.set_cons_succ]); go_simp; first | done | with_reducible rfl)
          try simp only [Act.put, List.setIfInBounds_toArray, List.set_cons_zero, List.set_cons_succ]
          refine tkA 8 ?_ (hy := by intro wz hSw; obtain ⟨z0, z1, z2⟩ := HCb.out wz hSw; have hP9 := HP.out; (try simp only [Act.put, List.setIfInBounds_toArray, List.set_cons_zero, List.set_cons_succ]); go_simp; first | done | with_reducible rfl)
          try simp only [Act.put, List.setIfInBounds_toArray, List.set_cons_zero, List.set_cons_succ]
          refine rd1 4 (fun K hK => ?_)
          go_simp
          go_at_call 22
          refine (HOb.out _).mono ?_
          rintro e w3 ⟨rfl, b3⟩
          have H3 := Lib.hid (And.intro (ownsRow_keep HD.out.1 b3) (HD.out.2.trans (b3.mono HD.out.2.size)))
          clear b3
          try go_wp2_with fail
          refine hK.out _ _ H3.out.2 (fun hHeld => ?_)
          clear hK K
          try simp only [Act.put, List.setIfInBounds_toArray, List.set_cons_zero, List.set_cons_succ]
          refine rd1 5 (fun K hK => ?_)
          go_simp
          have k7 := al w3 (.cells #[.int .i64 y.r, .string y.s, .int .i64 y.p] 32)
          have H7 := Lib.hid (And.intro (ownsRow_keep H3.out.1 k7) (And.intro (H3.out.2.trans (k7.mono H3.out.2.size)) (Bl.new w3 32 #[.int .i64 y.r, .string y.s, .int .i64 y.p])))
          generalize w3.alloc (.cells #[.int .i64 y.r, .string y.s, .int .i64 y.p] 32) = w7 at H7 ⊢
          clear k7
          refine hK.out _ _ H7.out.2.1 (fun hHeld => ?_)
          clear hK K
          try simp only [Act.put, List.setIfInBounds_toArray, List.set_cons_zero, List.set_cons_succ]
          refine rd1 6 (fun K hK => ?_)
          refine step_append_ownY (by rfl) _ _ _ (by rfl) w.heap.size 32 iT (.agg #[.int .i64 0, .string ⟨#[]⟩, .int .i64 0]) 3 32 Try.underlying23 hiT hT0 hT1 hT2 (by rfl) (by decide) _ p (tks out) (by rfl) H7.out.1 ⟨w3.heap.size, 0, none⟩ 1 1 (#[.int .i64 y.r, .string y.s, .int .i64 y.p]).toList (by rfl) (by rfl) (bl_news H7.out.2.2) (by simp [Value.oneCell']) (by unfold maxLen; omega) (by omega) H7.out.2.1.size ?_
          intro v' w8 hown8 hgrow8
          obtain ⟨a8, c8, rfl⟩ := ownsRow_slice hown8
          have H8 : Hid (w8.ownsRow w.heap.size 32 3 (.slice a8 (p + 1) c8) (p + 1) (tks (out ++ [y])) ∧ Below w.heap.size w w8) := by
            refine ⟨?_, H7.out.2.1.grown hgrow8 H7.out.2.1.size (fun g e => (H7.out.1.lt g e).1)⟩
            rw [tks_append]
            exact hown8
          clear hown8 hgrow8
          refine hK.out _ _ H8.out.2 (fun hHeld => ?_)
          clear hK K
          try simp only [Act.put, List.setIfInBounds_toArray, List.set_cons_zero, List.set_cons_succ]
          refine tkA 9 ?_ (hy := by intro wz hSw; obtain ⟨z0, z1, z2⟩ := HCb.out wz hSw; have hP9 := HP.out; (try simp only [Act.put, List.setIfInBounds_toArray, List.set_cons_zero, List.set_cons_succ]); go_simp; first | done | with_reducible rfl)
          try simp only [Act.put, List.setIfInBounds_toArray, List.set_cons_zero, List.set_cons_succ]
          refine tkA 10 ?_ (hy := by intro wz hSw; obtain ⟨z0, z1, z2⟩ := HCb.out wz hSw; have hP9 := HP.out; (try simp only [Act.put, List.setIfInBounds_toArray, List.set_cons_zero, List.set_cons_succ]); go_simp; first | done | with_reducible rfl)
          try simp only [Act.put, List.setIfInBounds_toArray, List.set_cons_zero, List.set_cons_succ]
          refine wpAnyH_done (by kernel_rfl) ?_ _
          clear hHeld
          go_wp2_with fail
          go_roundw
          case rel => exact ⟨i, j - 1, p + 1, _, e1, P, e2 - 1, a8, c8, LA, LB', out ++ [y], rfl, rfl, rfl, hie, by omega, by omega, ⟨by rw [List.append_assoc]; exact HM.out, by rw [List.length_append, HI.out.lo]; rfl, HI.out.la, HLb.out.1, HI.out.ta, HLb.out.2.1, H8.out.1, H8.out.2, HI.out.sa, HLb.out.2.2⟩⟩
          case measure => simp [lnV]; omega
        · obtain ⟨P, hP⟩ : ∃ P : Option Addr, (if e1 = 1 then some ⟨g1, o1, none⟩ else some ⟨g1, o1 + 3, none⟩) = P := ⟨_, rfl⟩
          have HLa := Lib.hid (HLa.out P hP)
          have HM : Hid (mgF A B = out ++ ([x] ++ mgF LA' LB)) := by
            show _ = _
            rw [HI.out.eq, HLa0.out, mg_takeA (Or.inr ⟨y, LB', e9, hyx⟩)]
            rfl
          clear e9 hcb htb hj0
          have HP := Lib.hid hP
          clear hP
          go_wp2_with fail
          go_quiet (fail)
          clear x2 y2
          have HW : Hid ((wr.drewN nq).ownsRow w.heap.size 32 3 (.slice b p d) p (tks out) ∧ Below w.heap.size w (wr.drewN nq)) := ⟨HI.out.ow, ⟨HI.out.be.os, HI.out.be.tape, HI.out.be.output, HI.out.be.size, HI.out.be.block⟩⟩
          generalize wr.drewN nq = wq at HW ⊢
          go_upto_region 5 with fail
          refine wp_region_held_drew (S := fun W' => Below w.heap.size w W') (by kernel_rfl) (HW.out.2.drew) (fun hHeld => ?_)
          have HD : Hid (wq.drew.ownsRow w.heap.size 32 3 (.slice b p d) p (tks out) ∧ Below w.heap.size w wq.drew) := ⟨HW.out.1, hHeld⟩
          generalize wq.drew = we at HD hHeld ⊢
          refine tkA 0 ?_ (hy := by intro wz hSw; obtain ⟨z0, z1, z2⟩ := HCa.out wz hSw; have hP9 := HP.out; (try simp only [Act.put, List.setIfInBounds_toArray, List.set_cons_zero, List.set_cons_succ]); go_simp; first | done | with_reducible rfl)
          try simp only [Act.put, List.setIfInBounds_toArray, List.set_cons_zero, List.set_cons_succ]
          refine tkA 1 ?_ (hy := by intro wz hSw; obtain ⟨z0, z1, z2⟩ := HCa.out wz hSw; have hP9 := HP.out; (try simp only [Act.put, List.setIfInBounds_toArray, List.set_cons_zero, List.set_cons_succ]); go_simp; first | done | with_reducible rfl)
          try simp only [Act.put, List.setIfInBounds_toArray, List.set_cons_zero, List.set_cons_succ]
          refine tkA 2 ?_ (hy := by intro wz hSw; obtain ⟨z0, z1, z2⟩ := HCa.out wz hSw; have hP9 := HP.out; (try simp only [Act.put, List.setIfInBounds_toArray, List.set_cons_zero, List.set_cons_succ]); go_simp; first | done | with_reducible rfl)
          try simp only [Act.put, List.setIfInBounds_toArray, List.set_cons_zero, List.set_cons_succ]
          refine tkA 3 (v := .agg #[.int .i64 x.r, .string x.s, .int .i64 x.p]) ?_ (hy := by intro wz hSw; obtain ⟨z0, z1, z2⟩ := HCa.out wz hSw; have hP9 := HP.out; (try simp only [Act.put, List.setIfInBounds_toArray, List.set_cons_zero, List.set_cons_succ]); go_simp; first | done | with_reducible rfl)
          try simp only [Act.put, List.setIfInBounds_toArray, List.set_cons_zero, List.set_cons_succ]
          refine tkA 7 ?_ (hy := by intro wz hSw; obtain ⟨z0, z1, z2⟩ := HCa.out wz hSw; have hP9 := HP.out; (try simp only [Act.put, List.setIfInBounds_toArray, List.set_cons_zero, List.set_cons_succ]); go_simp; first | done | with_reducible rfl)
          try simp only [Act.put, List.setIfInBounds_toArray, List.set_cons_zero, List.set_cons_succ]
          refine tkA 8 ?_ (hy := by intro wz hSw; obtain ⟨z0, z1, z2⟩ := HCa.out wz hSw; have hP9 := HP.out; (try simp only [Act.put, List.setIfInBounds_toArray, List.set_cons_zero, List.set_cons_succ]); go_simp; first | done | with_reducible rfl)
          try simp only [Act.put, List.setIfInBounds_toArray, List.set_cons_zero, List.set_cons_succ]
          refine rd1 4 (fun K hK => ?_)
          go_simp
          go_at_call 22
          refine (HOa.out _).mono ?_
          rintro e w3 ⟨rfl, b3⟩
          have H3 := Lib.hid (And.intro (ownsRow_keep HD.out.1 b3) (HD.out.2.trans (b3.mono HD.out.2.size)))
          clear b3
          try go_wp2_with fail
          refine hK.out _ _ H3.out.2 (fun hHeld => ?_)
          clear hK K
          try simp only [Act.put, List.setIfInBounds_toArray, List.set_cons_zero, List.set_cons_succ]
          refine rd1 5 (fun K hK => ?_)
          go_simp
          have k7 := al w3 (.cells #[.int .i64 x.r, .string x.s, .int .i64 x.p] 32)
          have H7 := Lib.hid (And.intro (ownsRow_keep H3.out.1 k7) (And.intro (H3.out.2.trans (k7.mono H3.out.2.size)) (Bl.new w3 32 #[.int .i64 x.r, .string x.s, .int .i64 x.p])))
          generalize w3.alloc (.cells #[.int .i64 x.r, .string x.s, .int .i64 x.p] 32) = w7 at H7 ⊢
          clear k7
          refine hK.out _ _ H7.out.2.1 (fun hHeld => ?_)
          clear hK K
          try simp only [Act.put, List.setIfInBounds_toArray, List.set_cons_zero, List.set_cons_succ]
          refine rd1 6 (fun K hK => ?_)
          refine step_append_ownY (by rfl) _ _ _ (by rfl) w.heap.size 32 iT (.agg #[.int .i64 0, .string ⟨#[]⟩, .int .i64 0]) 3 32 Try.underlying23 hiT hT0 hT1 hT2 (by rfl) (by decide) _ p (tks out) (by rfl) H7.out.1 ⟨w3.heap.size, 0, none⟩ 1 1 (#[.int .i64 x.r, .string x.s, .int .i64 x.p]).toList (by rfl) (by rfl) (bl_news H7.out.2.2) (by simp [Value.oneCell']) (by unfold maxLen; omega) (by omega) H7.out.2.1.size ?_
          intro v' w8 hown8 hgrow8
          obtain ⟨a8, c8, rfl⟩ := ownsRow_slice hown8
          have H8 : Hid (w8.ownsRow w.heap.size 32 3 (.slice a8 (p + 1) c8) (p + 1) (tks (out ++ [x])) ∧ Below w.heap.size w w8) := by
            refine ⟨?_, H7.out.2.1.grown hgrow8 H7.out.2.1.size (fun g e => (H7.out.1.lt g e).1)⟩
            rw [tks_append]
            exact hown8
          clear hown8 hgrow8
          refine hK.out _ _ H8.out.2 (fun hHeld => ?_)
          clear hK K
          try simp only [Act.put, List.setIfInBounds_toArray, List.set_cons_zero, List.set_cons_succ]
          refine tkA 9 ?_ (hy := by intro wz hSw; obtain ⟨z0, z1, z2⟩ := HCa.out wz hSw; have hP9 := HP.out; (try simp only [Act.put, List.setIfInBounds_toArray, List.set_cons_zero, List.set_cons_succ]); go_simp; first | done | with_reducible rfl)
          try simp only [Act.put, List.setIfInBounds_toArray, List.set_cons_zero, List.set_cons_succ]
          refine tkA 10 ?_ (hy := by intro wz hSw; obtain ⟨z0, z1, z2⟩ := HCa.out wz hSw; have hP9 := HP.out; (try simp only [Act.put, List.setIfInBounds_toArray, List.set_cons_zero, List.set_cons_succ]); go_simp; first | done | with_reducible rfl)
          try simp only [Act.put, List.setIfInBounds_toArray, List.set_cons_zero, List.set_cons_succ]
          refine wpAnyH_done (by kernel_rfl) ?_ _
          clear hHeld
          go_wp2_with fail
          go_roundw
          case rel => exact ⟨i - 1, j, p + 1, P, e1 - 1, _, e2, a8, c8, LA', LB, out ++ [x], rfl, rfl, rfl, by omega, hje, by omega, ⟨by rw [List.append_assoc]; exact HM.out, by rw [List.length_append, HI.out.lo]; rfl, HLa.out.1, HI.out.lb, HLa.out.2.1, HI.out.tb, H8.out.1, H8.out.2, HLa.out.2.2, HI.out.sb⟩⟩
          case measure => simp [lnV]; omega
end Go.Proofs.Ytghhjonhmelohaa
