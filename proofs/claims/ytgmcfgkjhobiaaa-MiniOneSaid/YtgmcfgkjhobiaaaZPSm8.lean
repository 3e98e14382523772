import Derived.Test.YtgmcfgkjhobiaaaZPMcW
import Derived.Test.YtgmcfgkjhobiaaaZTLaw
import Derived.BigQuiet
import Derived.Deep.QuietTactic
namespace Go.Proofs.Ytgmcfgkjhobiaaa
open Go.RowKit Go.Maps Go.WideElems Go.ChangeMaps Go.MapKept
set_option linter.unusedVariables false
set_option linter.unusedSimpArgs false

theorem DM.markAt {w : World} {D : Dd} (h : DM w D) {g off : Nat} (e : D.aM = some ⟨g, off, none⟩) {i : Nat} (hi : i < D.m) : w.cell? ⟨g, off + i, none⟩ = some (.int .i64 (D.q i)) := by
  obtain ⟨g', off', e', _, h1⟩ := h.rM (by omega)
  rw [e] at e'
  injection e' with e'
  injection e' with e1 e2
  subst e1 e2
  exact h1 i hi
theorem DM.cellAt {w : World} {D : Dd} {C : Nat} (h : DM w D) (hR : DR D C) {g off : Nat} (e : D.aN = some ⟨g, off, none⟩) {i c : Nat} (hi : i < D.n) (hc : c < C) : ∃ gA oA cA, w.cell? ⟨g, off + i, none⟩ = some (.slice (some ⟨gA, oA, none⟩) C cA) ∧ w.cell? ⟨gA, oA + c, none⟩ = some (.int .i64 (D.nx i c)) := by
  obtain ⟨h1, h2⟩ := h.rowAt e hi
  rw [hR.len i hi] at h1 h2
  obtain ⟨gA, oA, eA, _, h3⟩ := h2 (by omega)
  rw [eA] at h1
  exact ⟨gA, oA, _, h1, h3 c hc⟩
theorem neq_cls10 (K : Nat → Nat) (W : World) : (binOp .neq 22 (.agg (clsOf K)) (.agg (clsOf K))).run Try.prog W = .ok (.bool false) W := by
  obtain ⟨i0, hi, _, _, _⟩ := info_parts Try.info_u8
  have h : (Op.equalIn 10000 22 (.agg (clsOf K)) (.agg (clsOf K))).run Try.prog W = .ok true W := by
    rw [run_equalIn_array W 9999 (clsOf K) (clsOf K) Try.underlying22 hi]
    exact eq_items10 9998 (clsOf K) W (fun j hj => ⟨_, clsOf_at K j hj⟩) _ (fun i hi => by simpa using hi)
  have h2 : (Op.equal 22 (.agg (clsOf K)) (.agg (clsOf K))).run Try.prog W = .ok true W := h
  unfold binOp
  simp only [Sem.run_bind, h2, Result.andThen_ok, Sem.run_pure]
  rfl
/-- Two automata that are alike. -/
structure Alk (X Y : Dd) (C : Nat) : Prop where
  x : DR X C
  y : DR Y C
  K : ∀ b, b < 256 → X.K b = Y.K b
  n : X.n = Y.n
  q : ∀ i, i < X.n → X.q i = Y.q i
  nx : ∀ i c, i < X.n → c < C → X.nx i c = Y.nx i c

set_option maxHeartbeats 4000000 in
set_option maxRecDepth 100000 in
theorem rsame8_yes (X Y : Dd) (C : Nat) (hA : Alk X Y C) (w : World) (h1 : DM w X) (h2 : DM w Y) :
    Calls Try.prog 14 #[.agg X.cD, .agg Y.cD] w fun e w' => e = .returned (.bool true) ∧ Below w.heap.size w w' := by
  have k1 := al w (.cells X.cD 26)
  have k2 := al (w.alloc (.cells X.cD 26)) (.cells Y.cD 26)
  have HB : Hid (DBx ((w.alloc (.cells X.cD 26)).alloc (.cells Y.cD 26)) w.heap.size X ∧ DBx ((w.alloc (.cells X.cD 26)).alloc (.cells Y.cD 26)) (w.heap.size + 1) Y ∧ Below w.heap.size w ((w.alloc (.cells X.cD 26)).alloc (.cells Y.cD 26))) := by
    refine ⟨(DBx.new h1).keep k2, ?_, k1.trans (k2.mono k1.size)⟩
    have := DBx.new (h2.below k1)
    simpa using this
  have hn2 := hA.x.n2
  have hn1 := hA.x.n1
  have hC6 := (hA.x.c256 h1.kl).2
  have hc := clsOf_congr hA.K
  have he := neq_cls10 X.K
  have hi1 := clsOf_info X.K
  have HA := Lib.hid hA
  clear h1 h2 k1 k2 hA
  go_enter Try.func14, Try.ntmps14
  go_upto_region 1 with fail
  generalize (w.alloc (.cells X.cD 26)).alloc (.cells Y.cD 26) = W at HB ⊢
  obtain ⟨b2, hb2⟩ : ∃ b2, w.heap.size + 1 = b2 := ⟨_, rfl⟩
  obtain ⟨b1, hb1⟩ : ∃ b1, w.heap.size = b1 := ⟨_, rfl⟩
  rw [hb2, hb1] at HB
  rw [hb2, hb1]
  have Hb := Lib.hid hb1
  clear hb1 hb2
  obtain ⟨N, hN⟩ : ∃ N, X.n = N := ⟨_, rfl⟩
  have hN2 : Y.n = N := by rw [← HA.out.n]; exact hN
  have hM1 : X.m = N := by rw [HA.out.x.m]; exact hN
  have hM2 : Y.m = N := by rw [HA.out.y.m]; exact hN2
  have HN := Lib.hid (And.intro hN (And.intro hN2 (And.intro hM1 hM2)))
  rw [hN] at hn1 hn2
  clear hN hN2 hM1 hM2
  obtain ⟨gX, oX, eX, _, _, _⟩ := HB.out.1.dm.row 0 (by rw [HN.out.1]; omega)
  obtain ⟨gY, oY, eY, _, _, _⟩ := HB.out.2.1.dm.row 0 (by rw [HN.out.2.1]; omega)
  obtain ⟨mX, pX, fX, _, _⟩ := HB.out.1.dm.rM (by rw [HN.out.2.2.1]; omega)
  obtain ⟨mY, pY, fY, _, _⟩ := HB.out.2.1.dm.rM (by rw [HN.out.2.2.2]; omega)
  have HE := Lib.hid (And.intro eX (And.intro eY (And.intro fX fY)))
  clear eX eY fX fY
  have HC4 : Hid (∀ W', Below W.heap.size W W' → W'.cell? ⟨b1, 256, none⟩ = some (.slice (some ⟨gX, oX, none⟩) N X.cN) ∧ W'.cell? ⟨b2, 256, none⟩ = some (.slice (some ⟨gY, oY, none⟩) N Y.cN) ∧ W'.cell? ⟨b1, 257, none⟩ = some (.slice (some ⟨mX, pX, none⟩) N X.cM) ∧ W'.cell? ⟨b2, 257, none⟩ = some (.slice (some ⟨mY, pY, none⟩) N Y.cM)) := fun W' h => by
    have x1 := (HB.out.1.keep h).f1
    have y1 := (HB.out.2.1.keep h).f1
    have x2 := (HB.out.1.keep h).f2
    have y2 := (HB.out.2.1.keep h).f2
    rw [HE.out.1, HN.out.1] at x1
    rw [HE.out.2.1, HN.out.2.1] at y1
    rw [HE.out.2.2.1, HN.out.2.2.1] at x2
    rw [HE.out.2.2.2, HN.out.2.2.2] at y2
    exact ⟨x1, y1, x2, y2⟩
  have HMk : Hid (∀ W', Below W.heap.size W W' → ∀ i, i < N → W'.cell? ⟨mX, pX + i, none⟩ = some (.int .i64 (X.q i)) ∧ W'.cell? ⟨mY, pY + i, none⟩ = some (.int .i64 (X.q i))) := fun W' h i hi => by
    refine ⟨(HB.out.1.keep h).dm.markAt HE.out.2.2.1 (by rw [HN.out.2.2.1]; exact hi), ?_⟩
    rw [HA.out.q i (by rw [HN.out.1]; exact hi)]
    exact (HB.out.2.1.keep h).dm.markAt HE.out.2.2.2 (by rw [HN.out.2.2.2]; exact hi)
  have HCl : Hid (∀ W', Below W.heap.size W W' → ∀ i, i < N → ∃ gA oA cA gB oB cB, W'.cell? ⟨gX, oX + i, none⟩ = some (.slice (some ⟨gA, oA, none⟩) C cA) ∧ W'.cell? ⟨gY, oY + i, none⟩ = some (.slice (some ⟨gB, oB, none⟩) C cB) ∧ ∀ c, c < C → W'.cell? ⟨gA, oA + c, none⟩ = some (.int .i64 (X.nx i c)) ∧ W'.cell? ⟨gB, oB + c, none⟩ = some (.int .i64 (X.nx i c))) := fun W' h i hi => by
    have i1 : i < X.n := by rw [HN.out.1]; exact hi
    have i2 : i < Y.n := by rw [HN.out.2.1]; exact hi
    obtain ⟨h1, h2⟩ := (HB.out.1.keep h).dm.rowAt HE.out.1 i1
    obtain ⟨h3, h4⟩ := (HB.out.2.1.keep h).dm.rowAt HE.out.2.1 i2
    rw [HA.out.x.len i i1] at h1 h2
    rw [HA.out.y.len i i2] at h3 h4
    have hC1 : 0 < C := by have := HA.out.x.c.1 0 (by omega); omega
    obtain ⟨gA, oA, eA, _, cA⟩ := h2 hC1
    obtain ⟨gB, oB, eB, _, cB⟩ := h4 hC1
    rw [eA] at h1
    rw [eB] at h3
    exact ⟨gA, oA, _, gB, oB, _, h1, h3, fun c hc => ⟨cA c hc, by rw [HA.out.nx i c i1 hc]; exact cB c hc⟩⟩
  have HFw : Hid (∀ W', Below W.heap.size W W' → Below w.heap.size w W') := fun W' h => by
    rw [Hb.out]
    exact HB.out.2.2.trans (h.mono (by have := HB.out.2.2.size; have := Hb.out; omega))
  have hp2 : ∀ j v, (clsOf X.K).toList[j]? = some v → W.cell? ((⟨b2, 0, none⟩ : Addr).add j) = some v := by rw [hc]; exact HB.out.2.1.clsPart
  have Hp2 := Lib.hid hp2
  obtain ⟨x1, y1, x2, y2⟩ := HC4.out W (Below.refl _ _)
  clear hp2 hc
  go_wp2_with (first
    | (refine wpList_load_part rfl 22 _ rfl ⟨b1, 0, none⟩ rfl (clsOf X.K) (.array 256 5) HB.out.1.clsPart Try.underlying22 rfl hi1 ?_)
    | (refine wpList_load_part rfl 22 _ rfl ⟨b2, 0, none⟩ rfl (clsOf X.K) (.array 256 5) Hp2.out Try.underlying22 rfl hi1 ?_))
  clear x1 y1 x2 y2
  go_loopw [5] (fun v wr => ∃ (i : Nat), v = .int .i64 i ∧ i ≤ N ∧ Hid (Below W.heap.size W wr)) (fun v _ => N - (intOf v).toNat)
  case atStart => exact ⟨0, rfl, by omega, Below.refl _ _⟩
  case round =>
    obtain ⟨i, rfl, hi, HL⟩ := hrel
    obtain ⟨x1, y1, x2, y2⟩ := HC4.out wr HL.out
    by_cases hlt : i < N
    · obtain ⟨m1, m2⟩ := HMk.out wr HL.out i hlt
      have i1 : (i : Int) < (N : Int) := by omega
      generalize X.q i = q9 at m1 m2
      go_wp2_with fail
      go_quiet (fail)
      rename_i nq
      have HL2 : Hid (Below W.heap.size W (wr.drewN nq)) := below_drewN HL.out _
      go_wp2_with fail
      go_roundw
      case rel => exact ⟨i + 1, by go_num, by omega, HL2.out⟩
      case measure => simp [intOf]; omega
    · obtain rfl : i = N := by omega
      clear hlt
      have HL9 := Lib.hid HL.out
      go_wp2_with fail
      clear x1 y1 x2 y2
      go_loopw [6, 7] (fun v _ wr => ∃ (i9 : Nat), v = .int .i64 i9 ∧ i9 ≤ i ∧ Hid (Below W.heap.size W wr)) (fun v _ _ => i - (intOf v).toNat)
      case atStart => exact ⟨0, rfl, by omega, HL9.out⟩
      case round =>
        clear HL9 HL
        obtain ⟨k, rfl, hk, HL⟩ := hrel
        obtain ⟨x1, y1, x2, y2⟩ := HC4.out wr HL.out
        by_cases hlt : k < i
        · obtain ⟨gA, oA, cA, gB, oB, cB, r1, r2, _⟩ := HCl.out wr HL.out k hlt
          have i1 : (k : Int) < (i : Int) := by omega
          go_wp2_with fail
          go_quiet (fail)
          rename_i nq
          have HL2 : Hid (Below W.heap.size W (wr.drewN nq)) := below_drewN HL.out _
          clear x1 y1 x2 y2 r1 r2
          go_wp2_with fail
          go_loopw [7] (fun v wq => ∃ (c : Nat), v = .int .i64 c ∧ c ≤ C ∧ Hid (Below W.heap.size W wq)) (fun v _ => C - (intOf v).toNat)
          case atStart => exact ⟨0, rfl, by omega, HL2.out⟩
          case round =>
            obtain ⟨c, rfl, hc, HL⟩ := hrel
            obtain ⟨x1, y1, x2, y2⟩ := HC4.out wr HL.out
            obtain ⟨gA, oA, cA, gB, oB, cB, r1, r2, rc⟩ := HCl.out wr HL.out k hlt
            by_cases hlc : c < C
            · obtain ⟨m1, m2⟩ := rc c hlc
              have i2 : (c : Int) < (C : Int) := by omega
              generalize X.nx k c = q9 at m1 m2
              clear rc
              go_wp2_with fail
              go_quiet (fail)
              rename_i nq
              have HL2 : Hid (Below W.heap.size W (wr.drewN nq)) := below_drewN HL.out _
              go_wp2_with fail
              go_roundw
              case rel => exact ⟨c + 1, by go_num, by omega, HL2.out⟩
              case measure => simp [intOf]; omega
            · obtain rfl : c = C := by omega
              clear rc
              go_wp2_with fail
              go_roundw
              case rel => exact ⟨k + 1, by go_num, by omega, HL.out⟩
              case measure => simp [intOf]; omega
        · obtain rfl : k = i := by omega
          have HF := Lib.hid (HFw.out wr HL.out)
          go_wp2_with fail
          go_ret
          exact ⟨rfl, HF.out⟩
end Go.Proofs.Ytgmcfgkjhobiaaa
