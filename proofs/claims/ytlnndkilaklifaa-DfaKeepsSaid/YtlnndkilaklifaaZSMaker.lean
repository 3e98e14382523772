import Derived.Test.YtlnndkilaklifaaZSNetF
import Derived.Deep.RegionWith
import Derived.Deep.RegionHeld3
import Derived.IntWalk
namespace Go.Proofs.Ytlnndkilaklifaa
open Go.RowKit Go.Maps Go.WideElems Go.ChangeMaps Go.MapKept
set_option linter.unusedVariables false
set_option linter.unusedSimpArgs false

theorem exec_load_part9 {P : Program} {o : Oper} {ev : Operand → Value} (hg : o.guard = none) (ty : TypeId) (x : Operand) (ho : o.op = .load ty x) (ad : Addr) (hx : ev x = .pointer (some ad)) (cs : Array Value) (d : TypeDesc) (w : World) (hc : ∀ j v, cs.toList[j]? = some v → w.cell? (ad.add j) = some v)
    (hu : P.underlying ty = some d) (hd : (match d with | .struct _ | .array _ _ => true | _ => false) = true) (hi : (P.info? ty).map (·.size) = some cs.size) : (execOp ev o).run P w = .ok (.value (.agg cs)) w := by
  unfold execOp
  simp only [ho, hx, Instr.loadAt, Instr.sureAddr, Sem.run_bind, Sem.run_pure, Result.andThen_ok, run_loadVar_part w ad ty cs d hc hu hd hi]
theorem exec_build9 {P : Program} {o : Oper} {ev : Operand → Value} (hg : o.guard = none) (t : TypeId) (parts : Array (Nat × Operand)) (ho : o.op = .build t parts) (ps : Array (Nat × Value)) (hp : (parts.map fun (i, x) => (i, ev x)) = ps) (v : Value) {w : World} (hb : (Instr.build t ps).run P w = .ok v w) : (execOp ev o).run P w = .ok (.value v) w := by
  unfold execOp
  simp only [ho, hp, Sem.run_bind, hb, Result.andThen_ok, Sem.run_pure]
theorem make_u8s9 (N : Nat) (hN : N ≤ 2147483647) (W : World) : (Instr.makeSlice 91 (.int .i64 ((N : Nat) : Int)) (.int .i64 ((N : Nat) : Int))).run Try.prog W = .ok (.slice (some ⟨W.heap.size, 0, none⟩) N N) (W.alloc (.cells (madeCells #[.int .u8 0] N) 5)) := by
  have := run_make_row' (P := Try.prog) 91 5 (.int .u8 0) 1 Try.underlying91 Try.info_u8 rfl .i64 .i64 N (by omega) (by omega) W
  simpa using this
/-- The maker's beginning. -/
theorem mk_start {w w' : World} {B bm gI bM m M C bn : Nat} {K : Nat → Lit} {L : List En} {mk : Nat → Int} {csA cK : Array Value} (hw : Below B w w') (hB : B ≤ w'.heap.size) (hm : St w' 93 bm cK) (hi : w'.ownsRow B 5 1 (.slice (some ⟨gI, 0, none⟩) m m) m (List.replicate m (.int .u8 0))) (hM : MapEx w' 9 bM 0 (MQ M []))
    (hcl : ∀ j, j < 256 → csA[j]? = some (.int .u8 ((cls K j : Nat) : Int)))
    (hc : cK.size = 263 ∧ cK[0]? = some (.pointer (some ⟨bn, 0, none⟩)) ∧ (∀ j, j < 256 → cK[1 + j]? = csA[j]?) ∧ cK[257]? = some (.slice none 0 0) ∧ cK[258]? = some (.slice none 0 0) ∧ cK[259]? = some (.slice none 0 0) ∧ cK[260]? = some (.map (some bM)) ∧ cK[261]? = some (.slice (some ⟨gI, 0, none⟩) m m) ∧ cK[262]? = some (.slice none 0 0))
    (h1 : B ≤ bm) (h2 : B ≤ gI) (h3 : B ≤ bM) : MkS B bm gI bM m M C bn K L mk [] [] [] [] 0 cK [] (.slice none 0 0) (.slice none 0 0) (.slice none 0 0) (.slice none 0 0) [] w' := by
  obtain ⟨z, c0, cc, c7, c8, c9, c10, c11, c12⟩ := hc
  refine ⟨⟨⟨Kept.refl _ _ _, Below.refl _ _, by rw [set_same9 cK 262 _ c12]; exact hm, z, c11, ?_, World.ownsRow_nil _ _ _ _, fun b e => by simp [Value.ownBlock] at e, ⟨by simp [bsA], by simp [bsA]⟩, h1, h2, hB⟩, List.nodup_nil, fun x hx => by simp at hx⟩,
    ⟨c8, c9, c10, World.ownsRow_nil _ _ _ _, World.ownsRow_nil _ _ _ _, hM, fun b e => by simp [Value.ownBlock] at e, fun b e => by simp [Value.ownBlock] at e, fun b e => by simp [Value.ownBlock] at e, by simp [bsA], h3⟩,
    ⟨fun j hj => by simp at hj, fun p hp => by simp at hp, rfl, fun j hj => by simp at hj⟩, ⟨World.ownsRow_nil _ _ _ _, rfl, fun i hi => by simp at hi⟩, c0, c7, fun j hj => by rw [cc j hj]; exact hcl j hj, Nat.le_refl _⟩
  rw [show (fun x => decide (x ∈ ([] : List Nat))) = fun _ => false from by funext x; simp, rowL_zero]
  exact hi
def MkrP (B m M C bn : Nat) (K : Nat → Lit) (L : List En) (mk : Nat → Int) (w : World) (e : Ending) (w' : World) : Prop :=
  ∃ (bm gI bM : Nat) (cK : Array Value), e = .returned (.pointer (some ⟨bm, 0, none⟩)) ∧ MkS B bm gI bM m M C bn K L mk [] [] [] [] 0 cK [] (.slice none 0 0) (.slice none 0 0) (.slice none 0 0) (.slice none 0 0) [] w' ∧ Below B w w'

set_option maxHeartbeats 1000000 in
set_option maxRecDepth 100000 in
theorem newmaker_any (K : Nat → Lit) (L : List En) (mk : Nat → Int) (csA : Array Value) (bn gM M cM m C : Nat) (w : World) (h : NetCl w w.heap.size bn K csA) (hM : w.cell? ⟨bn, 257, none⟩ = some (.slice (some ⟨gM, 0, none⟩) M cM)) (hM2 : M ≤ 100) (hm : (M + 7) / 8 = m) :
    Calls Try.prog 60 #[.pointer (some ⟨bn, 0, none⟩)] w (MkrP w.heap.size m M C bn K L mk w) := by
  have hinfo : (Try.prog.info? 27).map (·.size) = some csA.size := by rw [h.sz]; kernel_rfl
  obtain ⟨cD, hDs, hD, hMk⟩ := mk_built csA h.sz
  have hm9 := make_u8s9 m (by omega)
  have hmm := @run_makeMap Try.prog
  have hq : Int.tdiv ((M : Int) + 7) 8 = (m : Int) := by rw [Int.tdiv_eq_ediv_of_nonneg (by omega), ← hm]; omega
  have hw1 : IntKind.i64.wrap ((M : Int) + 7) = (M : Int) + 7 := IntWalk.i64_in _ (by omega)
  have hw2 : IntKind.i64.wrap (m : Int) = (m : Int) := IntWalk.i64_in _ (by omega)
  have H := Lib.hid h
  have hbn := h.blk
  have HS0 := Lib.hid (fun (W' : World) (k : Below w.heap.size w W') => (⟨fun j v hj => (by
      have e : (⟨bn, 0, none⟩ : Addr).add j = ⟨bn, j, none⟩ := by unfold Addr.add; split <;> simp_all
      have h2 := h.at_ j v hj
      rw [e] at h2 ⊢
      exact (k.cell (p := ⟨bn, j, none⟩) hbn).trans h2), (k.cell (p := ⟨bn, 257, none⟩) hbn).trans hM⟩ :
    (∀ j v, csA.toList[j]? = some v → W'.cell? ((⟨bn, 0, none⟩ : Addr).add j) = some v) ∧ W'.cell? ⟨bn, 257, none⟩ = some (.slice (some ⟨gM, 0, none⟩) M cM)))
  have mI : ∀ (W : World), w.heap.size ≤ W.heap.size → (W.alloc (.cells (madeCells #[.int .u8 0] m) 5)).ownsRow w.heap.size 5 1 (.slice (some ⟨W.heap.size, 0, none⟩) m m) m (List.replicate m (.int .u8 0)) := fun W hW => made_own W w.heap.size m 5 (.int .u8 0) hW (by unfold maxLen; omega)
  have HBa : Below w.heap.size w ((w.alloc (.map #[] 0)).alloc (.cells (madeCells #[.int .u8 0] m) 5)).drew := ((al w _).trans ((al _ _).mono (by simp))).drew
  have HBb : Below w.heap.size w ((w.alloc (.cells (madeCells #[.int .u8 0] m) 5)).alloc (.map #[] 0)).drew := ((al w _).trans ((al _ _).mono (by simp))).drew
  have HB3a : ∀ cK : Array Value, Below w.heap.size w (((w.alloc (.map #[] 0)).alloc (.cells (madeCells #[.int .u8 0] m) 5)).alloc (.cells cK 93)).drew := fun cK => (((al w _).trans ((al _ _).mono (by simp))).trans ((al _ _).mono (by simp; omega))).drew
  have HB3b : ∀ cK : Array Value, Below w.heap.size w (((w.alloc (.cells (madeCells #[.int .u8 0] m) 5)).alloc (.map #[] 0)).alloc (.cells cK 93)).drew := fun cK => (((al w _).trans ((al _ _).mono (by simp))).trans ((al _ _).mono (by simp; omega))).drew
  have mM : ∀ (W : World), MapEx (W.alloc (.map #[] 0)) 9 W.heap.size 0 (MQ M []) := fun W => MapEx.made W 9 (MQ M []) (fun x y ⟨p, hp, _⟩ => by simp at hp)
  have HFa : ∀ cK : Array Value, (cK.size = 263 ∧ cK[0]? = some (.pointer (some ⟨bn, 0, none⟩)) ∧ (∀ j, j < 256 → cK[1 + j]? = csA[j]?) ∧ cK[257]? = some (.slice none 0 0) ∧ cK[258]? = some (.slice none 0 0) ∧ cK[259]? = some (.slice none 0 0) ∧ cK[260]? = some (.map (some w.heap.size)) ∧ cK[261]? = some (.slice (some ⟨w.heap.size + 1, 0, none⟩) m m) ∧ cK[262]? = some (.slice none 0 0)) →
      Hid (MkrP w.heap.size m M C bn K L mk w (.returned (.pointer (some ⟨w.heap.size + 1 + 1, 0, none⟩))) (((w.alloc (.map #[] 0)).alloc (.cells (madeCells #[.int .u8 0] m) 5)).alloc (.cells cK 93)).drew) := fun cK hc => by
    have k3 := al ((w.alloc (.map #[] 0)).alloc (.cells (madeCells #[.int .u8 0] m) 5)) (.cells cK 93)
    refine ⟨w.heap.size + 1 + 1, w.heap.size + 1, w.heap.size, cK, rfl, mk_start (csA := csA) (HB3a cK) (by simp; omega) ?_ ?_ ?_ H.out.val hc (by omega) (by omega) (Nat.le_refl _), HB3a cK⟩
    · have := (St.new ((w.alloc (.map #[] 0)).alloc (.cells (madeCells #[.int .u8 0] m) 5)) 93 cK).drew
      simpa using this
    · have := ownsRow_keep (mI (w.alloc (.map #[] 0)) (by simp)) (k3.drew)
      simpa using this
    · exact (mM w).same (((al (w.alloc (.map #[] 0)) _).trans (k3.mono (by simp))).drew.block _ (by simp))
  have HFb : ∀ cK : Array Value, (cK.size = 263 ∧ cK[0]? = some (.pointer (some ⟨bn, 0, none⟩)) ∧ (∀ j, j < 256 → cK[1 + j]? = csA[j]?) ∧ cK[257]? = some (.slice none 0 0) ∧ cK[258]? = some (.slice none 0 0) ∧ cK[259]? = some (.slice none 0 0) ∧ cK[260]? = some (.map (some (w.heap.size + 1))) ∧ cK[261]? = some (.slice (some ⟨w.heap.size, 0, none⟩) m m) ∧ cK[262]? = some (.slice none 0 0)) →
      Hid (MkrP w.heap.size m M C bn K L mk w (.returned (.pointer (some ⟨w.heap.size + 1 + 1, 0, none⟩))) (((w.alloc (.cells (madeCells #[.int .u8 0] m) 5)).alloc (.map #[] 0)).alloc (.cells cK 93)).drew) := fun cK hc => by
    have k3 := al ((w.alloc (.cells (madeCells #[.int .u8 0] m) 5)).alloc (.map #[] 0)) (.cells cK 93)
    refine ⟨w.heap.size + 1 + 1, w.heap.size, w.heap.size + 1, cK, rfl, mk_start (csA := csA) (HB3b cK) (by simp; omega) ?_ ?_ ?_ H.out.val hc (by omega) (Nat.le_refl _) (by omega), HB3b cK⟩
    · have := (St.new ((w.alloc (.cells (madeCells #[.int .u8 0] m) 5)).alloc (.map #[] 0)) 93 cK).drew
      simpa using this
    · exact ownsRow_keep (mI w (Nat.le_refl _)) ((al _ _).trans (k3.mono (by simp))).drew
    · have := (mM (w.alloc (.cells (madeCells #[.int .u8 0] m) 5))).same (k3.drew.block _ (by simp))
      simpa using this
  clear h hM
  go_enter Try.func60, Try.ntmps60
  go_upto_region 1 with fail
  -- REG1
  refine wp_region_held_drew (S := fun W' => (∀ j v, csA.toList[j]? = some v → W'.cell? ((⟨bn, 0, none⟩ : Addr).add j) = some v) ∧ W'.cell? ⟨bn, 257, none⟩ = some (.slice (some ⟨gM, 0, none⟩) M cM)) (by kernel_rfl) (HS0.out _ (Below.refl _ _).drew) (fun hHeld => ?_)
  (refine wpAnyH_take (i := 0) (oi := ?_) (v := ?_) ?_ (by kernel_rfl) (by kernel_rfl) (by kernel_rfl) ?_ (Or.inl ⟨?_, ?_⟩) (by assumption) ?_; rotate_left 2; (focus ((simp only [List.getElem?_toArray, List.getElem?_cons_zero]); first | done | rfl)); (focus (exact fun _ _ _ h => h)); (focus rfl); (focus (intro wz hSw; (try dsimp only at hSw); go_simp; first | done | with_reducible rfl)); try simp only [Act.put, List.setIfInBounds_toArray, List.set_cons_zero, List.set_cons_succ])
  (refine wpAnyH_take (i := 1) (oi := ?_) (v := ?_) ?_ (by kernel_rfl) (by kernel_rfl) (by kernel_rfl) ?_ (Or.inl ⟨?_, ?_⟩) (by assumption) ?_; rotate_left 2; (focus ((simp only [List.getElem?_toArray, List.getElem?_cons_succ, List.getElem?_cons_zero]); first | done | rfl)); (focus (exact fun _ _ _ h => h)); (focus rfl); (focus (intro wz hSw; (try dsimp only at hSw); go_simp; first | done | with_reducible rfl)); try simp only [Act.put, List.setIfInBounds_toArray, List.set_cons_zero, List.set_cons_succ])
  (refine wpAnyH_take (i := 2) (oi := ?_) (v := ?_) ?_ (by kernel_rfl) (by kernel_rfl) (by kernel_rfl) ?_ (Or.inl ⟨?_, ?_⟩) (by assumption) ?_; rotate_left 2; (focus ((simp only [List.getElem?_toArray, List.getElem?_cons_succ, List.getElem?_cons_zero]); first | done | rfl)); (focus (exact fun _ _ _ h => h)); (focus rfl); (focus (intro wz hSw; (try dsimp only at hSw); go_simp; first | done | with_reducible rfl)); try simp only [Act.put, List.setIfInBounds_toArray, List.set_cons_zero, List.set_cons_succ])
  (refine wpAnyH_take (i := 3) (oi := ?_) (v := ?_) ?_ (by kernel_rfl) (by kernel_rfl) (by kernel_rfl) ?_ (Or.inl ⟨?_, ?_⟩) (by assumption) ?_; rotate_left 2; (focus ((simp only [List.getElem?_toArray, List.getElem?_cons_succ, List.getElem?_cons_zero]); first | done | rfl)); (focus (exact fun _ _ _ h => h)); (focus rfl); (focus (intro wz hSw; (try dsimp only at hSw); go_simp; first | done | with_reducible rfl)); try simp only [Act.put, List.setIfInBounds_toArray, List.set_cons_zero, List.set_cons_succ])
  (refine wpAnyH_take (i := 4) (oi := ?_) (v := (.agg csA)) ?_ (by kernel_rfl) (by kernel_rfl) (by kernel_rfl) ?_ (Or.inl ⟨?_, ?_⟩) (by assumption) ?_; rotate_left 1; (focus ((simp only [List.getElem?_toArray, List.getElem?_cons_succ, List.getElem?_cons_zero]); first | done | rfl)); (focus (exact fun _ _ _ h => h)); (focus rfl); (focus (intro wz hSw; exact exec_load_part9 rfl 27 _ rfl ⟨bn, 0, none⟩ (by rfl) csA (.array 256 5) wz hSw.1 Try.underlying27 rfl hinfo)); try simp only [Act.put, List.setIfInBounds_toArray, List.set_cons_zero, List.set_cons_succ])
  (refine wpAnyH_take (i := 5) (oi := ?_) (v := (.agg cD)) ?_ (by kernel_rfl) (by kernel_rfl) (by kernel_rfl) ?_ (Or.inl ⟨?_, ?_⟩) (by assumption) ?_; rotate_left 1; (focus ((simp only [List.getElem?_toArray, List.getElem?_cons_succ, List.getElem?_cons_zero]); first | done | rfl)); (focus (exact fun _ _ _ h => h)); (focus rfl); (focus (intro wz hSw; exact exec_build9 rfl 30 _ rfl #[(0, .agg csA)] (by first | kernel_rfl | (go_simp; done)) (.agg cD) (hD wz))); try simp only [Act.put, List.setIfInBounds_toArray, List.set_cons_zero, List.set_cons_succ])
  (refine wpAnyH_take (i := 7) (oi := ?_) (v := ?_) ?_ (by kernel_rfl) (by kernel_rfl) (by kernel_rfl) ?_ (Or.inl ⟨?_, ?_⟩) (by assumption) ?_; rotate_left 2; (focus ((simp only [List.getElem?_toArray, List.getElem?_cons_succ, List.getElem?_cons_zero]); first | done | rfl)); (focus (exact fun _ _ _ h => h)); (focus rfl); (focus (intro wz hSw; (try dsimp only at hSw); go_simp; first | done | with_reducible rfl)); try simp only [Act.put, List.setIfInBounds_toArray, List.set_cons_zero, List.set_cons_succ])
  (refine wpAnyH_take (i := 8) (oi := ?_) (v := ?_) ?_ (by kernel_rfl) (by kernel_rfl) (by kernel_rfl) ?_ (Or.inl ⟨?_, ?_⟩) (by assumption) ?_; rotate_left 2; (focus ((simp only [List.getElem?_toArray, List.getElem?_cons_succ, List.getElem?_cons_zero]); first | done | rfl)); (focus (exact fun _ _ _ h => h)); (focus rfl); (focus (intro wz hSw; (try dsimp only at hSw); go_simp; first | done | with_reducible rfl)); try simp only [Act.put, List.setIfInBounds_toArray, List.set_cons_zero, List.set_cons_succ])
  (refine wpAnyH_take (i := 9) (oi := ?_) (v := ?_) ?_ (by kernel_rfl) (by kernel_rfl) (by kernel_rfl) ?_ (Or.inl ⟨?_, ?_⟩) (by assumption) ?_; rotate_left 2; (focus ((simp only [List.getElem?_toArray, List.getElem?_cons_succ, List.getElem?_cons_zero]); first | done | rfl)); (focus (exact fun _ _ _ h => h)); (focus rfl); (focus (intro wz hSw; (try dsimp only at hSw); go_simp; first | done | with_reducible rfl)); try simp only [Act.put, List.setIfInBounds_toArray, List.set_cons_zero, List.set_cons_succ])
  (refine wpAnyH_take (i := 10) (oi := ?_) (v := ?_) ?_ (by kernel_rfl) (by kernel_rfl) (by kernel_rfl) ?_ (Or.inl ⟨?_, ?_⟩) (by assumption) ?_; rotate_left 2; (focus ((simp only [List.getElem?_toArray, List.getElem?_cons_succ, List.getElem?_cons_zero]); first | done | rfl)); (focus (exact fun _ _ _ h => h)); (focus rfl); (focus (intro wz hSw; (try dsimp only at hSw); go_simp; first | done | with_reducible rfl)); try simp only [Act.put, List.setIfInBounds_toArray, List.set_cons_zero, List.set_cons_succ])
  (refine wpAnyH_take (i := 11) (oi := ?_) (v := ?_) ?_ (by kernel_rfl) (by kernel_rfl) (by kernel_rfl) ?_ (Or.inl ⟨?_, ?_⟩) (by assumption) ?_; rotate_left 2; (focus ((simp only [List.getElem?_toArray, List.getElem?_cons_succ, List.getElem?_cons_zero]); first | done | rfl)); (focus (exact fun _ _ _ h => h)); (focus rfl); (focus (intro wz hSw; (try dsimp only at hSw); go_simp; first | done | with_reducible rfl)); try simp only [Act.put, List.setIfInBounds_toArray, List.set_cons_zero, List.set_cons_succ])
  (refine wpAnyH_take (i := 12) (oi := ?_) (v := ?_) ?_ (by kernel_rfl) (by kernel_rfl) (by kernel_rfl) ?_ (Or.inl ⟨?_, ?_⟩) (by assumption) ?_; rotate_left 2; (focus ((simp only [List.getElem?_toArray, List.getElem?_cons_succ, List.getElem?_cons_zero]); first | done | rfl)); (focus (exact fun _ _ _ h => h)); (focus rfl); (focus (intro wz hSw; (try dsimp only at hSw); go_simp; first | done | with_reducible rfl)); try simp only [Act.put, List.setIfInBounds_toArray, List.set_cons_zero, List.set_cons_succ])
  (refine wpAnyH_take (i := 13) (oi := ?_) (v := ?_) ?_ (by kernel_rfl) (by kernel_rfl) (by kernel_rfl) ?_ (Or.inl ⟨?_, ?_⟩) (by assumption) ?_; rotate_left 2; (focus ((simp only [List.getElem?_toArray, List.getElem?_cons_succ, List.getElem?_cons_zero]); first | done | rfl)); (focus (exact fun _ _ _ h => h)); (focus rfl); (focus (intro wz hSw; (try dsimp only at hSw); go_simp; first | done | with_reducible rfl)); try simp only [Act.put, List.setIfInBounds_toArray, List.set_cons_zero, List.set_cons_succ])
  refine wpAnyH_ready (rs := [6, 14]) (by kernel_rfl) (by simp) ?_
  refine AllReadyH.cons (o := ?_) ?_ (fun K hK => ?_) ?_
  rotate_left
  (focus ((simp only [List.getElem?_toArray, List.getElem?_cons_succ, List.getElem?_cons_zero]); first | done | rfl))
  · skip
    go_simp
    refine hK.out _ _ (HS0.out _ (al w _).drew) (fun hHeld => ?_)
    clear hK K
    try simp only [Act.put, List.setIfInBounds_toArray, List.set_cons_zero, List.set_cons_succ]
    refine wpAnyH_ready (rs := [14]) (by kernel_rfl) (by simp) ?_
    refine AllReadyH.cons (o := ?_) ?_ (fun K hK => ?_) ?_
    rotate_left
    (focus ((simp only [List.getElem?_toArray, List.getElem?_cons_succ, List.getElem?_cons_zero]); first | done | rfl))
    · skip
      go_simp
      refine hK.out _ _ (HS0.out _ HBa) (fun hHeld => ?_)
      clear hK K
      try simp only [Act.put, List.setIfInBounds_toArray, List.set_cons_zero, List.set_cons_succ]
      obtain ⟨cK, hcK⟩ := hMk bn w.heap.size (w.heap.size + 1) m
      have HB3 := HB3a cK
      have HF := HFa cK ⟨hcK.1, hcK.2.1, hcK.2.2.1, hcK.2.2.2.1, hcK.2.2.2.2.1, hcK.2.2.2.2.2.1, hcK.2.2.2.2.2.2.1, hcK.2.2.2.2.2.2.2.1, hcK.2.2.2.2.2.2.2.2.1⟩
      (refine wpAnyH_take (i := 15) (oi := ?_) (v := (.agg cK)) ?_ (by kernel_rfl) (by kernel_rfl) (by kernel_rfl) ?_ (Or.inl ⟨?_, ?_⟩) (by assumption) ?_; rotate_left 1; (focus ((simp only [List.getElem?_toArray, List.getElem?_cons_succ, List.getElem?_cons_zero]); first | done | rfl)); (focus (exact fun _ _ _ h => h)); (focus rfl); (focus (intro wz hSw; exact exec_build9 rfl 93 _ rfl #[(0, .pointer (some ⟨bn, 0, none⟩)), (1, .agg cD), (3, .map (some (w.heap.size))), (4, .slice (some ⟨w.heap.size + 1, 0, none⟩) m m)] (by first | kernel_rfl | (go_simp; done)) (.agg cK) (hcK.2.2.2.2.2.2.2.2.2 wz))); try simp only [Act.put, List.setIfInBounds_toArray, List.set_cons_zero, List.set_cons_succ])
      refine wpAnyH_ready (rs := [16]) (by kernel_rfl) (by simp) ?_
      refine AllReadyH.cons (o := ?_) ?_ (fun K hK => ?_) ?_
      rotate_left
      (focus ((simp only [List.getElem?_toArray, List.getElem?_cons_succ, List.getElem?_cons_zero]); first | done | rfl))
      · skip
        go_simp
        refine hK.out _ _ (HS0.out _ HB3) (fun hHeld => ?_)
        clear hK K
        try simp only [Act.put, List.setIfInBounds_toArray, List.set_cons_zero, List.set_cons_succ]
        (refine wpAnyH_take (i := 17) (oi := ?_) (v := ?_) ?_ (by kernel_rfl) (by kernel_rfl) (by kernel_rfl) ?_ (Or.inl ⟨?_, ?_⟩) (by assumption) ?_; rotate_left 2; (focus ((simp only [List.getElem?_toArray, List.getElem?_cons_succ, List.getElem?_cons_zero]); first | done | rfl)); (focus (exact fun _ _ _ h => h)); (focus rfl); (focus (intro wz hSw; (try dsimp only at hSw); go_simp; first | done | with_reducible rfl)); try simp only [Act.put, List.setIfInBounds_toArray, List.set_cons_zero, List.set_cons_succ])
        refine wpAnyH_done (by kernel_rfl) ?_ _
        clear hHeld
        go_wp2_with fail
        go_ret
        exact HF.out
      exact AllReadyH.nil
    exact AllReadyH.nil
  refine AllReadyH.cons (o := ?_) ?_ (fun K hK => ?_) ?_
  rotate_left
  (focus ((simp only [List.getElem?_toArray, List.getElem?_cons_succ, List.getElem?_cons_zero]); first | done | rfl))
  · skip
    go_simp
    refine hK.out _ _ (HS0.out _ (al w _).drew) (fun hHeld => ?_)
    clear hK K
    try simp only [Act.put, List.setIfInBounds_toArray, List.set_cons_zero, List.set_cons_succ]
    refine wpAnyH_ready (rs := [6]) (by kernel_rfl) (by simp) ?_
    refine AllReadyH.cons (o := ?_) ?_ (fun K hK => ?_) ?_
    rotate_left
    (focus ((simp only [List.getElem?_toArray, List.getElem?_cons_succ, List.getElem?_cons_zero]); first | done | rfl))
    · skip
      go_simp
      refine hK.out _ _ (HS0.out _ HBb) (fun hHeld => ?_)
      clear hK K
      try simp only [Act.put, List.setIfInBounds_toArray, List.set_cons_zero, List.set_cons_succ]
      obtain ⟨cK, hcK⟩ := hMk bn (w.heap.size + 1) w.heap.size m
      have HB3 := HB3b cK
      have HF := HFb cK ⟨hcK.1, hcK.2.1, hcK.2.2.1, hcK.2.2.2.1, hcK.2.2.2.2.1, hcK.2.2.2.2.2.1, hcK.2.2.2.2.2.2.1, hcK.2.2.2.2.2.2.2.1, hcK.2.2.2.2.2.2.2.2.1⟩
      (refine wpAnyH_take (i := 15) (oi := ?_) (v := (.agg cK)) ?_ (by kernel_rfl) (by kernel_rfl) (by kernel_rfl) ?_ (Or.inl ⟨?_, ?_⟩) (by assumption) ?_; rotate_left 1; (focus ((simp only [List.getElem?_toArray, List.getElem?_cons_succ, List.getElem?_cons_zero]); first | done | rfl)); (focus (exact fun _ _ _ h => h)); (focus rfl); (focus (intro wz hSw; exact exec_build9 rfl 93 _ rfl #[(0, .pointer (some ⟨bn, 0, none⟩)), (1, .agg cD), (3, .map (some (w.heap.size + 1))), (4, .slice (some ⟨w.heap.size, 0, none⟩) m m)] (by first | kernel_rfl | (go_simp; done)) (.agg cK) (hcK.2.2.2.2.2.2.2.2.2 wz))); try simp only [Act.put, List.setIfInBounds_toArray, List.set_cons_zero, List.set_cons_succ])
      refine wpAnyH_ready (rs := [16]) (by kernel_rfl) (by simp) ?_
      refine AllReadyH.cons (o := ?_) ?_ (fun K hK => ?_) ?_
      rotate_left
      (focus ((simp only [List.getElem?_toArray, List.getElem?_cons_succ, List.getElem?_cons_zero]); first | done | rfl))
      · skip
        go_simp
        refine hK.out _ _ (HS0.out _ HB3) (fun hHeld => ?_)
        clear hK K
        try simp only [Act.put, List.setIfInBounds_toArray, List.set_cons_zero, List.set_cons_succ]
        (refine wpAnyH_take (i := 17) (oi := ?_) (v := ?_) ?_ (by kernel_rfl) (by kernel_rfl) (by kernel_rfl) ?_ (Or.inl ⟨?_, ?_⟩) (by assumption) ?_; rotate_left 2; (focus ((simp only [List.getElem?_toArray, List.getElem?_cons_succ, List.getElem?_cons_zero]); first | done | rfl)); (focus (exact fun _ _ _ h => h)); (focus rfl); (focus (intro wz hSw; (try dsimp only at hSw); go_simp; first | done | with_reducible rfl)); try simp only [Act.put, List.setIfInBounds_toArray, List.set_cons_zero, List.set_cons_succ])
        refine wpAnyH_done (by kernel_rfl) ?_ _
        clear hHeld
        go_wp2_with fail
        go_ret
        exact HF.out
      exact AllReadyH.nil
    exact AllReadyH.nil
  exact AllReadyH.nil
  -- END1
end Go.Proofs.Ytlnndkilaklifaa
