import Derived.Test.YtohgbkajnhgnaaaZLMk
import Derived.Test.YtohgbkajnhgnaaaZSFrame
import Derived.Test.YtohgbkajnhgnaaaZTLaw
import Derived.Test.YtohgbkajnhgnaaaZTTrim
namespace Go.Proofs.Ytohgbkajnhgnaaa
open Go.RowKit Go.Maps Go.WideElems Go.ChangeMaps Go.MapKept
set_option linter.unusedVariables false
set_option linter.unusedSimpArgs false

set_option maxHeartbeats 1000000 in
set_option maxRecDepth 100000 in
theorem lmark_any (A B : Dd) (CA CB : Nat) (hA : DR A CA) (hB : DR B CB) (how : Int) (bm : Nat) (cs : Array Value) (vL vT vM vN vK : Value) (K : Nat → Nat) (hc : MkC cs how A B vL vT vM K vN vK) (p : Int × Int) (w : World) (hs : St w 76 bm cs) (hdA : DM w A) (hdB : DM w B) :
    Calls Try.prog 53 #[.pointer (some ⟨bm, 0, none⟩), prv p] w fun e w' => e = .returned (.int .i64 (mkF how A B p)) ∧ Below w.heap.size w w' := by
  have kb := al w (.cells #[.int .i64 p.1, .int .i64 p.2] 72)
  have HB : Hid (St (w.alloc (.cells #[.int .i64 p.1, .int .i64 p.2] 72)) 76 bm cs ∧ DM (w.alloc (.cells #[.int .i64 p.1, .int .i64 p.2] 72)) A ∧ DM (w.alloc (.cells #[.int .i64 p.1, .int .i64 p.2] 72)) B ∧ St (w.alloc (.cells #[.int .i64 p.1, .int .i64 p.2] 72)) 72 w.heap.size #[.int .i64 p.1, .int .i64 p.2] ∧ Below w.heap.size w (w.alloc (.cells #[.int .i64 p.1, .int .i64 p.2] 72))) := ⟨hs.keep kb, hdA.below kb, hdB.below kb, St.new _ _ _, kb⟩
  have HC := Lib.hid (And.intro hc (And.intro hA hB))
  clear hs hdA hdB kb hc hA hB
  unfold prv
  go_enter Try.func53, Try.ntmps53
  go_upto_region 1 with fail
  generalize w.alloc (.cells #[.int .i64 p.1, .int .i64 p.2] 72) = W0 at HB ⊢
  obtain ⟨b0, hb0⟩ : ∃ b0, w.heap.size = b0 := ⟨_, rfl⟩
  have Hb0 := Lib.hid hb0
  rw [hb0] at HB
  rw [hb0]
  clear hb0
  have hb9 : b0 ≤ W0.heap.size := by have := HB.out.2.2.2.2.size; have := Hb0.out; omega
  have HFw : Hid (∀ W', Below W0.heap.size W0 W' → Below w.heap.size w W') := fun W' h => by
    rw [Hb0.out]
    exact HB.out.2.2.2.2.trans (h.mono hb9)
  have HSo : Hid (∀ W', Below W0.heap.size W0 W' → Below W0.heap.size W0 W' ∧ (∀ j v, A.cD.toList[j]? = some v → W'.cell? ((⟨bm, 1, none⟩ : Addr).add j) = some v) ∧ (∀ j v, B.cD.toList[j]? = some v → W'.cell? ((⟨bm, 259, none⟩ : Addr).add j) = some v) ∧ W'.cell? ⟨bm, 0, none⟩ = some (.int .i64 how) ∧ W'.cell? ⟨b0, 0, none⟩ = some (.int .i64 p.1) ∧ W'.cell? ⟨b0, 1, none⟩ = some (.int .i64 p.2)) := fun W' h => by
    have h1 := HB.out.1.keep h
    have h2 := HB.out.2.2.2.1.keep h
    refine ⟨h, HC.out.1.partA h1 HB.out.2.1.sz, HC.out.1.partB h1 HB.out.2.2.1.sz, ?_, ?_, ?_⟩
    · rw [h1.at_, HC.out.1.h0]
    · rw [h2.at_]; rfl
    · rw [h2.at_]; rfl
  have HiA : Hid ((Try.prog.info? 26).map (·.size) = some A.cD.size) := HB.out.2.1.info
  have HiB : Hid ((Try.prog.info? 26).map (·.size) = some B.cD.size) := HB.out.2.2.1.info
  obtain ⟨p1, hp1⟩ : ∃ p1, p.1 = p1 := ⟨_, rfl⟩
  obtain ⟨p2, hp2⟩ : ∃ p2, p.2 = p2 := ⟨_, rfl⟩
  obtain ⟨mA, hmA⟩ : ∃ mA, markF A p1 = mA := ⟨_, rfl⟩
  obtain ⟨mB, hmB⟩ : ∃ mB, markF B p2 = mB := ⟨_, rfl⟩
  have Hk : Hid (mkF how A B p = if togF how (decide (0 ≤ mA)) (decide (0 ≤ mB)) = true then 0 else -1) := by show _ = _; unfold mkF; rw [hp1, hp2, hmA, hmB]
  have HmA := Lib.hid hmA
  have HmB := Lib.hid hmB
  rw [hp1, hp2] at HSo
  rw [hp1, hp2]
  clear hp1 hp2 hmA hmB
  refine wp_region_held_drew (S := fun W' => Below W0.heap.size W0 W' ∧ (∀ j v, A.cD.toList[j]? = some v → W'.cell? ((⟨bm, 1, none⟩ : Addr).add j) = some v) ∧ (∀ j v, B.cD.toList[j]? = some v → W'.cell? ((⟨bm, 259, none⟩ : Addr).add j) = some v) ∧ W'.cell? ⟨bm, 0, none⟩ = some (.int .i64 how) ∧ W'.cell? ⟨b0, 0, none⟩ = some (.int .i64 p1) ∧ W'.cell? ⟨b0, 1, none⟩ = some (.int .i64 p2)) (by kernel_rfl) (HSo.out _ (Below.refl _ _).drew) (fun hHeld => ?_)
  (refine wpAnyH_take (i := 0) (oi := ?_) (v := ?_) ?_ (by kernel_rfl) (by kernel_rfl) (by kernel_rfl) ?_ (Or.inl ⟨?_, ?_⟩) (by assumption) ?_; rotate_left 2; (focus ((simp only [List.getElem?_toArray, List.getElem?_cons_zero]); first | done | rfl)); (focus (exact fun _ _ _ h => h)); (focus rfl); (focus (intro wz hSw; (try dsimp only at hSw); go_simp; first | done | with_reducible rfl)); try simp only [Act.put, List.setIfInBounds_toArray, List.set_cons_zero, List.set_cons_succ])
  (refine wpAnyH_take (i := 1) (oi := ?_) (v := ?_) ?_ (by kernel_rfl) (by kernel_rfl) (by kernel_rfl) ?_ (Or.inl ⟨?_, ?_⟩) (by assumption) ?_; rotate_left 2; (focus ((simp only [List.getElem?_toArray, List.getElem?_cons_succ, List.getElem?_cons_zero]); first | done | rfl)); (focus (exact fun _ _ _ h => h)); (focus rfl); (focus (intro wz hSw; (try dsimp only at hSw); go_simp; first | done | with_reducible rfl)); try simp only [Act.put, List.setIfInBounds_toArray, List.set_cons_zero, List.set_cons_succ])
  (refine wpAnyH_take (i := 2) (oi := ?_) (v := ?_) ?_ (by kernel_rfl) (by kernel_rfl) (by kernel_rfl) ?_ (Or.inl ⟨?_, ?_⟩) (by assumption) ?_; rotate_left 2; (focus ((simp only [List.getElem?_toArray, List.getElem?_cons_succ, List.getElem?_cons_zero]); first | done | rfl)); (focus (exact fun _ _ _ h => h)); (focus rfl); (focus (intro wz hSw; (try dsimp only at hSw); go_simp; first | done | with_reducible rfl)); try simp only [Act.put, List.setIfInBounds_toArray, List.set_cons_zero, List.set_cons_succ])
  (refine wpAnyH_take (i := 3) (oi := ?_) (v := ?_) ?_ (by kernel_rfl) (by kernel_rfl) (by kernel_rfl) ?_ (Or.inl ⟨?_, ?_⟩) (by assumption) ?_; rotate_left 2; (focus ((simp only [List.getElem?_toArray, List.getElem?_cons_succ, List.getElem?_cons_zero]); first | done | rfl)); (focus (exact fun _ _ _ h => h)); (focus rfl); (focus (intro wz hSw; (try dsimp only at hSw); go_simp; first | done | with_reducible rfl)); try simp only [Act.put, List.setIfInBounds_toArray, List.set_cons_zero, List.set_cons_succ])
  (refine wpAnyH_take (i := 4) (oi := ?_) (v := ?_) ?_ (by kernel_rfl) (by kernel_rfl) (by kernel_rfl) ?_ (Or.inl ⟨?_, ?_⟩) (by assumption) ?_; rotate_left 2; (focus ((simp only [List.getElem?_toArray, List.getElem?_cons_succ, List.getElem?_cons_zero]); first | done | rfl)); (focus (exact fun _ _ _ h => h)); (focus rfl); (focus (intro wz hSw; (try dsimp only at hSw); go_simp; first | done | with_reducible rfl)); try simp only [Act.put, List.setIfInBounds_toArray, List.set_cons_zero, List.set_cons_succ])
  (refine wpAnyH_take (i := 5) (oi := ?_) (v := ?_) ?_ (by kernel_rfl) (by kernel_rfl) (by kernel_rfl) ?_ (Or.inl ⟨?_, ?_⟩) (by assumption) ?_; rotate_left 2; (focus ((simp only [List.getElem?_toArray, List.getElem?_cons_succ, List.getElem?_cons_zero]); first | done | rfl)); (focus (exact fun _ _ _ h => h)); (focus rfl); (focus (intro wz hSw; (try dsimp only at hSw); go_simp; first | done | with_reducible rfl)); try simp only [Act.put, List.setIfInBounds_toArray, List.set_cons_zero, List.set_cons_succ])
  (refine wpAnyH_take (i := 6) (oi := ?_) (v := ?_) ?_ (by kernel_rfl) (by kernel_rfl) (by kernel_rfl) ?_ (Or.inl ⟨?_, ?_⟩) (by assumption) ?_; rotate_left 2; (focus ((simp only [List.getElem?_toArray, List.getElem?_cons_succ, List.getElem?_cons_zero]); first | done | rfl)); (focus (exact fun _ _ _ h => h)); (focus rfl); (focus (intro wz hSw; (try dsimp only at hSw); go_simp; first | done | with_reducible rfl)); try simp only [Act.put, List.setIfInBounds_toArray, List.set_cons_zero, List.set_cons_succ])
  (refine wpAnyH_take (i := 7) (oi := ?_) (v := .agg A.cD) ?_ (by kernel_rfl) (by kernel_rfl) (by kernel_rfl) ?_ (Or.inl ⟨?_, ?_⟩) (by assumption) ?_; rotate_left; (focus ((simp only [List.getElem?_toArray, List.getElem?_cons_succ, List.getElem?_cons_zero]); first | done | rfl)); (focus (exact fun _ _ _ h => h)); (focus rfl); (focus (intro wz hSw; exact exec_load_any9 (o := _) (ρ := _) wz 26 (.tmp 11) rfl ⟨bm, 1, none⟩ rfl A.cD _ (And.left (And.right hSw)) Try.underlying26 rfl HiA.out)); try simp only [Act.put, List.setIfInBounds_toArray, List.set_cons_zero, List.set_cons_succ])
  (refine wpAnyH_take (i := 8) (oi := ?_) (v := ?_) ?_ (by kernel_rfl) (by kernel_rfl) (by kernel_rfl) ?_ (Or.inl ⟨?_, ?_⟩) (by assumption) ?_; rotate_left 2; (focus ((simp only [List.getElem?_toArray, List.getElem?_cons_succ, List.getElem?_cons_zero]); first | done | rfl)); (focus (exact fun _ _ _ h => h)); (focus rfl); (focus (intro wz hSw; (try dsimp only at hSw); go_simp; first | done | with_reducible rfl)); try simp only [Act.put, List.setIfInBounds_toArray, List.set_cons_zero, List.set_cons_succ])
  (refine wpAnyH_take (i := 9) (oi := ?_) (v := ?_) ?_ (by kernel_rfl) (by kernel_rfl) (by kernel_rfl) ?_ (Or.inl ⟨?_, ?_⟩) (by assumption) ?_; rotate_left 2; (focus ((simp only [List.getElem?_toArray, List.getElem?_cons_succ, List.getElem?_cons_zero]); first | done | rfl)); (focus (exact fun _ _ _ h => h)); (focus rfl); (focus (intro wz hSw; (try dsimp only at hSw); go_simp; first | done | with_reducible rfl)); try simp only [Act.put, List.setIfInBounds_toArray, List.set_cons_zero, List.set_cons_succ])
  (refine wpAnyH_take (i := 12) (oi := ?_) (v := ?_) ?_ (by kernel_rfl) (by kernel_rfl) (by kernel_rfl) ?_ (Or.inl ⟨?_, ?_⟩) (by assumption) ?_; rotate_left 2; (focus ((simp only [List.getElem?_toArray, List.getElem?_cons_succ, List.getElem?_cons_zero]); first | done | rfl)); (focus (exact fun _ _ _ h => h)); (focus rfl); (focus (intro wz hSw; (try dsimp only at hSw); go_simp; first | done | with_reducible rfl)); try simp only [Act.put, List.setIfInBounds_toArray, List.set_cons_zero, List.set_cons_succ])
  (refine wpAnyH_take (i := 13) (oi := ?_) (v := ?_) ?_ (by kernel_rfl) (by kernel_rfl) (by kernel_rfl) ?_ (Or.inl ⟨?_, ?_⟩) (by assumption) ?_; rotate_left 2; (focus ((simp only [List.getElem?_toArray, List.getElem?_cons_succ, List.getElem?_cons_zero]); first | done | rfl)); (focus (exact fun _ _ _ h => h)); (focus rfl); (focus (intro wz hSw; (try dsimp only at hSw); go_simp; first | done | with_reducible rfl)); try simp only [Act.put, List.setIfInBounds_toArray, List.set_cons_zero, List.set_cons_succ])
  (refine wpAnyH_take (i := 14) (oi := ?_) (v := ?_) ?_ (by kernel_rfl) (by kernel_rfl) (by kernel_rfl) ?_ (Or.inl ⟨?_, ?_⟩) (by assumption) ?_; rotate_left 2; (focus ((simp only [List.getElem?_toArray, List.getElem?_cons_succ, List.getElem?_cons_zero]); first | done | rfl)); (focus (exact fun _ _ _ h => h)); (focus rfl); (focus (intro wz hSw; (try dsimp only at hSw); go_simp; first | done | with_reducible rfl)); try simp only [Act.put, List.setIfInBounds_toArray, List.set_cons_zero, List.set_cons_succ])
  (refine wpAnyH_take (i := 15) (oi := ?_) (v := .agg B.cD) ?_ (by kernel_rfl) (by kernel_rfl) (by kernel_rfl) ?_ (Or.inl ⟨?_, ?_⟩) (by assumption) ?_; rotate_left; (focus ((simp only [List.getElem?_toArray, List.getElem?_cons_succ, List.getElem?_cons_zero]); first | done | rfl)); (focus (exact fun _ _ _ h => h)); (focus rfl); (focus (intro wz hSw; exact exec_load_any9 (o := _) (ρ := _) wz 26 (.tmp 19) rfl ⟨bm, 259, none⟩ rfl B.cD _ (And.left (And.right (And.right hSw))) Try.underlying26 rfl HiB.out)); try simp only [Act.put, List.setIfInBounds_toArray, List.set_cons_zero, List.set_cons_succ])
  (refine wpAnyH_take (i := 16) (oi := ?_) (v := ?_) ?_ (by kernel_rfl) (by kernel_rfl) (by kernel_rfl) ?_ (Or.inl ⟨?_, ?_⟩) (by assumption) ?_; rotate_left 2; (focus ((simp only [List.getElem?_toArray, List.getElem?_cons_succ, List.getElem?_cons_zero]); first | done | rfl)); (focus (exact fun _ _ _ h => h)); (focus rfl); (focus (intro wz hSw; (try dsimp only at hSw); go_simp; first | done | with_reducible rfl)); try simp only [Act.put, List.setIfInBounds_toArray, List.set_cons_zero, List.set_cons_succ])
  (refine wpAnyH_take (i := 17) (oi := ?_) (v := ?_) ?_ (by kernel_rfl) (by kernel_rfl) (by kernel_rfl) ?_ (Or.inl ⟨?_, ?_⟩) (by assumption) ?_; rotate_left 2; (focus ((simp only [List.getElem?_toArray, List.getElem?_cons_succ, List.getElem?_cons_zero]); first | done | rfl)); (focus (exact fun _ _ _ h => h)); (focus rfl); (focus (intro wz hSw; (try dsimp only at hSw); go_simp; first | done | with_reducible rfl)); try simp only [Act.put, List.setIfInBounds_toArray, List.set_cons_zero, List.set_cons_succ])
  refine wpAnyH_ready (rs := [10]) (by kernel_rfl) (by simp) ?_
  refine AllReadyH.cons (o := ?_) ?_ (fun K hK => ?_) ?_
  rotate_left
  (focus ((simp only [List.getElem?_toArray, List.getElem?_cons_succ, List.getElem?_cons_zero]); first | done | rfl))
  · skip
    go_simp
    go_at_call 32
    refine (dmark_any A _ HC.out.2.1 p1 _ (HB.out.2.1.below hHeld.1)).mono ?_
    rintro e w10 ⟨rfl, vv⟩
    rw [HmA.out]
    have hbn : Below W0.heap.size W0 w10 := hHeld.1.trans (vv.mono hHeld.1.size)
    clear vv
    try go_wp2_with fail
    refine hK.out _ _ (HSo.out _ hbn) (fun hHeld => ?_)
    clear hK K
    try simp only [Act.put, List.setIfInBounds_toArray, List.set_cons_zero, List.set_cons_succ]
    clear hbn
    (refine wpAnyH_take (i := 11) (oi := ?_) (v := ?_) ?_ (by kernel_rfl) (by kernel_rfl) (by kernel_rfl) ?_ (Or.inl ⟨?_, ?_⟩) (by assumption) ?_; rotate_left 2; (focus ((simp only [List.getElem?_toArray, List.getElem?_cons_succ, List.getElem?_cons_zero]); first | done | rfl)); (focus (exact fun _ _ _ h => h)); (focus rfl); (focus (intro wz hSw; (try dsimp only at hSw); go_simp; first | done | with_reducible rfl)); try simp only [Act.put, List.setIfInBounds_toArray, List.set_cons_zero, List.set_cons_succ])
    refine wpAnyH_ready (rs := [18]) (by kernel_rfl) (by simp) ?_
    refine AllReadyH.cons (o := ?_) ?_ (fun K hK => ?_) ?_
    rotate_left
    (focus ((simp only [List.getElem?_toArray, List.getElem?_cons_succ, List.getElem?_cons_zero]); first | done | rfl))
    · skip
      go_simp
      go_at_call 32
      refine (dmark_any B _ HC.out.2.2 p2 _ (HB.out.2.2.1.below hHeld.1)).mono ?_
      rintro e w18 ⟨rfl, vv⟩
      rw [HmB.out]
      have hbn : Below W0.heap.size W0 w18 := hHeld.1.trans (vv.mono hHeld.1.size)
      clear vv
      try go_wp2_with fail
      refine hK.out _ _ (HSo.out _ hbn) (fun hHeld => ?_)
      clear hK K
      try simp only [Act.put, List.setIfInBounds_toArray, List.set_cons_zero, List.set_cons_succ]
      clear hbn
      (refine wpAnyH_take (i := 19) (oi := ?_) (v := ?_) ?_ (by kernel_rfl) (by kernel_rfl) (by kernel_rfl) ?_ (Or.inl ⟨?_, ?_⟩) (by assumption) ?_; rotate_left 2; (focus ((simp only [List.getElem?_toArray, List.getElem?_cons_succ, List.getElem?_cons_zero]); first | done | rfl)); (focus (exact fun _ _ _ h => h)); (focus rfl); (focus (intro wz hSw; (try dsimp only at hSw); go_simp; first | done | with_reducible rfl)); try simp only [Act.put, List.setIfInBounds_toArray, List.set_cons_zero, List.set_cons_succ])
      refine wpAnyH_ready (rs := [20]) (by kernel_rfl) (by simp) ?_
      refine AllReadyH.cons (o := ?_) ?_ (fun K hK => ?_) ?_
      rotate_left
      (focus ((simp only [List.getElem?_toArray, List.getElem?_cons_succ, List.getElem?_cons_zero]); first | done | rfl))
      · skip
        go_simp
        go_at_call 55
        refine (together_any how (decide (0 ≤ mA)) (decide (0 ≤ mB)) _).mono ?_
        rintro e w20 ⟨rfl, rfl⟩
        try go_wp2_with fail
        refine hK.out _ _ (HSo.out _ hHeld.1) (fun hHeld => ?_)
        clear hK K
        try simp only [Act.put, List.setIfInBounds_toArray, List.set_cons_zero, List.set_cons_succ]
        refine wpAnyH_done (by kernel_rfl) ?_ _
        have HF := Lib.hid (HFw.out _ hHeld.1)
        clear hHeld
        cases htg : togF how (decide (0 ≤ mA)) (decide (0 ≤ mB))
        · rw [htg] at Hk
          have Hk2 : Hid (mkF how A B p = -1) := by show _ = _; have h := Hk.out; simpa using h
          clear Hk htg
          go_wp2_with fail
          go_ret
          exact ⟨by rw [Hk2.out]; rfl, HF.out⟩
        · rw [htg] at Hk
          have Hk2 : Hid (mkF how A B p = 0) := by show _ = _; have h := Hk.out; simpa using h
          clear Hk htg
          go_wp2_with fail
          go_ret
          exact ⟨by rw [Hk2.out]; rfl, HF.out⟩
      exact AllReadyH.nil
    exact AllReadyH.nil
  exact AllReadyH.nil
end Go.Proofs.Ytohgbkajnhgnaaa

namespace Go.Proofs.Ytohgbkajnhgnaaa
open Go.RowKit Go.Maps Go.WideElems Go.ChangeMaps Go.MapKept
set_option linter.unusedVariables false
set_option linter.unusedSimpArgs false

/-- The maker, while it works: the lists by which the map, the row of pairs and the marks stand (they are one between the calls). -/
structure Mk3 (W0 : World) (A B : Dd) (how : Int) (bm bM : Nat) (lt : List Nat) (vL : Value) (K : Nat → Nat) (mM mT mK : List (Int × Int)) (vT : Value) (R : List (List Int)) (vN : Value) (ws : Nat → Value) (vK : Value) (cs : Array Value) (w : World) : Prop where
  bel : Below W0.heap.size W0 w
  st : St w 76 bm cs
  c : MkC cs how A B vL vT (.map (some bM)) K vN vK
  lets : w.ownsRow W0.heap.size 5 1 vL lt.length (u8s lt)
  mets : w.ownsRow W0.heap.size 72 2 vT mT.length (prs mT)
  map : MapN w 72 bM mM.length (PmQ mM)
  next : GridOw w W0.heap.size 24 3 1 vN R.length ws (fun _ => lt.length) (fun j => ints (R.getD j []))
  mks : w.ownsRow W0.heap.size 3 1 vK mK.length (ints (mK.map (mkF how A B)))
  sep : ∀ i, i < R.length → ∀ b, (ws i).ownBlock = some b → vK.ownBlock ≠ some b
  loM : W0.heap.size ≤ bM
  lob : W0.heap.size ≤ bm
section
variable {W0 : World} {A B : Dd} {how : Int} {bm bM : Nat} {lt : List Nat} {vL : Value} {K : Nat → Nat} {mM mT mK : List (Int × Int)} {vT : Value} {R : List (List Int)} {vN : Value} {ws : Nat → Value} {vK : Value} {cs : Array Value} {w : World}
theorem Mk3.keep {w1 : World} (h : Mk3 W0 A B how bm bM lt vL K mM mT mK vT R vN ws vK cs w) (k : Below w.heap.size w w1) : Mk3 W0 A B how bm bM lt vL K mM mT mK vT R vN ws vK cs w1 :=
  ⟨h.bel.trans (k.mono h.bel.size), h.st.keep k, h.c, ownsRow_keep h.lets k, ownsRow_keep h.mets k, h.map.same (k.block _ h.map.lt), h.next.keep k, ownsRow_keep h.mks k, h.sep, h.loM, h.lob⟩
theorem zero_int10 (w : World) : (zeroValue 3).run Try.prog w = .ok (.int .i64 0) w := by kernel_rfl
theorem Mk3.look (h : Mk3 W0 A B how bm bM lt vL K mM mT mK vT R vN ws vK cs w) (p : Int × Int) (h1 : -1000000 ≤ p.1 ∧ p.1 ≤ 1000000) (h2 : -1000000 ≤ p.2 ∧ p.2 ≤ 1000000) :
    (∃ b, mM[b]? = some p ∧ (Instr.lookup 74 (.map (some bM)) (prv p) true).run Try.prog w = .ok (.tuple #[.int .i64 ((b : Nat) : Int), .bool true]) w) ∨
    (p ∉ mM ∧ (Instr.lookup 74 (.map (some bM)) (prv p) true).run Try.prog w = .ok (.tuple #[.int .i64 0, .bool false]) w) := by
  obtain ⟨kl, hkl⟩ := key_pair9 p.1 p.2 h1 h2
  rcases h.map.ex.look2 law_pair9 Try.underlying74 (zero_int10 w) (key := prv p) hkl with ⟨hrun, hno⟩ | ⟨v, ⟨b, s', h1, h2, rfl⟩, hrun⟩
  · refine Or.inr ⟨fun hm => ?_, hrun⟩
    obtain ⟨b, hb, e⟩ := List.getElem_of_mem hm
    exact hno _ ⟨b, p, by rw [List.getElem?_eq_getElem hb, e], rfl, rfl⟩
  · exact Or.inl ⟨b, by rw [prv_inj h2]; exact h1, hrun⟩
theorem Mk3.put (h : Mk3 W0 A B how bm bM lt vL K mM mT mK vT R vN ws vK cs w) (p : Int × Int) (h1 : -1000000 ≤ p.1 ∧ p.1 ≤ 1000000) (h2 : -1000000 ≤ p.2 ∧ p.2 ≤ 1000000) (hn : mM.length < maxLen) (hb : p ∉ mM) :
    ∃ w', (Instr.mapUpdate 74 (.map (some bM)) (prv p) (.int .i64 ((mM.length : Nat) : Int))).run Try.prog w = .ok () w' ∧ Mk3 W0 A B how bm bM lt vL K (mM ++ [p]) mT mK vT R vN ws vK cs w' ∧ w.grownBy w' (some bM) := by
  obtain ⟨kl, hkl⟩ := key_pair9 p.1 p.2 h1 h2
  obtain ⟨w', hrun, hm, hg⟩ := h.map.update (Q' := PmQ (mM ++ [p])) (val := .int .i64 ((mM.length : Nat) : Int)) law_pair9 Try.underlying74 hn (key := prv p) hkl (by
      rintro y ⟨k, s', h1, h2, _⟩
      rw [← prv_inj h2] at h1
      exact hb (List.mem_of_getElem? h1)) (by
      rintro a b ⟨k, s', h1, h2, h3⟩
      exact ⟨k, s', by rw [List.getElem?_append_left (List.getElem?_eq_some_iff.1 h1).1]; exact h1, h2, h3⟩) ⟨mM.length, p, by simp, rfl, rfl⟩ (by
      rintro a b ⟨k, s', h1, h2, h3⟩ hne
      by_cases e : k < mM.length
      · rw [List.getElem?_append_left e] at h1
        exact ⟨b, k, s', h1, h2, h3⟩
      · rw [List.getElem?_append_right (by omega)] at h1
        cases hj : k - mM.length with
        | zero => rw [hj] at h1; simp at h1; exact absurd (by rw [h2, h1]) hne
        | succ j => rw [hj] at h1; simp at h1)
  have hmo := h.map.ex.of
  refine ⟨w', hrun, ⟨h.bel.grown hg h.bel.size (fun g e => by injection e with e; rw [← e]; exact h.loM), h.st.grown_map hmo hg, h.c, own_grown_map h.lets hmo hg, own_grown_map h.mets hmo hg, by rw [List.length_append]; exact hm, ⟨own_grown_map h.next.own hmo hg, fun i hi => own_grown_map (h.next.row i hi) hmo hg, h.next.sep⟩, own_grown_map h.mks hmo hg, h.sep, h.loM, h.lob⟩, hg⟩
/-- A pair is put behind. -/
theorem Mk3.push {w' : World} {vT' : Value} {p : Int × Int} (h : Mk3 W0 A B how bm bM lt vL K mM mT mK vT R vN ws vK cs w)
    (ho : w'.ownsRow W0.heap.size 72 2 vT' (mT.length + 1) (prs mT ++ [.int .i64 p.1, .int .i64 p.2])) (hg : w.grownBy w' vT.ownBlock) :
    Mk3 W0 A B how bm bM lt vL K mM (mT ++ [p]) mK vT' R vN ws vK (cs.setIfInBounds 518 vT') (w'.setCell ⟨bm, 518, none⟩ vT') := by
  have s1 : St w' 76 bm cs := h.st.grown_own h.mets (by decide) hg
  have ok : ∀ {t n sz : Nat} {v : Value} {xs : List Value}, t ≠ 72 → t ≠ 76 → w.ownsRow W0.heap.size t sz v n xs → (w'.setCell ⟨bm, 518, none⟩ vT').ownsRow W0.heap.size t sz v n xs := fun {t n sz v xs} h1 h2 hx =>
    own_set (own_grown hx hg (fun b e e2 => own_kinds hx h.mets h1 b e e2.symm)) s1 h2 _ _
  refine ⟨(below_grown_own h.bel h.mets h.bel.size hg).setCell (p := ⟨bm, 518, none⟩) h.lob _, s1.set 518 vT', h.c.setT vT', ok (by decide) (by decide) h.lets, ?_, (h.map.grown_own h.mets hg).set s1, ⟨ok (by decide) (by decide) h.next.own, fun i hi => ok (by decide) (by decide) (h.next.row i hi), h.next.sep⟩, ok (by decide) (by decide) h.mks, h.sep, h.loM, h.lob⟩
  rw [prs_snoc, List.length_append]
  exact own_set ho s1 (by decide) _ _
/-- A mark is put behind. -/
theorem Mk3.mark {w' : World} {vK' : Value} {p : Int × Int} (h : Mk3 W0 A B how bm bM lt vL K mM mT mK vT R vN ws vK cs w)
    (ho : w'.ownsRow W0.heap.size 3 1 vK' (mK.length + 1) (ints (mK.map (mkF how A B)) ++ [.int .i64 (mkF how A B p)])) (hg : w.grownBy w' vK.ownBlock) (hat : vK'.ownBlock = vK.ownBlock ∨ vK'.ownBlock = some w.heap.size) :
    Mk3 W0 A B how bm bM lt vL K mM mT (mK ++ [p]) vT R vN ws vK' (cs.setIfInBounds 777 vK') (w'.setCell ⟨bm, 777, none⟩ vK') := by
  have s1 : St w' 76 bm cs := h.st.grown_own h.mks (by decide) hg
  have ok : ∀ {t n sz : Nat} {v : Value} {xs : List Value}, t ≠ 3 → t ≠ 76 → w.ownsRow W0.heap.size t sz v n xs → (w'.setCell ⟨bm, 777, none⟩ vK').ownsRow W0.heap.size t sz v n xs := fun {t n sz v xs} h1 h2 hx =>
    own_set (own_grown hx hg (fun b e e2 => own_kinds hx h.mks h1 b e e2.symm)) s1 h2 _ _
  refine ⟨(below_grown_own h.bel h.mks h.bel.size hg).setCell (p := ⟨bm, 777, none⟩) h.lob _, s1.set 777 vK', h.c.setK vK', ok (by decide) (by decide) h.lets, ok (by decide) (by decide) h.mets, (h.map.grown_own h.mks hg).set s1, ⟨ok (by decide) (by decide) h.next.own, fun i hi => own_set (own_grown (h.next.row i hi) hg (fun b e e2 => h.sep i hi b e e2.symm)) s1 (by decide) _ _, h.next.sep⟩, ?_, fun i hi b e => ?_, h.loM, h.lob⟩
  · rw [List.length_append, List.map_append]
    have := own_set ho s1 (by decide) 777 vK'
    simpa [ints] using this
  · rcases hat with e2 | e2
    · rw [e2]; exact h.sep i hi b e
    · rw [e2]
      intro e3
      have := own_lt9 (h.next.row i hi) b e
      simp at e3
      omega
end
end Go.Proofs.Ytohgbkajnhgnaaa
