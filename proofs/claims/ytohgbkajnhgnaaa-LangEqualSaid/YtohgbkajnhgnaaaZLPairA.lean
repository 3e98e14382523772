import Derived.Test.YtohgbkajnhgnaaaZLLdM
import Derived.Test.YtohgbkajnhgnaaaZTKeep
import Derived.Test.YtohgbkajnhgnaaaZTLaw
import Derived.Test.YtohgbkajnhgnaaaZTRefW
import Derived.Test.YtohgbkajnhgnaaaZTTrim
import Derived.Deep.RegionHeld
import Derived.Deep.RegionHeld3
import Derived.OrdersHeld
namespace Go.Proofs.Ytohgbkajnhgnaaa
open Go.RowKit Go.Maps Go.WideElems Go.ChangeMaps Go.MapKept
set_option linter.unusedVariables false
set_option linter.unusedSimpArgs false

theorem pair_built (x y : Int) (W : World) : (Instr.build 72 #[(0, .int .i64 x), (1, .int .i64 y)]).run Try.prog W = .ok (.agg #[.int .i64 x, .int .i64 y]) W := by kernel_rfl
theorem row0_at (l : List Int) (n k : Nat) (h : l.length = k) (hk : k < n) : (l ++ List.replicate (n - k) 0)[k]? = some 0 := by
  have : 0 < n - k := by omega
  simp [List.getElem?_append, h, this]
/-- What lead leaves. -/
def LeadP (W0 : World) (A B : Dd) (how : Int) (bm bM : Nat) (lt : List Nat) (vL : Value) (Kc : Nat → Nat) (met : List (Int × Int)) (R : List (List Int)) (p : Int × Int) (e : Ending) (w' : World) : Prop :=
  ∃ (m1 : List (Int × Int)) (vT vK vN : Value) (ws : Nat → Value) (cs : Array Value) (l : List Int), e = .returned (.tuple #[]) ∧ Mk3 W0 A B how bm bM lt vL Kc m1 m1 m1 vT (R ++ [l]) vN ws vK cs w' ∧ LeadR (prN A B p lt) met m1 lt.length l

set_option maxHeartbeats 2000000 in
set_option maxRecDepth 100000 in
theorem lead10_any (W0 : World) (A B : Dd) (CA CB : Nat) (hA : DR A CA) (hB : DR B CB) (hdA : DM W0 A) (hdB : DM W0 B) (how : Int) (bm bM : Nat) (lt : List Nat) (n : Nat) (hn : lt.length = n) (hn1 : 1 ≤ n) (hn2 : n ≤ 256) (hlt : ∀ c, c < n → lt.getD c 0 < 256) (vL : Value) (Kc : Nat → Nat) (met : List (Int × Int)) (hq : met.length ≤ 900000) (vT : Value) (R : List (List Int)) (rN : Nat) (hrN : R.length = rN) (hrN2 : rN ≤ 900000) (vN : Value) (ws : Nat → Value) (vK : Value) (cs : Array Value) (p : Int × Int) (w : World)
    (h : Mk3 W0 A B how bm bM lt vL Kc met met met vT R vN ws vK cs w) :
    Calls Try.prog 46 #[.pointer (some ⟨bm, 0, none⟩), prv p] w (LeadP W0 A B how bm bM lt vL Kc met R p) := by
  obtain ⟨iV, hV, hV0, hV1, hV2⟩ := info_parts Try.info_ints
  have HAB := Lib.hid (And.intro hA (And.intro hB (And.intro hdA (And.intro hdB (And.intro hq (And.intro hn hrN))))))
  have HLt := Lib.hid hlt
  have kb := al w (.cells #[.int .i64 p.1, .int .i64 p.2] 72)
  have hTlt : vT.ownBlock ≠ some w.heap.size := fun e => by have := own_lt9 h.mets _ e; omega
  have HB : Hid (Mk3 W0 A B how bm bM lt vL Kc met met met vT R vN ws vK cs (w.alloc (.cells #[.int .i64 p.1, .int .i64 p.2] 72)) ∧ St (w.alloc (.cells #[.int .i64 p.1, .int .i64 p.2] 72)) 72 w.heap.size #[.int .i64 p.1, .int .i64 p.2] ∧ vT.ownBlock ≠ some w.heap.size) := ⟨h.keep kb, St.new _ _ _, hTlt⟩
  obtain ⟨aL, cL, rfl⟩ := ownsRow_slice h.lets
  obtain ⟨gL, eL, _, _, _⟩ := ownsRow_read h.lets (by omega)
  subst eL
  obtain ⟨aN, cN, rfl⟩ := ownsRow_slice h.next.own
  rw [hrN] at HB
  rw [hn] at HB ⊢
  clear h kb hA hB hdA hdB hq hlt hTlt
  obtain ⟨p1, e1⟩ : ∃ p1, p.1 = p1 := ⟨_, rfl⟩
  obtain ⟨p2, e2⟩ : ∃ p2, p.2 = p2 := ⟨_, rfl⟩
  have He := Lib.hid (And.intro e1 e2)
  rw [e1, e2] at HB
  unfold prv
  rw [e1, e2]
  clear e1 e2
  go_enter Try.func46, Try.ntmps46
  go_upto_region 1 with fail
  generalize w.alloc (.cells #[.int .i64 p1, .int .i64 p2] 72) = W1 at HB ⊢
  obtain ⟨b3, hb3⟩ : ∃ b3, w.heap.size = b3 := ⟨_, rfl⟩
  rw [hb3] at HB
  rw [hb3]
  clear hb3 hrN hn
  have hmkr := make_row10 n (by omega)
  have f517 : W1.cell? ⟨bm, 517, none⟩ = some (.slice (some ⟨gL, 0, none⟩) n cL) := (HB.out.1.st.at_ 517).trans HB.out.1.c.hL
  have k9 := al W1 (.cells (madeCells #[.int .i64 0] n) 3)
  have HD : Hid (LdM W0 A B how bm bM lt n (.slice (some ⟨gL, 0, none⟩) n cL) Kc R (.slice aN rN cN) ws p1 p2 b3 W1.heap.size met vT vK cs ([] ++ List.replicate (n - 0) 0) (W1.alloc (.cells (madeCells #[.int .i64 0] n) 3))) := by
    refine ⟨HB.out.1.keep k9, ?_, HB.out.2.1.keep k9, fun e => ?_, HB.out.2.2, fun i hi e => ?_, HB.out.1.bel.size⟩
    · have := made_own W1 W0.heap.size n 3 (.int .i64 0) HB.out.1.bel.size (by unfold maxLen; omega)
      simpa [ints] using this
    · have := own_lt9 HB.out.1.mks _ e; omega
    · have := own_lt9 (HB.out.1.next.row i hi) _ e; omega
  have f517' := (k9.cell (p := ⟨bm, 517, none⟩) HB.out.1.st.lt).trans f517
  clear k9 HB
  go_upto_region 2 with fail
  generalize W1.alloc (.cells (madeCells #[.int .i64 0] n) 3) = W2 at HD f517' ⊢
  obtain ⟨gR, hgR⟩ : ∃ gR, W1.heap.size = gR := ⟨_, rfl⟩
  rw [hgR] at HD
  rw [hgR]
  clear hgR f517 hmkr
  go_wp2_with fail
  go_loopw [5, 6, 18] (fun _ _ v wq => ∃ (k : Nat), v = .int .i64 k ∧ k ≤ n ∧ Hid (∃ m1 vT1 vK1 cs1 l, LdM W0 A B how bm bM lt n (.slice (some ⟨gL, 0, none⟩) n cL) Kc R (.slice aN rN cN) ws p1 p2 b3 gR m1 vT1 vK1 cs1 (l ++ List.replicate (n - k) 0) wq ∧ LeadR (prN A B p lt) met m1 k l)) (fun _ _ v _ => n - (intOf v).toNat)
  case atStart => exact ⟨0, rfl, by omega, ⟨met, vT, vK, cs, [], HD.out, LeadR.zero _ _⟩⟩
  case round =>
    clear HD f517'
    obtain ⟨k, rfl, hk, HA⟩ := hrel
    obtain ⟨m1, vT1, vK1, cs1, l, hL, hLR⟩ := HA.out
    clear HA
    by_cases hlk : k < n
    · have i0 : (k : Int) < (n : Int) := by omega
      have HLR := Lib.hid hLR
      obtain ⟨x, hx⟩ : ∃ x, lt.getD k 0 = x := ⟨_, rfl⟩
      have hx2 : x < 256 := by rw [← hx]; exact HLt.out k hlk
      have hxl : lt[k]? = some x := by
        have h1 : k < lt.length := by rw [HAB.out.2.2.2.2.2.1]; exact hlk
        rw [← hx, List.getD_eq_getElem?_getD, List.getElem?_eq_getElem h1]
        rfl
      have hcx : wr.cell? ⟨gL, k, none⟩ = some (.int .u8 ((x : Nat) : Int)) := by
        have hls := hL.ma.lets
        rw [HAB.out.2.2.2.2.2.1] at hls
        obtain ⟨g', e', _, _, hc'⟩ := ownsRow_read hls (by omega)
        injection e' with e'
        injection e' with e' _
        subst e'
        rw [(hc' k (by omega)).1]
        simp [u8s, hxl]
      obtain ⟨y1, hy1⟩ : ∃ y1, stepF A p1 x = y1 := ⟨_, rfl⟩
      obtain ⟨y2, hy2⟩ : ∃ y2, stepF B p2 x = y2 := ⟨_, rfl⟩
      have HY1 := Lib.hid hy1
      have HY2 := Lib.hid hy2
      have HTk : Hid (prN A B p lt k = (y1, y2)) := by
        show _ = _
        unfold prN
        rw [hx, He.out.1, He.out.2, hy1, hy2]
      have HPr : Hid (Prb A B (y1, y2)) := ⟨by rw [← hy1]; exact stepF_bd HAB.out.1 p1 hx2, by rw [← hy2]; exact stepF_bd HAB.out.2.1 p2 hx2⟩
      have HQ : Hid (m1.length ≤ 1000000) := by have := hLR.most; have := HAB.out.2.2.2.2.1; exact (by omega : m1.length ≤ 1000000)
      have HX0 := Lib.hid (row0_at l n k hLR.len hlk)
      have HXs := Lib.hid (ints_set9 l n k · hLR.len hlk)
      have HS := Lib.hid (And.intro HAB.out.2.2.1.sz HAB.out.2.2.2.1.sz)
      have HiA : Hid ((Try.prog.info? 26).map (·.size) = some A.cD.size) := HAB.out.2.2.1.info
      have HiB : Hid ((Try.prog.info? 26).map (·.size) = some B.cD.size) := HAB.out.2.2.2.1.info
      have HL := Lib.hid (hL.keep (Below.refl _ _).drew)
      clear hL hLR hxl hx hy1 hy2
      go_upto_region 5 with fail
      clear hcx
      refine wp_region_held_drew (S := fun W' => Below W0.heap.size W0 W' ∧ (∀ j v, A.cD.toList[j]? = some v → W'.cell? ((⟨bm, 1, none⟩ : Addr).add j) = some v) ∧ (∀ j v, B.cD.toList[j]? = some v → W'.cell? ((⟨bm, 259, none⟩ : Addr).add j) = some v) ∧ W'.cell? ⟨b3, 0, none⟩ = some (.int .i64 p1) ∧ W'.cell? ⟨b3, 1, none⟩ = some (.int .i64 p2)) (by kernel_rfl) (HL.out.see HS.out.1 HS.out.2) (fun hHeld => ?_)
      (refine wpAnyH_take (i := 0) (oi := ?_) (v := ?_) ?_ (by kernel_rfl) (by kernel_rfl) (by kernel_rfl) ?_ (Or.inl ⟨?_, ?_⟩) (by assumption) ?_; rotate_left 2; (focus ((simp only [List.getElem?_toArray, List.getElem?_cons_zero]); first | done | rfl)); (focus (exact fun _ _ _ h => h)); (focus rfl); (focus (intro wz hSw; (try dsimp only at hSw); go_simp; first | done | with_reducible rfl)); try simp only [Act.put, List.setIfInBounds_toArray, List.set_cons_zero, List.set_cons_succ])
      (refine wpAnyH_take (i := 1) (oi := ?_) (v := ?_) ?_ (by kernel_rfl) (by kernel_rfl) (by kernel_rfl) ?_ (Or.inl ⟨?_, ?_⟩) (by assumption) ?_; rotate_left 2; (focus ((simp only [List.getElem?_toArray, List.getElem?_cons_succ, List.getElem?_cons_zero]); first | done | rfl)); (focus (exact fun _ _ _ h => h)); (focus rfl); (focus (intro wz hSw; (try dsimp only at hSw); go_simp; first | done | with_reducible rfl)); try simp only [Act.put, List.setIfInBounds_toArray, List.set_cons_zero, List.set_cons_succ])
      (refine wpAnyH_take (i := 2) (oi := ?_) (v := ?_) ?_ (by kernel_rfl) (by kernel_rfl) (by kernel_rfl) ?_ (Or.inl ⟨?_, ?_⟩) (by assumption) ?_; rotate_left 2; (focus ((simp only [List.getElem?_toArray, List.getElem?_cons_succ, List.getElem?_cons_zero]); first | done | rfl)); (focus (exact fun _ _ _ h => h)); (focus rfl); (focus (intro wz hSw; (try dsimp only at hSw); go_simp; first | done | with_reducible rfl)); try simp only [Act.put, List.setIfInBounds_toArray, List.set_cons_zero, List.set_cons_succ])
      (refine wpAnyH_take (i := 3) (oi := ?_) (v := ?_) ?_ (by kernel_rfl) (by kernel_rfl) (by kernel_rfl) ?_ (Or.inl ⟨?_, ?_⟩) (by assumption) ?_; rotate_left 2; (focus ((simp only [List.getElem?_toArray, List.getElem?_cons_succ, List.getElem?_cons_zero]); first | done | rfl)); (focus (exact fun _ _ _ h => h)); (focus rfl); (focus (intro wz hSw; (try dsimp only at hSw); go_simp; first | done | with_reducible rfl)); try simp only [Act.put, List.setIfInBounds_toArray, List.set_cons_zero, List.set_cons_succ])
      (refine wpAnyH_take (i := 4) (oi := ?_) (v := ?_) ?_ (by kernel_rfl) (by kernel_rfl) (by kernel_rfl) ?_ (Or.inl ⟨?_, ?_⟩) (by assumption) ?_; rotate_left 2; (focus ((simp only [List.getElem?_toArray, List.getElem?_cons_succ, List.getElem?_cons_zero]); first | done | rfl)); (focus (exact fun _ _ _ h => h)); (focus rfl); (focus (intro wz hSw; (try dsimp only at hSw); go_simp; first | done | with_reducible rfl)); try simp only [Act.put, List.setIfInBounds_toArray, List.set_cons_zero, List.set_cons_succ])
      (refine wpAnyH_take (i := 5) (oi := ?_) (v := ?_) ?_ (by kernel_rfl) (by kernel_rfl) (by kernel_rfl) ?_ (Or.inl ⟨?_, ?_⟩) (by assumption) ?_; rotate_left 2; (focus ((simp only [List.getElem?_toArray, List.getElem?_cons_succ, List.getElem?_cons_zero]); first | done | rfl)); (focus (exact fun _ _ _ h => h)); (focus rfl); (focus (intro wz hSw; (try dsimp only at hSw); go_simp; first | done | with_reducible rfl)); try simp only [Act.put, List.setIfInBounds_toArray, List.set_cons_zero, List.set_cons_succ])
      (refine wpAnyH_take (i := 6) (oi := ?_) (v := .agg A.cD) ?_ (by kernel_rfl) (by kernel_rfl) (by kernel_rfl) ?_ (Or.inl ⟨?_, ?_⟩) (by assumption) ?_; rotate_left; (focus ((simp only [List.getElem?_toArray, List.getElem?_cons_succ, List.getElem?_cons_zero]); first | done | rfl)); (focus (exact fun _ _ _ h => h)); (focus rfl); (focus (intro wz hSw; exact exec_load_any9 (o := _) (ρ := _) wz 26 (.tmp 28) rfl ⟨bm, 1, none⟩ rfl A.cD _ (And.left (And.right hSw)) Try.underlying26 rfl HiA.out)); try simp only [Act.put, List.setIfInBounds_toArray, List.set_cons_zero, List.set_cons_succ])
      (refine wpAnyH_take (i := 7) (oi := ?_) (v := ?_) ?_ (by kernel_rfl) (by kernel_rfl) (by kernel_rfl) ?_ (Or.inl ⟨?_, ?_⟩) (by assumption) ?_; rotate_left 2; (focus ((simp only [List.getElem?_toArray, List.getElem?_cons_succ, List.getElem?_cons_zero]); first | done | rfl)); (focus (exact fun _ _ _ h => h)); (focus rfl); (focus (intro wz hSw; (try dsimp only at hSw); go_simp; first | done | with_reducible rfl)); try simp only [Act.put, List.setIfInBounds_toArray, List.set_cons_zero, List.set_cons_succ])
      (refine wpAnyH_take (i := 8) (oi := ?_) (v := ?_) ?_ (by kernel_rfl) (by kernel_rfl) (by kernel_rfl) ?_ (Or.inl ⟨?_, ?_⟩) (by assumption) ?_; rotate_left 2; (focus ((simp only [List.getElem?_toArray, List.getElem?_cons_succ, List.getElem?_cons_zero]); first | done | rfl)); (focus (exact fun _ _ _ h => h)); (focus rfl); (focus (intro wz hSw; (try dsimp only at hSw); go_simp; first | done | with_reducible rfl)); try simp only [Act.put, List.setIfInBounds_toArray, List.set_cons_zero, List.set_cons_succ])
      (refine wpAnyH_take (i := 9) (oi := ?_) (v := ?_) ?_ (by kernel_rfl) (by kernel_rfl) (by kernel_rfl) ?_ (Or.inl ⟨?_, ?_⟩) (by assumption) ?_; rotate_left 2; (focus ((simp only [List.getElem?_toArray, List.getElem?_cons_succ, List.getElem?_cons_zero]); first | done | rfl)); (focus (exact fun _ _ _ h => h)); (focus rfl); (focus (intro wz hSw; (try dsimp only at hSw); go_simp; first | done | with_reducible rfl)); try simp only [Act.put, List.setIfInBounds_toArray, List.set_cons_zero, List.set_cons_succ])
      (refine wpAnyH_take (i := 11) (oi := ?_) (v := ?_) ?_ (by kernel_rfl) (by kernel_rfl) (by kernel_rfl) ?_ (Or.inl ⟨?_, ?_⟩) (by assumption) ?_; rotate_left 2; (focus ((simp only [List.getElem?_toArray, List.getElem?_cons_succ, List.getElem?_cons_zero]); first | done | rfl)); (focus (exact fun _ _ _ h => h)); (focus rfl); (focus (intro wz hSw; (try dsimp only at hSw); go_simp; first | done | with_reducible rfl)); try simp only [Act.put, List.setIfInBounds_toArray, List.set_cons_zero, List.set_cons_succ])
      (refine wpAnyH_take (i := 12) (oi := ?_) (v := ?_) ?_ (by kernel_rfl) (by kernel_rfl) (by kernel_rfl) ?_ (Or.inl ⟨?_, ?_⟩) (by assumption) ?_; rotate_left 2; (focus ((simp only [List.getElem?_toArray, List.getElem?_cons_succ, List.getElem?_cons_zero]); first | done | rfl)); (focus (exact fun _ _ _ h => h)); (focus rfl); (focus (intro wz hSw; (try dsimp only at hSw); go_simp; first | done | with_reducible rfl)); try simp only [Act.put, List.setIfInBounds_toArray, List.set_cons_zero, List.set_cons_succ])
      (refine wpAnyH_take (i := 13) (oi := ?_) (v := ?_) ?_ (by kernel_rfl) (by kernel_rfl) (by kernel_rfl) ?_ (Or.inl ⟨?_, ?_⟩) (by assumption) ?_; rotate_left 2; (focus ((simp only [List.getElem?_toArray, List.getElem?_cons_succ, List.getElem?_cons_zero]); first | done | rfl)); (focus (exact fun _ _ _ h => h)); (focus rfl); (focus (intro wz hSw; (try dsimp only at hSw); go_simp; first | done | with_reducible rfl)); try simp only [Act.put, List.setIfInBounds_toArray, List.set_cons_zero, List.set_cons_succ])
      (refine wpAnyH_take (i := 14) (oi := ?_) (v := .agg B.cD) ?_ (by kernel_rfl) (by kernel_rfl) (by kernel_rfl) ?_ (Or.inl ⟨?_, ?_⟩) (by assumption) ?_; rotate_left; (focus ((simp only [List.getElem?_toArray, List.getElem?_cons_succ, List.getElem?_cons_zero]); first | done | rfl)); (focus (exact fun _ _ _ h => h)); (focus rfl); (focus (intro wz hSw; exact exec_load_any9 (o := _) (ρ := _) wz 26 (.tmp 36) rfl ⟨bm, 259, none⟩ rfl B.cD _ (And.left (And.right (And.right hSw))) Try.underlying26 rfl HiB.out)); try simp only [Act.put, List.setIfInBounds_toArray, List.set_cons_zero, List.set_cons_succ])
      (refine wpAnyH_take (i := 15) (oi := ?_) (v := ?_) ?_ (by kernel_rfl) (by kernel_rfl) (by kernel_rfl) ?_ (Or.inl ⟨?_, ?_⟩) (by assumption) ?_; rotate_left 2; (focus ((simp only [List.getElem?_toArray, List.getElem?_cons_succ, List.getElem?_cons_zero]); first | done | rfl)); (focus (exact fun _ _ _ h => h)); (focus rfl); (focus (intro wz hSw; (try dsimp only at hSw); go_simp; first | done | with_reducible rfl)); try simp only [Act.put, List.setIfInBounds_toArray, List.set_cons_zero, List.set_cons_succ])
      (refine wpAnyH_take (i := 16) (oi := ?_) (v := ?_) ?_ (by kernel_rfl) (by kernel_rfl) (by kernel_rfl) ?_ (Or.inl ⟨?_, ?_⟩) (by assumption) ?_; rotate_left 2; (focus ((simp only [List.getElem?_toArray, List.getElem?_cons_succ, List.getElem?_cons_zero]); first | done | rfl)); (focus (exact fun _ _ _ h => h)); (focus rfl); (focus (intro wz hSw; (try dsimp only at hSw); go_simp; first | done | with_reducible rfl)); try simp only [Act.put, List.setIfInBounds_toArray, List.set_cons_zero, List.set_cons_succ])
      (refine wpAnyH_take (i := 17) (oi := ?_) (v := ?_) ?_ (by kernel_rfl) (by kernel_rfl) (by kernel_rfl) ?_ (Or.inl ⟨?_, ?_⟩) (by assumption) ?_; rotate_left 2; (focus ((simp only [List.getElem?_toArray, List.getElem?_cons_succ, List.getElem?_cons_zero]); first | done | rfl)); (focus (exact fun _ _ _ h => h)); (focus rfl); (focus (intro wz hSw; (try dsimp only at hSw); go_simp; first | done | with_reducible rfl)); try simp only [Act.put, List.setIfInBounds_toArray, List.set_cons_zero, List.set_cons_succ])
      refine wpAnyH_ready (rs := [10]) (by kernel_rfl) (by simp) ?_
      refine AllReadyH.cons (o := ?_) ?_ (fun K hK => ?_) ?_
      rotate_left
      (focus ((simp only [List.getElem?_toArray, List.getElem?_cons_succ, List.getElem?_cons_zero]); first | done | rfl))
      · skip
        go_simp
        go_at_call 34
        refine (dstep_any A _ HAB.out.1 p1 x hx2 _ (HAB.out.2.2.1.below hHeld.1)).mono ?_
        rintro e w10 ⟨rfl, vv⟩
        rw [HY1.out]
        have HL := Lib.hid (HL.out.keep vv)
        clear vv
        try go_wp2_with fail
        refine hK.out _ _ (HL.out.see HS.out.1 HS.out.2) (fun hHeld => ?_)
        clear hK K
        try simp only [Act.put, List.setIfInBounds_toArray, List.set_cons_zero, List.set_cons_succ]
        refine wpAnyH_ready (rs := [18]) (by kernel_rfl) (by simp) ?_
        refine AllReadyH.cons (o := ?_) ?_ (fun K hK => ?_) ?_
        rotate_left
        (focus ((simp only [List.getElem?_toArray, List.getElem?_cons_succ, List.getElem?_cons_zero]); first | done | rfl))
        · skip
          go_simp
          go_at_call 34
          refine (dstep_any B _ HAB.out.2.1 p2 x hx2 _ (HAB.out.2.2.2.1.below hHeld.1)).mono ?_
          rintro e w18 ⟨rfl, vv⟩
          rw [HY2.out]
          have HL := Lib.hid (HL.out.keep vv)
          clear vv
          try go_wp2_with fail
          refine hK.out _ _ (HL.out.see HS.out.1 HS.out.2) (fun hHeld => ?_)
          clear hK K
          try simp only [Act.put, List.setIfInBounds_toArray, List.set_cons_zero, List.set_cons_succ]
          (refine wpAnyH_take (i := 19) (oi := ?_) (v := (.agg #[.int .i64 y1, .int .i64 y2])) ?_ (by kernel_rfl) (by kernel_rfl) (by kernel_rfl) ?_ (Or.inl ⟨?_, ?_⟩) (by assumption) ?_; rotate_left; (focus ((simp only [List.getElem?_toArray, List.getElem?_cons_succ, List.getElem?_cons_zero]); first | done | rfl)); (focus (exact fun _ _ _ h => h)); (focus rfl); (focus (intro wz hSw; exact exec_bld10 wz _ _ rfl #[(0, .int .i64 y1), (1, .int .i64 y2)] (by first | rfl | simp [Act.eval] | (simp; rfl)) _ (pair_built y1 y2 wz))); try simp only [Act.put, List.setIfInBounds_toArray, List.set_cons_zero, List.set_cons_succ])
          refine wpAnyH_ready (rs := [20]) (by kernel_rfl) (by simp) ?_
          refine AllReadyH.cons (o := ?_) ?_ (fun K hK => ?_) ?_
          rotate_left
          (focus ((simp only [List.getElem?_toArray, List.getElem?_cons_succ, List.getElem?_cons_zero]); first | done | rfl))
          · skip
            go_simp
            go_at_call 45
            have hnum := number_any W0 A B _ _ HAB.out.1 HAB.out.2.1 HAB.out.2.2.1 HAB.out.2.2.2.1 how bm bM lt _ Kc m1 _ rfl HQ.out vT1 R _ ws vK1 cs1 (y1, y2) HPr.out _ HL.out.ma
            unfold prv at hnum
            refine hnum.mono ?_
            rintro e w20 ⟨m2, vT2, vK2, cs2, r, rfl, hM2, hKp, hsK, hsT, hz, hN⟩
            have HL := Lib.hid (HL.out.num hM2 hKp hsK hsT)
            have HN := Lib.hid hN
            clear hM2 hKp hsK hsT hz hN hnum
            try go_wp2_with fail
            refine hK.out _ _ (HL.out.see HS.out.1 HS.out.2) (fun hHeld => ?_)
            clear hK K
            try simp only [Act.put, List.setIfInBounds_toArray, List.set_cons_zero, List.set_cons_succ]
            (refine wpAnyH_take (i := 21) (oi := ?_) (v := ?_) ?_ (by kernel_rfl) (by kernel_rfl) (by kernel_rfl) ?_ (Or.inl ⟨?_, ?_⟩) (by assumption) ?_; rotate_left 2; (focus ((simp only [List.getElem?_toArray, List.getElem?_cons_succ, List.getElem?_cons_zero]); first | done | rfl)); (focus (exact fun _ _ _ h => h)); (focus rfl); (focus (intro wz hSw; (try dsimp only at hSw); go_simp; first | done | with_reducible rfl)); try simp only [Act.put, List.setIfInBounds_toArray, List.set_cons_zero, List.set_cons_succ])
            refine wpAnyH_ready (rs := [22]) (by kernel_rfl) (by simp) ?_
            refine AllReadyH.cons (o := ?_) ?_ (fun K hK => ?_) ?_
            rotate_left
            (focus ((simp only [List.getElem?_toArray, List.getElem?_cons_succ, List.getElem?_cons_zero]); first | done | rfl))
            · skip
              obtain ⟨z0, z1⟩ := HL.out.cell k hlk 0 HX0.out
              go_simp
              have HL := Lib.hid (HL.out.put k hlk r _ (HXs.out r))
              refine hK.out _ _ (HL.out.see HS.out.1 HS.out.2) (fun hHeld => ?_)
              clear hK K
              try simp only [Act.put, List.setIfInBounds_toArray, List.set_cons_zero, List.set_cons_succ]
              clear z0 z1
              refine wpAnyH_done (by kernel_rfl) ?_ _
              clear hHeld
              go_wp2_with fail
              go_roundw
              case rel => exact ⟨k + 1, by go_num, by omega, ⟨m2, vT2, vK2, cs2, l ++ [r], HL.out, HLR.out.step (by rw [HTk.out]; exact HN.out)⟩⟩
              case measure => simp [intOf]; omega
            exact AllReadyH.nil
          exact AllReadyH.nil
        exact AllReadyH.nil
      exact AllReadyH.nil
    · obtain rfl : k = n := by omega
      have hxs : l ++ List.replicate (k - k) 0 = l := by simp
      rw [hxs] at hL
      have HL := Lib.hid hL
      have HLR := Lib.hid hLR
      have k9 := al wr (.cells #[.slice (some ⟨gR, 0, none⟩) k k] 24)
      have HL9 := Lib.hid (hL.keep k9)
      have f776 : wr.cell? ⟨bm, 776, none⟩ = some (.slice aN rN cN) := (hL.ma.st.at_ 776).trans hL.ma.c.hN
      have ho9 := HL9.out.ma.next.own
      rw [HAB.out.2.2.2.2.2.2] at ho9
      have hlo9 := HL9.out.ma.bel.size
      clear hL hLR k9 hxs
      go_wp2_with (at_builtin; refine wpList_append_own_at _ rfl _ _ 23 rfl W0.heap.size 24 iV (.slice none 0 0) 1 24 Try.underlying23 hV hV0 hV1 hV2 rfl (by decide) _ _ _ rfl ho9 ⟨wr.heap.size, 0, none⟩ 1 1 [.slice (some ⟨gR, 0, none⟩) k k] rfl rfl (cell_one_new _ _ _) ?d2 ?d3 ?d4 ?d5 ?_)
      case d2 => first | (intro u hu; simp at hu; subst hu; rfl) | rfl
      case d3 => unfold maxLen; omega
      case d4 => omega
      case d5 => first | (simp; omega) | omega
      intro v' w5 hown5 hgrow5 _ hat5
      obtain ⟨a5, c5, rfl⟩ := ownsRow_slice hown5
      have h9 := HL9.out.ma.st.grown_own HL9.out.ma.next.own (by decide) hgrow5
      have z2 : w5.cell? ⟨bm, 776, none⟩ = some (.slice aN rN cN) := (h9.at_ 776).trans HL9.out.ma.c.hN
      have z3 : w5.frozen? ⟨bm, 776, none⟩ = false := h9.thaw_ 776
      have HF : Hid (LeadP W0 A B how bm bM lt (.slice (some ⟨gL, 0, none⟩) k cL) Kc met R p (.returned (.tuple #[])) (w5.setCell ⟨bm, 776, none⟩ (.slice a5 (rN + 1) c5))) := by
        have hm := HL9.out.ma
        have hr := HL9.out.row
        have hln : lt.length = k := HAB.out.2.2.2.2.2.1
        refine ⟨m1, vT1, vK1, .slice a5 (rN + 1) c5, _, _, l, rfl, hm.row (vR := .slice (some ⟨gR, 0, none⟩) k k) (by rw [hln]; exact HLR.out.len) (by rw [hln]; exact hr) (fun b e1 e2 => ?_) (fun i hi b e1 e2 => ?_) (by rw [HAB.out.2.2.2.2.2.2] ; exact hown5) hgrow5, by rw [hln]; exact HLR.out⟩
        · obtain rfl : gR = b := by simpa [Value.ownBlock] using e1
          exact HL9.out.sK e2
        · obtain rfl : gR = b := by simpa [Value.ownBlock] using e2
          exact HL9.out.sW i hi e1
      clear hown5 hgrow5 hat5 ho9 h9 f776
      go_wp2_with fail
      go_end0
      exact HF.out
end Go.Proofs.Ytohgbkajnhgnaaa

namespace Go.Proofs.Ytohgbkajnhgnaaa
open Go.RowKit Go.Maps Go.WideElems Go.ChangeMaps Go.MapKept
set_option linter.unusedVariables false
set_option linter.unusedSimpArgs false

theorem togF_no (how : Int) : togF how false false = false := by
  unfold togF
  split
  · rfl
  · split
    · rfl
    · split <;> rfl
theorem mkF_bd (how : Int) (A B : Dd) (p : Int × Int) : mkF how A B p = 0 ∨ mkF how A B p = -1 := by
  unfold mkF
  split
  · exact Or.inl rfl
  · exact Or.inr rfl
/-- Pairs of a list without doubles, within bounds. -/
theorem pairs_most {A B : Dd} {l : List (Int × Int)} (hd : l.Nodup) (hp : ∀ x ∈ l, Prb A B x) : l.length ≤ (A.n + 1) * (B.n + 1) := by
  have hinj : ∀ x ∈ l, ∀ y ∈ l, ((x.1 + 1).toNat * (B.n + 1) + (x.2 + 1).toNat) = ((y.1 + 1).toNat * (B.n + 1) + (y.2 + 1).toNat) → x = y := by
    intro x hx y hy e
    obtain ⟨⟨a1, a2⟩, a3, a4⟩ := hp x hx
    obtain ⟨⟨b1, b2⟩, b3, b4⟩ := hp y hy
    have h1 : (x.2 + 1).toNat < B.n + 1 := by omega
    have h2 : (y.2 + 1).toNat < B.n + 1 := by omega
    have e1 : (x.1 + 1).toNat = (y.1 + 1).toNat := by
      have q1 : ((x.1 + 1).toNat * (B.n + 1) + (x.2 + 1).toNat) / (B.n + 1) = (x.1 + 1).toNat := by
        rw [Nat.mul_comm, Nat.mul_add_div (by omega), Nat.div_eq_of_lt h1, Nat.add_zero]
      have q2 : ((y.1 + 1).toNat * (B.n + 1) + (y.2 + 1).toNat) / (B.n + 1) = (y.1 + 1).toNat := by
        rw [Nat.mul_comm, Nat.mul_add_div (by omega), Nat.div_eq_of_lt h2, Nat.add_zero]
      rw [← q1, e, q2]
    rw [e1] at e
    have e2 : (x.2 + 1).toNat = (y.2 + 1).toNat := by omega
    exact Prod.ext (by omega) (by omega)
  have h1 : (l.map fun x => (x.1 + 1).toNat * (B.n + 1) + (x.2 + 1).toNat).Nodup := by
    rw [List.Nodup, List.pairwise_map]
    exact List.Pairwise.imp_of_mem (fun {x y} hx hy hne e => hne (hinj x hx y hy e)) hd
  have h2 := nodup_below h1 (m := (A.n + 1) * (B.n + 1)) (fun n hn => by
    obtain ⟨x, hx, rfl⟩ := List.mem_map.1 hn
    obtain ⟨⟨a1, a2⟩, a3, a4⟩ := hp x hx
    have h3 : (x.1 + 1).toNat ≤ A.n := by omega
    have h4 : (x.1 + 1).toNat * (B.n + 1) ≤ A.n * (B.n + 1) := Nat.mul_le_mul_right _ h3
    have h5 : (A.n + 1) * (B.n + 1) = A.n * (B.n + 1) + (B.n + 1) := by rw [Nat.add_mul, Nat.one_mul]
    omega)
  simpa using h2
/-- The pairs that were met, and the rows that were made. -/
structure PairI (A B : Dd) (lt : List Nat) (met : List (Int × Int)) (R : List (List Int)) : Prop where
  z : met[0]? = some (0, 0)
  nod : met.Nodup
  prb : ∀ x ∈ met, Prb A B x
  row : ∀ i p, i < R.length → met[i]? = some p → (R.getD i []).length = lt.length ∧ ∀ c, c < lt.length → ((prN A B p lt c).1 = -1 ∧ (prN A B p lt c).2 = -1 ∧ (R.getD i [])[c]? = some (-1)) ∨ ∃ j : Nat, (R.getD i [])[c]? = some ((j : Nat) : Int) ∧ met[j]? = some (prN A B p lt c)
  le : R.length ≤ met.length
theorem PairI.start {A B : Dd} {lt : List Nat} {m1 : List (Int × Int)} {r : Int} (ha : 1 ≤ A.n) (hb : 1 ≤ B.n) (h : NumR [] (0, 0) m1 r) : PairI A B lt m1 [] := by
  rcases h with ⟨⟨e, _⟩, _⟩ | ⟨_, i, _, hi, e | ⟨_, e⟩⟩
  · exact absurd e (by decide)
  · rw [e] at hi; simp at hi
  · rw [e]
    refine ⟨rfl, by simp, fun x hx => ?_, fun i p hi => absurd hi (by simp), by simp⟩
    have : x = (0, 0) := by simpa using hx
    rw [this]
    exact ⟨⟨by simp, by simp; omega⟩, by simp, by simp; omega⟩
theorem PairI.step {A B : Dd} {CA CB : Nat} (hA : DR A CA) (hB : DR B CB) {lt : List Nat} (hlt : ∀ c, c < lt.length → lt.getD c 0 < 256) {met m1 : List (Int × Int)} {R : List (List Int)} {p : Int × Int} {l : List Int} (h : PairI A B lt met R) (hp : met[R.length]? = some p) (hl : LeadR (prN A B p lt) met m1 lt.length l) : PairI A B lt m1 (R ++ [l]) := by
  have hlen := (List.getElem?_eq_some_iff.1 hp).1
  have hml := hl.pre.length_le
  refine ⟨pre_at9 hl.pre h.z, hl.nod h.nod, fun x hx => ?_, fun i q hi hq => ?_, by rw [List.length_append]; simp; omega⟩
  · rcases hl.new x hx with h1 | ⟨c, hc, rfl, _⟩
    · exact h.prb x h1
    · exact ⟨stepF_bd hA _ (hlt c hc), stepF_bd hB _ (hlt c hc)⟩
  · rw [List.length_append] at hi
    simp at hi
    by_cases e : i < R.length
    · have hg : (R ++ [l]).getD i [] = R.getD i [] := by simp [List.getD_eq_getElem?_getD, List.getElem?_append_left e]
      rw [hg]
      have hq2 : met[i]? = some q := by
        have h1 : i < met.length := by omega
        have h2 := pre_at9 hl.pre (List.getElem?_eq_getElem h1)
        rw [hq] at h2
        rw [List.getElem?_eq_getElem h1, ← h2]
      obtain ⟨r1, r2⟩ := h.row i q e hq2
      refine ⟨r1, fun c hc => ?_⟩
      rcases r2 c hc with h1 | ⟨j, h1, h2⟩
      · exact Or.inl h1
      · exact Or.inr ⟨j, h1, pre_at9 hl.pre h2⟩
    · obtain rfl : i = R.length := by omega
      have hg : (R ++ [l]).getD R.length [] = l := by simp [List.getD_eq_getElem?_getD]
      rw [hg]
      have : q = p := by
        have h2 := pre_at9 hl.pre hp
        rw [hq] at h2
        exact Option.some.inj h2
      subst this
      refine ⟨hl.len, fun c hc => ?_⟩
      rcases hl.at_ c hc with h1 | ⟨_, j, h1, h2⟩
      · exact Or.inl h1
      · exact Or.inr ⟨j, h1, h2⟩
/-- The automaton that is made accepts what it is to accept. -/
def PairL (how : Int) (A B P : Dd) : Prop :=
  ∀ z : Nat → Nat, (∀ j, z j < 256) → ∀ k, (0 ≤ markF P (runF P 0 z k)) ↔ togF how (decide (0 ≤ markF A (runF A 0 z k))) (decide (0 ≤ markF B (runF B 0 z k))) = true
theorem num_rep {K1 K2 g : Nat → Nat} {m : Nat} (h : Num (SmC K1 K2) 256 g m) {b : Nat} (hb : b < 256) : (rpl g 256).getD (g b) 0 < 256 ∧ K1 ((rpl g 256).getD (g b) 0) = K1 b ∧ K2 ((rpl g 256).getD (g b) 0) = K2 b := by
  obtain ⟨a1, a2, a3⟩ := h.rpl 256 (Nat.le_refl _)
  have hl := h.rpl_all
  obtain ⟨x, h1, h2, h3⟩ := a2 (g b) (a1 b hb)
  have e : (rpl g 256).getD (g b) 0 = x := by rw [List.getD_eq_getElem?_getD, h1]; rfl
  have hx := rpl_lt g _ _ (List.mem_of_getElem? h1)
  rw [e]
  have hs := (h.same x b hx hb).1 h2
  exact ⟨hx, congrArg Prod.fst hs, congrArg Prod.snd hs⟩
theorem num_lt {K1 K2 g : Nat → Nat} {m : Nat} (h : Num (SmC K1 K2) 256 g m) (c : Nat) (hc : c < m) : (rpl g 256).getD c 0 < 256 := by
  obtain ⟨a1, a2, a3⟩ := h.rpl 256 (Nat.le_refl _)
  have hl := h.rpl_all
  obtain ⟨x, h1, h2, h3⟩ := a2 c (by omega)
  have e : (rpl g 256).getD c 0 = x := by rw [List.getD_eq_getElem?_getD, h1]; rfl
  rw [e]
  exact rpl_lt g _ _ (List.mem_of_getElem? h1)
theorem stepF_cls {D : Dd} {st : Int} {b c : Nat} (h : D.K b = D.K c) : stepF D st b = stepF D st c := by unfold stepF; rw [h]
theorem num_isc {K1 K2 g : Nat → Nat} {m : Nat} (h : Num (SmC K1 K2) 256 g m) : IsC g m ∧ ∀ c, c < m → ∃ j, j < 256 ∧ g j = c := by
  have hg : ∀ c, c < m → ∃ j, j < 256 ∧ g j = c := fun c hc => by
    obtain ⟨i, h1, h2, _⟩ := h.new c hc
    exact ⟨i, h1, h2⟩
  refine ⟨⟨fun j hj => h.lt j hj, ?_⟩, hg⟩
  have h0 := h.lt 0 (by omega)
  obtain ⟨j, h1, h2⟩ := hg (m - 1) (by omega)
  exact ⟨j, h1, by omega⟩
/-- What was made, told. -/
structure PairD (how : Int) (A B : Dd) (g : Nat → Nat) (m : Nat) (met : List (Int × Int)) (R : List (List Int)) (P : Dd) : Prop where
  K : P.K = g
  n : P.n = met.length
  mm : P.m = met.length
  len : ∀ i, i < met.length → P.len i = m
  nx : ∀ i, i < met.length → ∀ c, c < m → P.nx i c = (R.getD i []).getD c 0
  q : ∀ i, i < met.length → P.q i = mkF how A B (met.getD i (0, 0))
theorem PairD.nxt {how : Int} {A B P : Dd} {g : Nat → Nat} {m : Nat} {met : List (Int × Int)} {R : List (List Int)} (hN : Num (SmC A.K B.K) 256 g m) (hI : PairI A B (rpl g 256) met R) (hR : R.length = met.length) (hP : PairD how A B g m met R P) {i : Nat} {p : Int × Int} (hi : met[i]? = some p) {c : Nat} (hc : c < m) :
    ((prN A B p (rpl g 256) c).1 = -1 ∧ (prN A B p (rpl g 256) c).2 = -1 ∧ P.nx i c = -1) ∨ ∃ j : Nat, P.nx i c = ((j : Nat) : Int) ∧ met[j]? = some (prN A B p (rpl g 256) c) := by
  have hil := (List.getElem?_eq_some_iff.1 hi).1
  obtain ⟨r1, r2⟩ := hI.row i p (by omega) hi
  have hl := hN.rpl_all
  rw [hP.nx i hil c hc]
  rcases r2 c (by omega) with ⟨h1, h2, h3⟩ | ⟨j, h1, h2⟩
  · exact Or.inl ⟨h1, h2, by rw [List.getD_eq_getElem?_getD, h3]; rfl⟩
  · exact Or.inr ⟨j, by rw [List.getD_eq_getElem?_getD, h1]; rfl, h2⟩
theorem PairD.right {how : Int} {A B P : Dd} {g : Nat → Nat} {m : Nat} {met : List (Int × Int)} {R : List (List Int)} (hN : Num (SmC A.K B.K) 256 g m) (hI : PairI A B (rpl g 256) met R) (hR : R.length = met.length) (hP : PairD how A B g m met R P) (hb : met.length ≤ 32768) : DR P m := by
  have hn := hP.n
  have h0 := (List.getElem?_eq_some_iff.1 hI.z).1
  obtain ⟨h1, h2⟩ := num_isc hN
  refine ⟨by rw [hP.K]; exact h1, by omega, by omega, by rw [hP.n, hP.mm], fun c hc => by rw [hP.K]; exact h2 c hc, fun i hi => hP.len i (by omega), fun i hi => ?_, fun i c hi hc => ?_⟩
  · rw [hP.q i (by omega)]
    rcases mkF_bd how A B (met.getD i (0, 0)) with e | e <;> omega
  · rw [hn] at hi
    rcases hP.nxt hN hI hR (List.getElem?_eq_getElem hi) hc with ⟨_, _, e⟩ | ⟨j, e, hj⟩
    · omega
    · have := (List.getElem?_eq_some_iff.1 hj).1
      omega
theorem PairD.lang {how : Int} {A B P : Dd} {g : Nat → Nat} {m : Nat} {met : List (Int × Int)} {R : List (List Int)} (hN : Num (SmC A.K B.K) 256 g m) (hI : PairI A B (rpl g 256) met R) (hR : R.length = met.length) (hP : PairD how A B g m met R P) : PairL how A B P := by
  intro z hz k
  have hn := hP.n
  have hrun : ∀ k, (runF A 0 z k = -1 ∧ runF B 0 z k = -1 ∧ runF P 0 z k = -1) ∨ ∃ i : Nat, runF P 0 z k = ((i : Nat) : Int) ∧ met[i]? = some (runF A 0 z k, runF B 0 z k) := by
    intro k
    induction k with
    | zero => exact Or.inr ⟨0, rfl, hI.z⟩
    | succ k ih =>
      rcases ih with ⟨e1, e2, e3⟩ | ⟨i, e1, e2⟩
      · exact Or.inl ⟨by show stepF A (runF A 0 z k) (z k) = -1; rw [e1, stepF_dead], by show stepF B (runF B 0 z k) (z k) = -1; rw [e2, stepF_dead], by show stepF P (runF P 0 z k) (z k) = -1; rw [e3, stepF_dead]⟩
      · have hil := (List.getElem?_eq_some_iff.1 e2).1
        obtain ⟨q1, q2, q3⟩ := num_rep hN (hz k)
        have hs : runF P 0 z (k + 1) = P.nx i (g (z k)) := by
          show stepF P (runF P 0 z k) (z k) = _
          rw [e1]
          unfold stepF
          rw [if_pos (by omega), hP.K, Int.toNat_natCast]
        have hp : prN A B (runF A 0 z k, runF B 0 z k) (rpl g 256) (g (z k)) = (runF A 0 z (k + 1), runF B 0 z (k + 1)) := by
          unfold prN
          rw [stepF_cls q2, stepF_cls q3]
          rfl
        rcases hP.nxt hN hI hR e2 (hN.lt _ (hz k)) with ⟨h1, h2, h3⟩ | ⟨j, h1, h2⟩
        · rw [hp] at h1 h2
          exact Or.inl ⟨h1, h2, by rw [hs, h3]⟩
        · rw [hp] at h2
          exact Or.inr ⟨j, by rw [hs, h1], h2⟩
  rcases hrun k with ⟨e1, e2, e3⟩ | ⟨i, e1, e2⟩
  · rw [e1, e2, e3, markF_dead, markF_dead, markF_dead]
    have h1 : decide ((0 : Int) ≤ -1) = false := by decide
    rw [h1, togF_no]
    simp
  · have hil := (List.getElem?_eq_some_iff.1 e2).1
    have hq : markF P (runF P 0 z k) = mkF how A B (runF A 0 z k, runF B 0 z k) := by
      rw [e1]
      unfold markF
      rw [if_pos (by omega), Int.toNat_natCast, hP.q i hil, List.getD_eq_getElem?_getD, e2]
      rfl
    rw [hq]
    unfold mkF
    cases togF how (decide (0 ≤ markF A (runF A 0 z k))) (decide (0 ≤ markF B (runF B 0 z k))) <;> simp
end Go.Proofs.Ytohgbkajnhgnaaa

namespace Go.Proofs.Ytohgbkajnhgnaaa
open Go.RowKit Go.Maps Go.WideElems Go.ChangeMaps Go.MapKept
set_option linter.unusedVariables false
set_option linter.unusedSimpArgs false

/-- The answer of Pair. -/
def PairP (how : Int) (A B : Dd) (w : World) (e : Ending) (w' : World) : Prop :=
  ∃ (P : Dd) (C : Nat), e = .returned (.tuple #[.agg P.cD, .int .i64 0]) ∧ DM w' P ∧ DR P C ∧ P.n ≤ 2000 ∧ PairL how A B P ∧ Below w.heap.size w w'
theorem pair_part {w : World} {A B : Dd} {how : Int} {bm : Nat} {cs : Array Value} {vL vT vM vN vK : Value} {K : Nat → Nat} (hs : St w 76 bm cs) (h : MkC cs how A B vL vT vM K vN vK) : ∀ j v, (dfC K vN vK).toList[j]? = some v → w.cell? ((⟨bm, 520, none⟩ : Addr).add j) = some v := fun j v hj => by
  have hl : j < 258 := by
    have := (List.getElem?_eq_some_iff.1 hj).1
    simpa [dfC_size] using this
  have e : (⟨bm, 520, none⟩ : Addr).add j = ⟨bm, 520 + j, none⟩ := by unfold Addr.add; split <;> simp_all
  rw [e, hs.at_, ← hj, Array.getElem?_toList]
  by_cases h1 : j < 256
  · rw [h.hk j h1, dfC_cl _ _ _ j h1]
  · by_cases h2 : j = 256
    · subst h2; rw [dfC_n]; exact h.hN
    · obtain rfl : j = 257 := by omega
      rw [dfC_k]; exact h.hK
theorem pair_done {w W0 wr : World} {A B : Dd} {how : Int} {bm bM b2 m : Nat} {g : Nat → Nat} {vL vT vN vK : Value} {met : List (Int × Int)} {R : List (List Int)} {ws : Nat → Value} {cs old : Array Value} (hN : Num (SmC A.K B.K) 256 g m) (hm : m ≤ 256) (h : Mk3 W0 A B how bm bM (rpl g 256) vL g met met met vT R vN ws vK cs wr) (hI : PairI A B (rpl g 256) met R) (hR : R.length = met.length) (hb : met.length ≤ 2000)
    (hs : St wr 26 b2 old) (hW : Below w.heap.size w W0) (h2 : w.heap.size ≤ b2) : PairP how A B w (.returned (.tuple #[.agg (dfC g vN vK), .int .i64 0])) (wr.setRow b2 (dfC g vN vK)) := by
  have hl := hN.rpl_all
  have kp := kept_setRow9 wr b2 (dfC g vN vK)
  have ok : ∀ {t n sz : Nat} {v : Value} {xs : List Value}, t ≠ 26 → wr.ownsRow W0.heap.size t sz v n xs → (wr.setRow b2 (dfC g vN vK)).ownsRow w.heap.size t sz v n xs := fun {t n sz v xs} ht hx =>
    ownsRow_base (own_kept (ts := []) (bs := [b2]) hx kp (by simp) (fun q e hm => own_ne hx hs ht q e (List.mem_singleton.1 hm))) hW.size
  have hB : Below w.heap.size w (wr.setRow b2 (dfC g vN vK)) := below_setRow9 (hW.trans (h.bel.mono hW.size)) h2 _
  have hT : TrA w b2 g m vN R ws vK (met.map (mkF how A B)) (wr.setRow b2 (dfC g vN vK)) := by
    refine ⟨hB, hs.setRow, ⟨ok (by decide) h.next.own, fun i hi => ?_, h.next.sep⟩, ?_, h.sep, h2⟩
    · have := ok (by decide) (h.next.row i hi)
      rw [hl] at this
      exact this
    · rw [List.length_map]
      exact ok (by decide) h.mks
  obtain ⟨P, he, hD, e1, e2, e3, e4, e5, e6, e7, _⟩ := TrA.dfp (D := { A with K := g }) (w := w) (w' := wr.setRow b2 (dfC g vN vK)) (n' := met.length) (nx' := fun i c => (R.getD i []).getD c 0) (q' := fun i => mkF how A B (met.getD i (0, 0))) (fun j hj => by have := hN.lt j hj; show g j < 256; omega) hT hR (fun r hr => by
      obtain ⟨i, hi, e⟩ := List.getElem_of_mem hr
      have h1 : i < met.length := by omega
      have h3 := (hI.row i _ hi (List.getElem?_eq_getElem h1)).1
      rw [List.getD_eq_getElem?_getD, List.getElem?_eq_getElem hi, e, hl] at h3
      exact h3) (by
      apply List.ext_getElem?
      intro i
      by_cases hi : i < met.length
      · simp [hi, List.getD_eq_getElem?_getD]
      · rw [List.getElem?_eq_none (by simpa using hi), List.getElem?_eq_none (by simpa using hi)]) (fun i hi c hc => rfl) (Nat.le_refl _) (Or.inl (Below.refl _ _)) hB
  have hP : PairD how A B g m met R P := ⟨e1, e2, e3, e4, fun i hi c hc => e5 i hi c hc, e6⟩
  refine ⟨P, m, ?_, hD, hP.right hN hI hR (by omega), by omega, hP.lang hN hI hR, hB⟩
  have he2 : (Value.agg (dfC g vN vK)) = .agg P.cD := by
    injection he
  rw [he2]

end Go.Proofs.Ytohgbkajnhgnaaa

namespace Go.Proofs.Ytohgbkajnhgnaaa
open Go.RowKit Go.Maps Go.WideElems Go.ChangeMaps Go.MapKept
set_option linter.unusedVariables false
set_option linter.unusedSimpArgs false

/-- What is so at the loop of Pair. -/
def PairO (W0 : World) (A B : Dd) (how : Int) (bm bM : Nat) (g : Nat → Nat) (vL : Value) (k : Nat) (w : World) : Prop :=
  ∃ (met : List (Int × Int)) (R : List (List Int)) (vT vN vK : Value) (ws : Nat → Value) (cs : Array Value), R.length = k ∧ PairI A B (rpl g 256) met R ∧ Mk3 W0 A B how bm bM (rpl g 256) vL g met met met vT R vN ws vK cs w

set_option maxHeartbeats 2000000 in
set_option maxRecDepth 100000 in
theorem pair_any (how : Int) (h0 : 0 ≤ how) (h3 : how ≤ 3) (A B : Dd) (CA CB : Nat) (hA : DR A CA) (hB : DR B CB) (hab : (A.n + 1) * (B.n + 1) ≤ 2000) (w : World) (hdA : DM w A) (hdB : DM w B) :
    Calls Try.prog 26 #[.int .i64 how, .agg A.cD, .agg B.cD] w (PairP how A B w) := by
  have HAB := Lib.hid (And.intro hA (And.intro hB hab))
  have k0 := al w (.cells A.cD 26)
  have k1 := al (w.alloc (.cells A.cD 26)) (.cells B.cD 26)
  have k2 := al ((w.alloc (.cells A.cD 26)).alloc (.cells B.cD 26)) (.cells (zC 26) 26)
  have HB : Hid (DBx (((w.alloc (.cells A.cD 26)).alloc (.cells B.cD 26)).alloc (.cells (zC 26) 26)) w.heap.size A ∧ DBx (((w.alloc (.cells A.cD 26)).alloc (.cells B.cD 26)).alloc (.cells (zC 26) 26)) (w.heap.size + 1) B ∧ St (((w.alloc (.cells A.cD 26)).alloc (.cells B.cD 26)).alloc (.cells (zC 26) 26)) 26 (w.heap.size + 1 + 1) (zC 26) ∧ Below w.heap.size w (((w.alloc (.cells A.cD 26)).alloc (.cells B.cD 26)).alloc (.cells (zC 26) 26))) := by
    refine ⟨((DBx.new hdA).keep k1).keep k2, ?_, ?_, k0.trans ((k1.trans (k2.mono k1.size)).mono k0.size)⟩
    · have := (DBx.new (hdB.below k0)).keep k2
      simpa using this
    · have := St.new ((w.alloc (.cells A.cD 26)).alloc (.cells B.cD 26)) 26 (zC 26)
      simpa using this
  clear k0 k1 k2 hdA hdB hA hB hab
  go_enter Try.func26, Try.ntmps26
  go_upto_region 1 with (refine wpList_alloc9 rfl 26 rfl (zC 26) (zero_run9 _) ?_)
  try simp only [Act.put, List.setIfInBounds_toArray, List.set_cons_zero, List.set_cons_succ, alloc_sz9]
  generalize ((w.alloc (.cells A.cD 26)).alloc (.cells B.cD 26)).alloc (.cells (zC 26) 26) = W3 at HB ⊢
  obtain ⟨b2, hb2⟩ : ∃ b2, w.heap.size + 1 + 1 = b2 := ⟨_, rfl⟩
  obtain ⟨b1, hb1⟩ : ∃ b1, w.heap.size + 1 = b1 := ⟨_, rfl⟩
  obtain ⟨b0, hb0⟩ : ∃ b0, w.heap.size = b0 := ⟨_, rfl⟩
  rw [hb2, hb1, hb0] at HB
  rw [hb2, hb1, hb0]
  have Hb := Lib.hid (And.intro hb0 (And.intro hb1 hb2))
  clear hb0 hb1 hb2
  have g0 : ¬ how < 0 := by omega
  have g1 : ¬ 3 < how := by omega
  have HRa := Lib.hid (right_yes A CA HAB.out.1 W3 HB.out.1.dm)
  go_wp2_with (refine wpList_load_any9 (by rfl) 26 _ rfl ⟨b0, 0, none⟩ rfl A.cD _ HB.out.1.st.part Try.underlying26 rfl HB.out.1.dm.info ?_)
  refine HRa.out.mono ?_
  rintro e w1 ⟨rfl, k1⟩
  have H1 : Hid (DBx w1 b0 A ∧ DBx w1 b1 B ∧ St w1 26 b2 (zC 26) ∧ Below b0 w w1) := ⟨HB.out.1.keep k1, HB.out.2.1.keep k1, HB.out.2.2.1.keep k1, HB.out.2.2.2.trans (k1.mono (by have := HB.out.2.2.2.size; have := Hb.out.1; omega))⟩
  clear HRa HB k1
  have HRb := Lib.hid (right_yes B CB HAB.out.2.1 w1 H1.out.2.1.dm)
  go_wp2_with (refine wpList_load_any9 (by rfl) 26 _ rfl ⟨b1, 0, none⟩ rfl B.cD _ H1.out.2.1.st.part Try.underlying26 rfl H1.out.2.1.dm.info ?_)
  refine HRb.out.mono ?_
  rintro e w2 ⟨rfl, k2⟩
  have H2 : Hid (DBx w2 b0 A ∧ DBx w2 b1 B ∧ St w2 26 b2 (zC 26) ∧ Below b0 w w2) := ⟨H1.out.1.keep k2, H1.out.2.1.keep k2, H1.out.2.2.1.keep k2, H1.out.2.2.2.trans (k2.mono (by have := H1.out.2.2.2.size; have := Hb.out.1; omega))⟩
  clear HRb H1 k2
  have HNw := Lib.hid (newMk_any A B how w2 H2.out.1.dm H2.out.2.1.dm)
  go_wp2_with (first | (refine wpList_load_any9 (by rfl) 26 _ rfl ⟨b0, 0, none⟩ rfl A.cD _ H2.out.1.st.part Try.underlying26 rfl H2.out.1.dm.info ?_) | (refine wpList_load_any9 (by rfl) 26 _ rfl ⟨b1, 0, none⟩ rfl B.cD _ H2.out.2.1.st.part Try.underlying26 rfl H2.out.2.1.dm.info ?_))
  refine HNw.out.mono ?_
  rintro e w3 ⟨bm, bM, g, m, vL, cs3, rfl, hgm, hM3, hNum⟩
  have HG : Hid (Num (SmC A.K B.K) 256 g m ∧ m ≤ 256 ∧ (rpl g 256).length = m) := ⟨hNum, by rw [← hgm]; exact rpl_len g 256, hgm⟩
  have HM3 := Lib.hid hM3
  clear HNw hgm hM3 hNum
  have HNm := Lib.hid (number_any w2 A B CA CB HAB.out.1 HAB.out.2.1 H2.out.1.dm H2.out.2.1.dm how bm bM _ vL g [] 0 rfl (by omega) _ _ _ _ _ _ (0, 0) ⟨⟨by simp, by have := HAB.out.1.n1; simp; omega⟩, by simp, by have := HAB.out.2.1.n1; simp; omega⟩ w3 HM3.out)
  go_wp2_with (refine wpList_build9 rfl 72 _ rfl #[(0, .int .i64 0), (1, .int .i64 0)] (by first | rfl | kernel_rfl | (go_simp; done)) (.agg #[.int .i64 0, .int .i64 0]) (pair_built 0 0 _) ?_)
  refine HNm.out.mono ?_
  rintro e w4 ⟨met4, vT4, vK4, cs4, r4, rfl, hM4, _, _, _, _, hn4⟩
  have HO : Hid (PairO w2 A B how bm bM g vL 0 w4) := ⟨met4, [], vT4, _, vK4, _, cs4, rfl, PairI.start HAB.out.1.n1 HAB.out.2.1.n1 hn4, hM4⟩
  clear HNm hM4 hn4 HM3
  go_wp2_with fail
  go_loopw [9] (fun v wq => ∃ (k : Nat), v = .int .i64 k ∧ k ≤ 2000 ∧ Hid (PairO w2 A B how bm bM g vL k wq)) (fun v _ => 2001 - (intOf v).toNat)
  case atStart => exact ⟨0, rfl, by omega, HO⟩
  case round =>
    clear HO
    obtain ⟨k, rfl, hk, HA⟩ := hrel
    obtain ⟨met, R, vT, vN, vK, ws, cs, hRk, hI, hM⟩ := HA.out
    clear HA
    have hmb := pairs_most hI.nod hI.prb
    obtain ⟨q, hq⟩ : ∃ q, met.length = q := ⟨_, rfl⟩
    have hq2 : q ≤ 2000 := by have := HAB.out.2.2; omega
    have hkq : k ≤ q := by rw [← hq, ← hRk]; exact hI.le
    obtain ⟨aT, cT, rfl⟩ := ownsRow_slice hM.mets
    rw [hq] at hM
    have f518 : wr.cell? ⟨bm, 518, none⟩ = some (.slice aT q cT) := (hM.st.at_ 518).trans hM.c.hT
    have HI := Lib.hid hI
    have HM := Lib.hid hM
    have HQ := Lib.hid (And.intro hq hRk)
    by_cases hlt : k < q
    · have i0 : (k : Int) < (q : Int) := by omega
      obtain ⟨p, hp⟩ : ∃ p, met[k]? = some p := ⟨_, List.getElem?_eq_getElem (by omega)⟩
      obtain ⟨c1, c2⟩ := prs_at met k p hp
      have hms := hM.mets
      rw [hq] at hms
      obtain ⟨gT, eT, _, _, hcT⟩ := ownsRow_read hms (by omega)
      subst eT
      have hpc : ∀ j v, (#[Value.int .i64 p.1, .int .i64 p.2] : Array Value).toList[j]? = some v → wr.cell? ((⟨gT, k * 2, none⟩ : Addr).add j) = some v := fun j v hj => by
        have e : (⟨gT, k * 2, none⟩ : Addr).add j = ⟨gT, k * 2 + j, none⟩ := by unfold Addr.add; split <;> simp_all
        have hl : j < 2 := by
          have := (List.getElem?_eq_some_iff.1 hj).1
          simpa using this
        rw [e, (hcT (k * 2 + j) (by omega)).1]
        rcases (by omega : j = 0 ∨ j = 1) with rfl | rfl
        · rw [Nat.add_zero, c1, ← hj]; rfl
        · rw [c2, ← hj]; rfl
      have Hpc := Lib.hid hpc
      have hm1 : 1 ≤ m := by have := HG.out.1.lt 0 (by omega); omega
      have HLd : Hid (Calls Try.prog 46 #[.pointer (some ⟨bm, 0, none⟩), .agg #[.int .i64 p.1, .int .i64 p.2]] wr (LeadP w2 A B how bm bM (rpl g 256) vL g met R p)) := lead10_any w2 A B CA CB HAB.out.1 HAB.out.2.1 H2.out.1.dm H2.out.2.1.dm how bm bM (rpl g 256) m HG.out.2.2 hm1 HG.out.2.1 (fun c hc => num_lt HG.out.1 c hc) vL g met (by omega) _ R k hRk (by omega) vN ws vK cs p wr HM.out
      have HP := Lib.hid hp
      clear hI hM hms hcT c1 c2 hpc hp hmb
      obtain ⟨p1, e1⟩ : ∃ p1, p.1 = p1 := ⟨_, rfl⟩
      obtain ⟨p2, e2⟩ : ∃ p2, p.2 = p2 := ⟨_, rfl⟩
      rw [e1, e2] at Hpc HLd
      clear e1 e2
      go_wp2_with (refine wpList_load_any9 (by rfl) 72 _ rfl ⟨gT, k * 2, none⟩ rfl #[.int .i64 p1, .int .i64 p2] _ Hpc.out Try.underlying72 rfl (by kernel_rfl) ?_)
      refine HLd.out.mono ?_
      rintro e w5 ⟨m1, vT5, vK5, vN5, ws5, cs5, l, rfl, hM5, hL5⟩
      have hI5 := PairI.step HAB.out.1 HAB.out.2.1 (fun c hc => num_lt HG.out.1 c (by rw [HG.out.2.2] at hc; exact hc)) HI.out (by rw [HQ.out.2]; exact HP.out) hL5
      have hmb5 := pairs_most hI5.nod hI5.prb
      obtain ⟨aT5, cT5, rfl⟩ := ownsRow_slice hM5.mets
      obtain ⟨q5, hq5⟩ : ∃ q5, m1.length = q5 := ⟨_, rfl⟩
      have hq6 : q5 ≤ 2000 := by have := HAB.out.2.2; omega
      have HO5 : Hid (PairO w2 A B how bm bM g vL (k + 1) w5) := ⟨m1, R ++ [l], _, _, _, _, _, by rw [List.length_append, HQ.out.2]; rfl, hI5, hM5⟩
      have f5 : w5.cell? ⟨bm, 518, none⟩ = some (.slice aT5 q5 cT5) := by rw [← hq5]; exact (hM5.st.at_ 518).trans hM5.c.hT
      have g5 : ¬ (2000 : Int) < (q5 : Int) := by omega
      clear hI5 hmb5 hM5 hL5 hq5 HLd
      go_wp2_with fail
      go_roundw
      case rel => exact ⟨k + 1, by go_num, by omega, HO5⟩
      case measure => simp [intOf]; omega
    · obtain rfl : k = q := by omega
      have hSt : St wr 26 b2 (zC 26) := H2.out.2.2.1.keep hM.bel
      have HSt := Lib.hid hSt
      have hpart := pair_part hM.st hM.c
      obtain ⟨aN, cN, rfl⟩ := ownsRow_slice hM.next.own
      obtain ⟨aK, cK, rfl⟩ := ownsRow_slice hM.mks
      have hone := dfC_one g aN aK R.length cN met.length cK
      have hsz := dfC_size g (.slice aN R.length cN) (.slice aK met.length cK)
      have hF := pair_done (w := w) HG.out.1 HG.out.2.1 hM hI (by rw [hq, hRk]) (by omega) hSt (by rw [Hb.out.1]; exact H2.out.2.2.2) (by have := Hb.out; omega)
      obtain ⟨cF, hcF⟩ : ∃ cF, dfC g (.slice aN R.length cN) (.slice aK met.length cK) = cF := ⟨_, rfl⟩
      rw [hcF] at hpart hone hsz hF
      have HFp := Lib.hid (And.intro hpart (And.intro hone (And.intro hsz hF)))
      clear hpart hone hsz hF hcF hSt hI hM hmb
      go_wp2_with (first | (refine wpList_load_any9 (by rfl) 26 _ rfl ⟨bm, 520, none⟩ rfl cF _ HFp.out.1 Try.underlying26 rfl (by rw [info_dfa9, HFp.out.2.2.1]) ?_) | (refine wpList_store_var9 rfl 26 _ _ rfl b2 26 (zC 26) cF rfl rfl HSt.out (by rw [zDfa_size, HFp.out.2.2.1]) (by rw [info_dfa9, HFp.out.2.2.1]) HFp.out.2.1 ?_))
      refine bodyPost_ret (results_cell9 rfl _ _ b2 cF _ rfl HSt.out.setRow.part Try.underlying26 rfl (by rw [info_dfa9, HFp.out.2.2.1])) rfl ?_
      exact HFp.out.2.2.2
end Go.Proofs.Ytohgbkajnhgnaaa
