import Derived.Test.YtldpmcgkbdejjaaZJSafe
import Derived.Lib.SlBytesConst
namespace Go.Proofs.Ytldpmcgkbdejjaa
open Go.RowKit Go.Maps Go.WideElems Go.ChangeMaps Go.MapKept
set_option linter.unusedVariables false
set_option linter.unusedSimpArgs false

set_option maxHeartbeats 1000000 in
theorem noComment (mk : Int) (h : 0 ≤ mk) (w : World) : Calls Try.prog 49 #[.slice none 0 0, .int .i64 mk] w fun e w' => e = .returned (.bool false) ∧ w' = w := by
  have j1 : ¬ (mk < 0) := by omega
  have j2 : decide (mk < 0) = false := decide_eq_false j1
  clear h
  go_enter Try.func49, Try.ntmps49
  go_wp2_with fail
  go_ret
  exact ⟨rfl, rfl⟩

set_option maxHeartbeats 2000000 in
set_option maxRecDepth 100000 in
theorem ended_yes (D : Dd) (C : Nat) (hR : DR D C) (bl : Int) (hx : ∀ x, x < D.n → D.q x ≠ -1 → D.q x ≠ bl → stepF D x 10 = -1 ∧ stepF D x 32 = -1) (w : World) (hD : DM w D) :
    Calls Try.prog 32 #[.agg D.cD, .slice none 0 0, .int .i64 bl] w fun e w' => e = .returned (.bool true) ∧ Below w.heap.size w w' := by
  have hn2 := hR.n2
  have HB := Lib.hid (And.intro (DBx.new hD) (And.intro (al w (.cells D.cD 26)) (And.intro hR hx)))
  clear hD hR hx
  go_enter Try.func32, Try.ntmps32
  go_upto_region 1 with fail
  generalize w.alloc (.cells D.cD 26) = V at HB ⊢
  obtain ⟨b, hb0⟩ : ∃ b0, w.heap.size = b0 := ⟨_, rfl⟩
  have Hb0 := Lib.hid hb0
  rw [hb0] at HB
  rw [hb0]
  clear hb0
  have HFw : Hid (∀ W', Below V.heap.size V W' → Below w.heap.size w W') := fun W' h => by
    have hz := HB.out.2.1.size
    rw [Hb0.out]
    exact HB.out.2.1.trans (h.mono (by have := Hb0.out; omega))
  have HL := Lib.hid (reached_any D C 0 V HB.out.1.dm HB.out.2.2.1)
  go_wp2_with (first
    | (refine wpList_load_any9 (by rfl) 26 _ rfl ⟨b, 0, none⟩ rfl D.cD _ HB.out.1.st.part Try.underlying26 rfl HB.out.1.dm.info ?_)
    | (go_at_call 47; refine HL.out.mono ?_; rintro e w2 ⟨f, aF, cF, rfl, hown, hf, b2⟩))
  have HQ := Lib.hid (And.intro (bls_at hown) b2)
  clear hown hf b2 HL
  go_wp2_with fail
  go_loopw [7, 8, 9, 13] (fun _ _ _ v wr => ∃ k : Nat, v = .int .i64 k ∧ k ≤ D.n ∧ Hid (Below w2.heap.size w2 wr)) (fun _ _ _ v _ => D.n - (intOf v).toNat)
  case atStart => exact ⟨0, rfl, Nat.zero_le _, Below.refl _ _⟩
  case round =>
    obtain ⟨k, rfl, hk, HX⟩ := hrel
    by_cases hlt : k < D.n
    · have i1 : (k : Int) < (D.n : Int) := by omega
      obtain ⟨g1, o1, rfl, _, q1⟩ := (HQ.out.1.below HX.out) (by omega)
      have x1 := q1 k hlt
      have HBr := Lib.hid (HB.out.1.keep (HQ.out.2.trans (HX.out.mono HQ.out.2.size)))
      have HM := Lib.hid (dmark_any D C HB.out.2.2.1 ((k : Nat) : Int) wr HBr.out.dm)
      have HY : Hid (D.q k ≠ -1 → D.q k ≠ bl → stepF D k 10 = -1 ∧ stepF D k 32 = -1) := HB.out.2.2.2 k hlt
      have HG : Hid (-1 ≤ D.q k) := (HB.out.2.2.1.q k hlt).1
      rw [markF_at hlt] at HM
      clear q1
      go_upto_region 5 with (first
        | (refine wpList_load_any9 (by rfl) 26 _ rfl ⟨b, 0, none⟩ rfl D.cD _ HBr.out.st.part Try.underlying26 rfl HBr.out.dm.info ?_)
        | (go_at_call 45; refine HM.out.mono ?_; rintro e w3 ⟨rfl, b3⟩))
      have HX3 := Lib.hid (HX.out.trans (b3.mono HX.out.size))
      have HB3 := Lib.hid (HBr.out.keep b3)
      clear b3 HM HBr
      generalize D.q k = q at HY HG ⊢
      generalize f k = fk at ⊢
      rcases fk with _ | _
      · go_wp2_with fail
        go_roundw
        case rel => exact ⟨k + 1, by go_num, by omega, HX3.out⟩
        case measure => simp [intOf]; omega
      · by_cases hq1 : q = -1
        · have j1 : (q == -1) = true := by simp [hq1]
          clear hq1
          go_wp2_with fail
          go_roundw
          case rel => exact ⟨k + 1, by go_num, by omega, HX3.out⟩
          case measure => simp [intOf]; omega
        · have j1 : (q == -1) = false := by simp [hq1]
          by_cases hq2 : q = bl
          · have j2 : (q == bl) = true := by simp [hq2]
            clear hq1 hq2
            go_wp2_with fail
            go_roundw
            case rel => exact ⟨k + 1, by go_num, by omega, HX3.out⟩
            case measure => simp [intOf]; omega
          · have j2 : (q == bl) = false := by simp [hq2]
            have HS : Hid (∀ c W, (c = 10 ∨ c = 32) → Below w3.heap.size w3 W → Calls Try.prog 48 #[.agg D.cD, .int .i64 ((k : Nat) : Int), .int .u8 c] W fun e w' => e = .returned (.int .i64 (-1)) ∧ Below W.heap.size W w') := fun c W h hb => by
              obtain ⟨h1, h2⟩ := HY.out hq1 hq2
              rcases h with rfl | rfl
              · have := dstep_any D C HB.out.2.2.1 ((k : Nat) : Int) 10 (by omega) W (HB3.out.keep hb).dm
                rwa [h1] at this
              · have := dstep_any D C HB.out.2.2.1 ((k : Nat) : Int) 32 (by omega) W (HB3.out.keep hb).dm
                rwa [h2] at this
            have HC := Lib.hid (fun W => noComment q (by have := HG.out; omega) W)
            have Hr := Lib.hid (Below.refl w3.heap.size w3)
            clear hq1 hq2 HY HG
            go_upto_region 8 with (first
              | (refine wpList_load_any9 (by rfl) 26 _ rfl ⟨b, 0, none⟩ rfl D.cD _ HB3.out.st.part Try.underlying26 rfl HB3.out.dm.info ?_)
              | (go_at_call 48; refine (HS.out _ _ (Or.inl rfl) Hr.out).mono ?_; rintro e w4 ⟨rfl, b4⟩))
            have H4 := Lib.hid (And.intro (HB3.out.keep b4) (And.intro (HX3.out.trans (b4.mono HX3.out.size)) b4))
            clear b4
            go_wp2_with (first
              | (go_at_call 49; refine (HC.out _).mono ?_; rintro e w5 ⟨rfl, rfl⟩)
              | (refine wpList_load_any9 (by rfl) 26 _ rfl ⟨b, 0, none⟩ rfl D.cD _ H4.out.1.st.part Try.underlying26 rfl H4.out.1.dm.info ?_)
              | (go_at_call 48; refine (HS.out _ _ (Or.inr rfl) H4.out.2.2).mono ?_; rintro e w6 ⟨rfl, b6⟩
                 have H6 := Lib.hid (H4.out.2.1.trans (b6.mono H4.out.2.1.size))
                 clear b6))
            go_roundw
            case rel => exact ⟨k + 1, by go_num, by omega, H6.out⟩
            case measure => simp [intOf]; omega
    · obtain rfl : k = D.n := by omega
      go_wp2_with fail
      go_ret
      exact ⟨rfl, HFw.out _ (HQ.out.2.trans (HX.out.mono HQ.out.2.size))⟩

theorem cell_marked (W : World) (C : Array Value) (t : Nat) (fz : Nat × Nat) (k : Nat) : (W.alloc (.cells C t fz)).cell? ⟨W.heap.size, k, none⟩ = C[k]? := by
  have h : (W.alloc (.cells C t fz)).heap[W.heap.size]? = some (.cells C t fz) := by
    show (W.heap.push _)[W.heap.size]? = _
    rw [Array.getElem?_push, if_pos rfl]
  simp only [World.cell?]
  rw [h]
  rfl
def bkL : Nat → Nat
  | 0 => 32
  | 1 => 10
  | 2 => 9
  | _ => 13
set_option maxHeartbeats 2000000 in
set_option maxRecDepth 100000 in
theorem apart_yes (D : Dd) (C : Nat) (hR : DR D C) (bl : Int) (hx : ∀ i, i < 4 → (∀ c, c < 256 → isBk c = false → stepF D (stepF D 0 (bkL i)) c = -1) ∧ (∀ x, x < D.n → RcI D (stepF D 0 (bkL i)) x → D.q x = -1 ∨ D.q x = bl)) (w : World) (hD : DM w D) :
    Calls Try.prog 33 #[.agg D.cD, .int .i64 bl] w fun e w' => e = .returned (.bool true) ∧ Below w.heap.size w w' := by
  have kb := al w (.cells D.cD 26)
  have k2 := al (w.alloc (.cells D.cD 26)) (.cells #[.int .u8 32, .int .u8 10, .int .u8 9, .int .u8 13] 5 (4, 5))
  have HB : Hid (DBx ((w.alloc (.cells D.cD 26)).alloc (.cells #[.int .u8 32, .int .u8 10, .int .u8 9, .int .u8 13] 5 (4, 5))) w.heap.size D ∧ Below w.heap.size w ((w.alloc (.cells D.cD 26)).alloc (.cells #[.int .u8 32, .int .u8 10, .int .u8 9, .int .u8 13] 5 (4, 5))) ∧ DR D C ∧ (∀ k, ((w.alloc (.cells D.cD 26)).alloc (.cells #[.int .u8 32, .int .u8 10, .int .u8 9, .int .u8 13] 5 (4, 5))).cell? ⟨w.heap.size + 1, k, none⟩ = (#[.int .u8 32, .int .u8 10, .int .u8 9, .int .u8 13] : Array Value)[k]?) ∧ w.heap.size + 1 < ((w.alloc (.cells D.cD 26)).alloc (.cells #[.int .u8 32, .int .u8 10, .int .u8 9, .int .u8 13] 5 (4, 5))).heap.size) := by
    refine ⟨(DBx.new hD).keep k2, kb.trans (k2.mono kb.size), hR, ?_⟩
    refine ⟨fun k => ?_, by simp⟩
    have := cell_marked (w.alloc (.cells D.cD 26)) #[.int .u8 32, .int .u8 10, .int .u8 9, .int .u8 13] 5 (4, 5) k
    simpa using this
  have HXx := Lib.hid hx
  have kc : (convert 56 56 (.slice (some ⟨w.heap.size + 1, 0, none⟩) 4 4)).run Try.prog ((w.alloc (.cells D.cD 26)).alloc (.cells #[.int .u8 32, .int .u8 10, .int .u8 9, .int .u8 13] 5)) = .ok (.slice (some ⟨w.heap.size + 1, 0, none⟩) 4 4) ((w.alloc (.cells D.cD 26)).alloc (.cells #[.int .u8 32, .int .u8 10, .int .u8 9, .int .u8 13] 5 (4, 5))) := by
    have h := Lib.run_convert_bytes_const (P := Try.prog) (w.alloc (.cells D.cD 26)) 56 5 #[.int .u8 32, .int .u8 10, .int .u8 9, .int .u8 13] 4 4 Try.underlying56 Try.underlying5
    rwa [show (w.alloc (.cells D.cD 26)).heap.size = w.heap.size + 1 by simp] at h
  clear kb k2 hD hR hx
  go_enter Try.func33, Try.ntmps33
  go_wp2_with fail
  generalize (w.alloc (.cells D.cD 26)).alloc (.cells #[.int .u8 32, .int .u8 10, .int .u8 9, .int .u8 13] 5 (4, 5)) = V at HB ⊢
  obtain ⟨b2, hb2⟩ : ∃ b2, w.heap.size + 1 = b2 := ⟨_, rfl⟩
  obtain ⟨b, hb0⟩ : ∃ b0, w.heap.size = b0 := ⟨_, rfl⟩
  have Hb0 := Lib.hid hb0
  rw [hb2, hb0] at HB
  rw [hb2, hb0]
  clear hb0 hb2
  have HFw : Hid (∀ W', Below V.heap.size V W' → Below w.heap.size w W') := fun W' h => by
    have hz := HB.out.2.1.size
    rw [Hb0.out]
    exact HB.out.2.1.trans (h.mono (by have := Hb0.out; omega))
  go_loopw [6, 7, 11] (fun _ _ v wr => ∃ k : Nat, v = .int .i64 k ∧ k ≤ 4 ∧ Hid (Below V.heap.size V wr)) (fun _ _ v _ => 4 - (intOf v).toNat)
  case atStart => exact ⟨0, rfl, Nat.zero_le _, Below.refl _ _⟩
  case round =>
    obtain ⟨k, rfl, hk, HX⟩ := hrel
    by_cases hlt : k < 4
    · have i1 : (k : Int) < 4 := by omega
      have hbk : bkL k < 256 := by
        have : k = 0 ∨ k = 1 ∨ k = 2 ∨ k = 3 := by omega
        rcases this with rfl | rfl | rfl | rfl <;> decide
      have x1 : wr.cell? ⟨b2, k, none⟩ = some (.int .u8 ((bkL k : Nat) : Int)) := by
        rw [HX.out.cell (p := ⟨b2, k, none⟩) HB.out.2.2.2.2, HB.out.2.2.2.1 k]
        have : k = 0 ∨ k = 1 ∨ k = 2 ∨ k = 3 := by omega
        rcases this with rfl | rfl | rfl | rfl <;> rfl
      have HBr := Lib.hid (HB.out.1.keep HX.out)
      have HS := Lib.hid (dstep_any D C HB.out.2.2.1 0 (bkL k) hbk wr HBr.out.dm)
      have HY := Lib.hid (HXx.out k hlt)
      clear hbk
      generalize bkL k = bc at x1 HS HY
      generalize stepF D 0 bc = st at HS HY
      go_upto_region 5 with (first
        | (refine wpList_load_any9 (by rfl) 26 _ rfl ⟨b, 0, none⟩ rfl D.cD _ HBr.out.st.part Try.underlying26 rfl HBr.out.dm.info ?_)
        | (go_at_call 48; refine HS.out.mono ?_; rintro e w3 ⟨rfl, b3⟩))
      have H3 := Lib.hid (And.intro (HBr.out.keep b3) (HX.out.trans (b3.mono HX.out.size)))
      clear b3 HS HBr x1
      have HMx := Lib.hid (mixed_no D C HB.out.2.2.1 st HY.out.1 w3 H3.out.1.dm)
      have HOx : Hid (∀ W, Below w3.heap.size w3 W → Calls Try.prog 51 #[.agg D.cD, .int .i64 st, .int .i64 bl] W fun e w' => e = .returned (.bool false) ∧ Below W.heap.size W w') := fun W h => others_no D C HB.out.2.2.1 st bl HY.out.2 W (H3.out.1.keep h).dm
      go_wp2_with (first
        | (go_at_call 50; refine HMx.out.mono ?_; rintro e w4 ⟨rfl, b4⟩
           have H4 := Lib.hid (And.intro (H3.out.1.keep b4) (And.intro (H3.out.2.trans (b4.mono H3.out.2.size)) b4))
           clear b4)
        | (refine wpList_load_any9 (by rfl) 26 _ rfl ⟨b, 0, none⟩ rfl D.cD _ H4.out.1.st.part Try.underlying26 rfl H4.out.1.dm.info ?_)
        | (refine wpList_load_any9 (by rfl) 26 _ rfl ⟨b, 0, none⟩ rfl D.cD _ H3.out.1.st.part Try.underlying26 rfl H3.out.1.dm.info ?_)
        | (go_at_call 51; refine (HOx.out _ H4.out.2.2).mono ?_; rintro e w5 ⟨rfl, b5⟩
           have H5 := Lib.hid (H4.out.2.1.trans (b5.mono H4.out.2.1.size))
           clear b5))
      go_roundw
      case rel => exact ⟨k + 1, by go_num, by omega, H5.out⟩
      case measure => simp [intOf]; omega
    · obtain rfl : k = 4 := by omega
      go_wp2_with fail
      go_ret
      exact ⟨rfl, HFw.out _ HX.out⟩
end Go.Proofs.Ytldpmcgkbdejjaa
