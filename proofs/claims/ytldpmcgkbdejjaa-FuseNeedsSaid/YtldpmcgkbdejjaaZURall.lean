import Derived.Test.YtldpmcgkbdejjaaZJFew
import Derived.Deep.OwnRows
namespace Go.Proofs.Ytldpmcgkbdejjaa
open Go.RowKit Go.Maps Go.WideElems Go.ChangeMaps Go.MapKept
set_option linter.unusedVariables false
set_option linter.unusedSimpArgs false

def boolO (b : Bool) : Value := .bool b
set_option maxHeartbeats 4000000 in
set_option maxRecDepth 100000 in
theorem rall_any (D : Dd) (C : Nat) (hR : DR D C) (s : ByteArray) (m : Nat) (hs : s.size = m) (hm : m ≤ 255) (w : World) (hD : DM w D) :
    Calls Try.prog 35 #[.agg D.cD, .string s] w (AllP D s boolO w) := by
  have kb := al w (.cells D.cD 26)
  have HB : Hid (DBx (w.alloc (.cells D.cD 26)) w.heap.size D ∧ Below w.heap.size w (w.alloc (.cells D.cD 26))) := ⟨DBx.new hD, kb⟩
  have HR := Lib.hid hR
  have hss := hs
  clear kb hR hD hs
  go_enter Try.func35, Try.ntmps35
  go_upto_region 1 with fail
  generalize w.alloc (.cells D.cD 26) = V at HB ⊢
  obtain ⟨b, hb0⟩ : ∃ b0, w.heap.size = b0 := ⟨_, rfl⟩
  have Hb0 := Lib.hid hb0
  rw [hb0] at HB
  rw [hb0]
  clear hb0
  have HFw : Hid (∀ W', Below V.heap.size V W' → Below w.heap.size w W') := fun W' h => by
    have hz := HB.out.2.size
    rw [Hb0.out]
    exact HB.out.2.trans (h.mono (by have := Hb0.out; omega))
  go_wp2_with fail
  go_loopw [7, 8, 9, 10] (fun v8 v9 _ _ wr => ∃ (k : Nat) (a : Option Addr) (c p : Nat), v8 = .slice a k c ∧ v9 = .int .i64 ((p : Nat) : Int) ∧ p ≤ m ∧ k ≤ m ∧ Hid (tkE D s k = p ∧ (∀ j, j < k → ¬ StopS D s j) ∧ wr.ownsRow V.heap.size 51 3 v8 k (tks (tkL D s k)) ∧ Below V.heap.size V wr)) (fun _ v _ _ _ => m - (intOf v).toNat)
  case atStart => exact ⟨0, none, 0, 0, rfl, rfl, by omega, by omega, rfl, fun j hj => absurd hj (by omega), World.ownsRow_nil _ _ _ _, Below.refl _ _⟩
  case round =>
    obtain ⟨k, a, c, p, rfl, rfl, hp, hk, HX⟩ := hrel
    have HFr : Hid (Below w.heap.size w wr) := HFw.out _ HX.out.2.2.2
    by_cases hlt : p < m
    · have i1 : (p : Int) < (m : Int) := by omega
      have HBr := Lib.hid (HB.out.1.keep HX.out.2.2.2)
      have HL := Lib.hid (rlongest_nat D C HR.out s m hss (by omega) p wr HBr.out.dm)
      obtain ⟨mk, ln, hml⟩ : ∃ mk ln, longF D (zof s) p (m - p) = (mk, ln) := ⟨_, _, rfl⟩
      rw [hml] at HL
      have Hml : Hid (longF D (zof s) p (s.size - p) = (mk, ln)) := by show _ = _; rw [hss]; exact hml
      have hln : ln ≤ m - p := by have := longF_le D (zof s) p (m - p); rw [hml] at this; exact this
      clear hml
      go_upto_region 5 with (first
        | (refine wpList_load_any9 (by rfl) 26 _ rfl ⟨b, 0, none⟩ rfl D.cD _ HBr.out.st.part Try.underlying26 rfl HBr.out.dm.info ?_)
        | (go_at_call 54; refine HL.out.mono ?_; rintro e w2 ⟨rfl, b2⟩))
      have H2 : Hid (w2.ownsRow V.heap.size 51 3 (.slice a k c) k (tks (tkL D s k)) ∧ Below V.heap.size V w2) := ⟨ownsRow_keep HX.out.2.2.1 b2, HX.out.2.2.2.trans (b2.mono HX.out.2.2.2.size)⟩
      clear b2 HL
      by_cases h0 : ln = 0
      · have HZ : Hid (AllP D s boolO w (.returned (.tuple #[.slice a k c, .int .i64 ((p : Nat) : Int), .bool false])) w2) := by
          refine ⟨k, a, c, stop_none HX.out.1 Hml.out h0, HX.out.2.1, ?_, own_tks (tkL_len D s k) H2.out.1, tk_count HX.out.2.1, HFw.out _ H2.out.2⟩
          rw [HX.out.1, show decide (s.size ≤ p) = false by simp; omega]
          rfl
        have h1 : (((ln : Nat) : Int) == 0) = true := by rw [h0]; rfl
        clear h0
        go_wp2_with fail
        go_ret3
        exact HZ.out
      · have h1 : (((ln : Nat) : Int) == 0) = false := by rw [beq_eq_false_iff_ne]; omega
        have HT := Lib.hid (tk_succ HX.out.1 Hml.out)
        have HN : Hid (∀ j, j < k + 1 → ¬ StopS D s j) := fun j hj => by
          by_cases e : j = k
          · rw [e]; exact stop_not HX.out.1 Hml.out (by omega) (by omega)
          · exact HX.out.2.1 j (by omega)
        have i2 : (p : Int) + (ln : Int) ≤ (m : Int) := by omega
        have i3 : (p : Int) ≤ (p : Int) + (ln : Int) := by omega
        have hO := H2.out.1
        have hsv := H2.out.2.size
        obtain ⟨iT, hT, hT0, hT1, hT2⟩ := info_parts Try.info_tok
        go_wp2_with (at_builtin; refine wpList_append_own _ rfl _ _ 46 rfl V.heap.size 51 iT (.agg #[.int .i64 0, .string ⟨#[]⟩, .int .i64 0]) 3 32 Try.underlying46 hT hT0 hT1 hT2 rfl (by decide) _ _ _ rfl (hO.alloc _) ⟨w2.heap.size, 0, none⟩ 1 1 (#[.int .i64 mk, .string (s.extract p (p + ln)), .int .i64 ((p : Nat) : Int)]).toList rfl rfl (World.news_of_block (cs := #[.int .i64 mk, .string (s.extract p (p + ln)), .int .i64 ((p : Nat) : Int)]) (St.new _ _ _)) ?_ ?_ ?_ ?_ ?_)
        · exact ⟨rfl, rfl, rfl⟩
        · unfold maxLen; omega
        · omega
        · simp; omega
        intro v' w5 hown5 hgrow5 _
        obtain ⟨a5, c5, rfl⟩ := ownsRow_slice hown5
        have hb5 : Below V.heap.size V w5 := (H2.out.2.trans ((al w2 _).mono hsv)).grown hgrow5 (by simp; omega) (fun g e => (hO.lt g e).1)
        have HX5 : Hid (w5.ownsRow V.heap.size 51 3 (.slice a5 (k + 1) c5) (k + 1) (tks (tkL D s (k + 1))) ∧ Below V.heap.size V w5) := ⟨by rw [HT.out.1, tks_append]; exact hown5, hb5⟩
        clear hown5 hgrow5 hb5 hO
        go_wp2_with fail
        go_roundw
        case rel => exact ⟨k + 1, a5, c5, p + ln, rfl, by go_num, by omega, by have := tk_count HN.out; omega, HT.out.2, HN.out, HX5.out.1, HX5.out.2⟩
        case measure => simp [intOf]; omega
    · have i1 : ¬ ((p : Int) < (m : Int)) := by omega
      have HZ : Hid (AllP D s boolO w (.returned (.tuple #[.slice a k c, .int .i64 ((p : Nat) : Int), .bool true])) wr) := by
        refine ⟨k, a, c, stop_end (by rw [HX.out.1]; omega), HX.out.2.1, ?_, own_tks (tkL_len D s k) HX.out.2.2.1, tk_count HX.out.2.1, HFr.out⟩
        rw [HX.out.1, show decide (s.size ≤ p) = true by simp; omega]
        rfl
      go_wp2_with fail
      go_ret3
      exact HZ.out
end Go.Proofs.Ytldpmcgkbdejjaa
