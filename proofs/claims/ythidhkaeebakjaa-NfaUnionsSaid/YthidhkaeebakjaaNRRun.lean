import Derived.Test.YthidhkaeebakjaaNRClose
import Derived.Deep.RegionWith
namespace Go.Proofs.Ythidhkaeebakjaa
open Go.RowKit
set_option linter.unusedVariables false

/-- The bytes of a string. -/
def zof (s : ByteArray) (k : Nat) : Nat := (s.get! k).toNat
theorem zof_lt (s : ByteArray) (k : Nat) : zof s k < 256 := UInt8.toNat_lt _
theorem zof_at (s : ByteArray) (k : Nat) (h : k < s.size) : (s[k]'h).toNat = zof s k := by
  unfold zof
  rw [show s.get! k = s[k]'h from getElem!_pos s.data k h]
theorem BAt.drew {w : World} {a : Option Addr} {n : Nat} {f : Nat → Bool} (h : BAt w a n f) : BAt w.drew a n f := h
theorem EdAt.drew {w : World} {a : Option Addr} {l : List Eg} (h : EdAt w a l) : EdAt w.drew a l := h

set_option maxHeartbeats 2000000 in
set_option maxRecDepth 100000 in
theorem rrun_any (L : List En) (N F T : Nat) (hO : Ok L N F T) (hN : N ≤ 1000000) (a : Option Addr) (n c : Nat) (w : World) (hL : EdAt w a (L.map En.z)) (hn : L.length = n) (hmax : n ≤ 1000000) (s : ByteArray) (m : Nat) (hs : s.size = m) (hm : m ≤ 1000000) :
    Calls Try.prog 18 #[.agg #[.int .i64 ((N : Nat) : Int), .slice a n c, .int .i64 ((F : Nat) : Int), .int .i64 ((T : Nat) : Int)], .string s] w (SetPost w N (RunP L F (zof s) m)) := by
  have HL := Lib.hid (And.intro hL (And.intro hn (And.intro hO hs)))
  have hmk := make_bl N (by omega)
  have hF := hO.f
  have hR := (RfAt.start w #[.int .i64 ((N : Nat) : Int), .slice a n c, .int .i64 ((F : Nat) : Int), .int .i64 ((T : Nat) : Int)] N (by unfold maxLen; omega))
  obtain ⟨y0, y1⟩ := hR.cell F hF
  have hR2 := hR.tru F hF
  rw [World.setCell_alloc_at _ _ _ _ _ (by simp)] at hR2
  have HR := Lib.hid hR2
  have HE : Hid (∀ W : World, (w.alloc (.cells #[.int .i64 ((N : Nat) : Int), .slice a n c, .int .i64 ((F : Nat) : Int), .int .i64 ((T : Nat) : Int)] 24)).alloc (.cells ((madeCells #[.bool false] N).setIfInBounds F (.bool true)) 4) = W → RfAt w #[.int .i64 ((N : Nat) : Int), .slice a n c, .int .i64 ((F : Nat) : Int), .int .i64 ((T : Nat) : Int)] N (ins (fun _ => false) F) W) := fun W h => by rw [← h]; exact HR.out
  have i0 : (F : Int) < (N : Int) := by omega
  have hss := hs
  clear hL hn hO hs hR hR2 HR
  go_enter Try.func18, Try.ntmps18
  go_wp2_with fail
  generalize hW0 : (w.alloc (.cells #[.int .i64 ((N : Nat) : Int), .slice a n c, .int .i64 ((F : Nat) : Int), .int .i64 ((T : Nat) : Int)] 24)).alloc (.cells ((madeCells #[.bool false] N).setIfInBounds F (.bool true)) 4) = W0
  have HR := Lib.hid (HE.out _ hW0)
  clear HE hW0 y0 y1
  have HBF : Hid (BAt W0 (some ⟨w.heap.size + 1, 0, none⟩) N (ins (fun _ => false) F)) := bls_at HR.out.own
  refine (rclose_any L N F T HL.out.2.2.1 hN a n c W0 (HL.out.1.below HR.out.below) HL.out.2.1 hmax (some ⟨w.heap.size + 1, 0, none⟩) N N (ins (fun _ => false) F) HBF.out hN).mono ?_
  rintro e w2 ⟨f, a2, c2, rfl, hown, hf, v2⟩
  have HZ : Hid (∀ x, f x = true ↔ RunP L F (zof s) 0 x) := fun x => by
    rw [hf]
    exact FR.congr (fun y => by simp only [On, ins, Bool.false_or, beq_iff_eq]; exact ⟨fun h => h.2.2, fun h => ⟨by omega, by omega, h⟩⟩) x
  have HO := Lib.hid (ownsRow_base (base := w.heap.size) hown HR.out.below.size)
  have HS := Lib.hid (And.intro (HR.out.s0.keep v2) (HR.out.below.trans (v2.mono HR.out.below.size)))
  clear hown hf v2
  go_wp2_with fail
  go_loopw [5, 6] (fun v i wr => ∃ (k : Nat) (f : Nat → Bool) (a3 : Option Addr) (c3 : Nat), i = .int .i64 k ∧ k ≤ m ∧ v = .slice a3 N c3 ∧ Hid (∀ x, f x = true ↔ RunP L F (zof s) k x) ∧ Hid (St wr 24 w.heap.size #[.int .i64 ((N : Nat) : Int), .slice a n c, .int .i64 ((F : Nat) : Int), .int .i64 ((T : Nat) : Int)] ∧ Below w.heap.size w wr) ∧ Hid (wr.ownsRow w.heap.size 4 1 (.slice a3 N c3) N (bls f N))) (fun _ i _ => m - (intOf i).toNat)
  case atStart => exact ⟨0, f, a2, c2, rfl, Nat.zero_le _, rfl, HZ, HS, HO⟩
  case round =>
    obtain ⟨k, f3, a3, c3, rfl, hk, rfl, HZ3, HS3, HO3⟩ := hrel
    obtain ⟨r0, r1, r2, r3⟩ := HS3.out.1.cells4
    by_cases hlt : k < m
    · have hks : k < s.size := by rw [HL.out.2.2.2]; exact hlt
      obtain ⟨bt, hbe⟩ : ∃ bt, (s[k]'hks).toNat = bt := ⟨_, rfl⟩
      have hbz := zof_at s k hks
      rw [hbe] at hbz
      have hbt : bt < 256 := by rw [hbz]; exact zof_lt s k
      have hwb : IntKind.i64.wrap ((bt : Nat) : Int) = ((bt : Nat) : Int) := IntWalk.i64_in _ (by omega)
      have HBZ := Lib.hid hbz
      have i1 : (k : Int) < (m : Int) := by omega
      have hdr : Below wr.heap.size wr wr.drew := (Below.refl _ _).drew
      have HM := Lib.hid (rmove_any L N F T HL.out.2.2.1 hN a n c wr.drew (HL.out.1.below HS3.out.2.drew) HL.out.2.1 hmax a3 N c3 f3 (bls_at HO3.out) hN bt hbt)
      clear hbz hdr
      go_wp2_with fail
      go_region_with (first
        | (go_at_call 17; refine HM.out.mono ?_; rintro e w4 ⟨f4, a4, c4, rfl, hown4, hf4, v4⟩; have hS4 := HS3.out.1.drew.keep v4; have hB4 := HS3.out.2.drew.trans (v4.mono HS3.out.2.drew.size); have HP4 := Lib.hid (And.intro hown4 (And.intro hf4 (And.intro hS4 hB4))); obtain ⟨q0, q1, q2, q3⟩ := hS4.cells4; clear hown4 hf4 v4 hS4 hB4)
        | (go_at_call 15; refine (rclose_any L N F T HL.out.2.2.1 hN a n c _ (HL.out.1.below HP4.out.2.2.2) HL.out.2.1 hmax a4 N c4 f4 (bls_at HP4.out.1) hN).mono ?_; rintro e w5 ⟨f5, a5, c5, rfl, hown5, hf5, v5⟩; have HP5 := Lib.hid (And.intro (ownsRow_base (base := w.heap.size) hown5 HP4.out.2.2.2.size) (And.intro hf5 (And.intro (HP4.out.2.2.1.keep v5) (HP4.out.2.2.2.trans (v5.mono HP4.out.2.2.2.size))))); clear hown5 hf5 v5))
      all_goals
        have HZ5 : Hid (∀ x, f5 x = true ↔ RunP L F (zof s) (k + 1) x) := fun x => by
          rw [HP5.out.2.1]
          refine FR.congr (fun y => ?_) x
          have h4 : f4 y = true ↔ Mv L (RunP L F (zof s) k) (zof s k) y := by
            rw [HP4.out.2.1, HBZ.out]
            exact Mv.congr (fun q => ⟨fun h => (HZ3.out q).1 h.2, fun h => ⟨RunP.lt HL.out.2.2.1.f (fun e he => (HL.out.2.2.1.e e he).2) k h, (HZ3.out q).2 h⟩⟩) _ y
          unfold On
          rw [h4]
          exact ⟨fun h => h.2.2, fun h => ⟨Mv.lt (fun e he => (HL.out.2.2.1.e e he).2) h, Mv.lt (fun e he => (HL.out.2.2.1.e e he).2) h, h⟩⟩
        go_wp2_with fail
        go_roundw
        case rel => exact ⟨k + 1, f5, a5, c5, by go_num, by omega, rfl, HZ5, Lib.hid HP5.out.2.2, Lib.hid HP5.out.1⟩
        case measure => simp [intOf]; omega
    · obtain rfl : k = m := by omega
      go_wp2_with fail
      go_ret
      exact ⟨f3, a3, c3, rfl, HO3.out, HZ3.out, HS3.out.2⟩
end Go.Proofs.Ythidhkaeebakjaa
