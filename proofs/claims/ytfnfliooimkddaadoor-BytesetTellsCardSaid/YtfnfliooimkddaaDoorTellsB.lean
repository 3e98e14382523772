import Derived.Test.YtfnfliooimkddaaDoorHeldT
namespace Go.Proofs.YtfnfliooimkddaaDoor
open Go.RowKit

set_option maxHeartbeats 16000000 in
set_option maxRecDepth 100000 in
theorem tells_some (p q : Nat → Bool) (c : Nat) (hc : c < 256) (w : World) (hT : TabAt w) (l : List Nat) (x : Nat) (r : List Nat) (hl : l = x :: r) (hr : r.length ≤ 256) (hxb : x < 256) (hl0 : lst p 256 = l) :
    Calls Tryd.prog 3 #[(.agg #[.int .u64 ((wd p 0 : Nat) : Int), .int .u64 ((wd p 1 : Nat) : Int), .int .u64 ((wd p 2 : Nat) : Int), .int .u64 ((wd p 3 : Nat) : Int)]), (.agg #[.int .u64 ((wd q 0 : Nat) : Int), .int .u64 ((wd q 1 : Nat) : Int), .int .u64 ((wd q 2 : Nat) : Int), .int .u64 ((wd q 3 : Nat) : Int)]), .int .u8 c] w fun e w' => e = .returned (.bool true) ∧ Below w.heap.size w w' := by
  have hn : Hid (l.length = r.length + 1) := by show l.length = r.length + 1; rw [hl]; rfl
  have hN : Hid ((lst p 256).length = r.length + 1) := by show (lst p 256).length = r.length + 1; rw [hl0, hl]; rfl
  have hE : Hid ((lst p 256).length ≠ 0) := by show (lst p 256).length ≠ 0; rw [hl0, hl]; simp
  have hF : Hid (least p = (x : Int)) := by show least p = (x : Int); unfold least; rw [hl0, hl]
  have hne : ((r.length : Int) + 1 == 0) = false := by simp; omega
  have hx : Hid (l.getD 0 0 = x) := by show l.getD 0 0 = x; rw [hl]; rfl
  clear hl
  have hL := Lib.hid hl0
  clear hl0
  go_enter Tryd.func3, Tryd.ntmps3
  go_wp2_with fail
  refine (awake_any _).mono ?_
  rintro e w1 ⟨rfl, b1⟩
  have s0 := ((St.new w 24 #[.int .u64 ((wd p 0 : Nat) : Int), .int .u64 ((wd p 1 : Nat) : Int), .int .u64 ((wd p 2 : Nat) : Int), .int .u64 ((wd p 3 : Nat) : Int)]).alloc (.cells #[.int .u64 ((wd q 0 : Nat) : Int), .int .u64 ((wd q 1 : Nat) : Int), .int .u64 ((wd q 2 : Nat) : Int), .int .u64 ((wd q 3 : Nat) : Int)] 24)).below b1 (by simp; omega)
  have s1' := St.new (w.alloc (.cells #[.int .u64 ((wd p 0 : Nat) : Int), .int .u64 ((wd p 1 : Nat) : Int), .int .u64 ((wd p 2 : Nat) : Int), .int .u64 ((wd p 3 : Nat) : Int)] 24)) 24 #[.int .u64 ((wd q 0 : Nat) : Int), .int .u64 ((wd q 1 : Nat) : Int), .int .u64 ((wd q 2 : Nat) : Int), .int .u64 ((wd q 3 : Nat) : Int)]
  have s1 : St w1 24 (w.heap.size + 1) #[.int .u64 ((wd q 0 : Nat) : Int), .int .u64 ((wd q 1 : Nat) : Int), .int .u64 ((wd q 2 : Nat) : Int), .int .u64 ((wd q 3 : Nat) : Int)] := St.below (by simpa using s1') b1 (by simp)
  have hb1 : Below w.heap.size w w1 := (((Below.refl _ w).alloc (Nat.le_refl _) _).alloc (by simp) _).trans (b1.mono (by simp; omega))
  have hT1 := hT.keep hb1
  have hz1 := s1.lt
  clear s1' b1 hT
  obtain ⟨c0, c1, c2, c3, c4_, c5_, c6_, c7_⟩ := row4 s0
  clear c4_ c5_ c6_ c7_
  go_wp2_with fail
  refine (rlist_any p _).mono ?_
  rintro e w2 ⟨al, cl, rfl, hol, b2⟩
  rw [hL.out] at hol ⊢
  have hh : HeldT w p q w1.heap.size al (r.length + 1) cl l w2 := ⟨s0.keep b2, s1.keep b2, by rw [hn.out] at hol; exact hol, hb1.trans (b2.mono (by omega)), hT1.keep b2⟩
  rw [hn.out]
  clear s0 s1 hb1 hT1 hol b2 hz1 c0 c1 c2 c3
  obtain ⟨c0, c1, c2, c3, c4, c5, c6, c7⟩ := hh.cells
  have hcv : ∀ W, HeldT w p q w1.heap.size al (r.length + 1) cl l W → (convert 26 9 (.slice al (r.length + 1) cl)).run Tryd.prog W = .ok (.string (strOf l)) W := fun W hW => conv_any hW.own hn.out.symm
  obtain ⟨gl, rfl, _, hgl, hgc⟩ := ownsRow_read hh.own (by omega)
  have hg0 := (hgc 0 (by omega)).1
  rw [u8s_get l 0 (by rw [hn.out]; omega), hx.out] at hg0
  clear hgc
  go_wp2_with fail
  go_cut [56] (fun v wx => v = .bool false ∧ HeldT w p q w1.heap.size (some ⟨gl, 0, none⟩) (r.length + 1) cl l wx)
  case first =>
    have hh := hh.drew
    have hcells := hh.cells
    clear c0 c1 c2 c3 c4 c5 c6 c7
    obtain ⟨c0, c1, c2, c3, -⟩ := hcells
    have hw1 : IntKind.i64.wrap ((c : Nat) : Int) = (c : Int) := IntWalk.i64_in _ (by omega)
    have hw2 : wrap64 ((c : Nat) : Int) = (c : Int) := IntWalk.wrap64_in _ ⟨by omega, by omega⟩
    go_region_with (first
        | (go_at_call 6; refine (held_list hh hL.out hn.out).mono ?_; clear hh c0 c1 c2 c3; rintro e w' ⟨a5, cap5, rfl, hcv5, hh, c0, c1, c2, c3, -⟩)
        | (go_at_call 7; refine (held_of (len_is p ((r.length + 1)) hN.out _) hh).mono ?_; clear hh c0 c1 c2 c3; rintro e w' ⟨rfl, hh, c0, c1, c2, c3, -⟩)
        | (go_at_call 8; refine (held_of (empty_no p hE.out _) hh).mono ?_; clear hh c0 c1 c2 c3; rintro e w' ⟨rfl, hh, c0, c1, c2, c3, -⟩)
        | (go_at_call 9; refine (held_of (first_is p (x : Int) hF.out _ hh.tab) hh).mono ?_; clear hh c0 c1 c2 c3; rintro e w' ⟨rfl, hh, c0, c1, c2, c3, -⟩)
        | (go_at_call 10; refine (held_of (has_any p c hc _) hh).mono ?_; clear hh c0 c1 c2 c3; rintro e w' ⟨rfl, hh, c0, c1, c2, c3, -⟩)
        | (go_at_call 11; refine (held_of (rhas_any p c hc _) hh).mono ?_; clear hh c0 c1 c2 c3; rintro e w' ⟨rfl, hh, c0, c1, c2, c3, -⟩))
    all_goals
      go_wp2_with fail
      go_meet
      exact ⟨by simp, by first | exact hh | exact hh.drew⟩
  case rest =>
    obtain ⟨rfl, hh⟩ := hcut
    clear hcv
    go_wp2_with fail
    have hh := hh.drew
    have hcells := hh.cells
    try clear c0 c1 c2 c3 c4 c5 c6 c7
    obtain ⟨c0, c1, c2, c3, c4, c5, c6, c7⟩ := hcells
    have heq := run_eq_set
    go_region_held3 (fun W' => W'.cell? ⟨w.heap.size, 0, none⟩ = some (.int .u64 ((wd p 0 : Nat) : Int)) ∧ W'.cell? ⟨w.heap.size, 1, none⟩ = some (.int .u64 ((wd p 1 : Nat) : Int)) ∧ W'.cell? ⟨w.heap.size, 2, none⟩ = some (.int .u64 ((wd p 2 : Nat) : Int)) ∧ W'.cell? ⟨w.heap.size, 3, none⟩ = some (.int .u64 ((wd p 3 : Nat) : Int)) ∧ W'.cell? ⟨w.heap.size + 1, 0, none⟩ = some (.int .u64 ((wd q 0 : Nat) : Int)) ∧ W'.cell? ⟨w.heap.size + 1, 1, none⟩ = some (.int .u64 ((wd q 1 : Nat) : Int)) ∧ W'.cell? ⟨w.heap.size + 1, 2, none⟩ = some (.int .u64 ((wd q 2 : Nat) : Int)) ∧ W'.cell? ⟨w.heap.size + 1, 3, none⟩ = some (.int .u64 ((wd q 3 : Nat) : Int)) ∧ HeldT w p q w1.heap.size (some ⟨gl, 0, none⟩) (r.length + 1) cl l W') (first | exact ⟨c0, c1, c2, c3, c4, c5, c6, c7, hh⟩ | go_keep)
      (first
        | (go_at_call 12; refine (held_of (or_any p q _) hh).mono ?_; clear hh c0 c1 c2 c3 c4 c5 c6 c7; rintro e w' ⟨rfl, hh, c0, c1, c2, c3, c4, c5, c6, c7⟩)
        | (go_at_call_of 13 (Value.int IntKind.i64 0); refine (held_of (put0 p q _) hh).mono ?_; clear hh c0 c1 c2 c3 c4 c5 c6 c7; rintro e w' ⟨rfl, hh, c0, c1, c2, c3, c4, c5, c6, c7⟩)
        | (go_at_call 14; refine (held_of (and_any p q _) hh).mono ?_; clear hh c0 c1 c2 c3 c4 c5 c6 c7; rintro e w' ⟨rfl, hh, c0, c1, c2, c3, c4, c5, c6, c7⟩)
        | (go_at_call_of 13 (Value.int IntKind.i64 1); refine (held_of (put1 p q _) hh).mono ?_; clear hh c0 c1 c2 c3 c4 c5 c6 c7; rintro e w' ⟨rfl, hh, c0, c1, c2, c3, c4, c5, c6, c7⟩)
        | (go_at_call 15; refine (held_of (less_any p q _) hh).mono ?_; clear hh c0 c1 c2 c3 c4 c5 c6 c7; rintro e w' ⟨rfl, hh, c0, c1, c2, c3, c4, c5, c6, c7⟩)
        | (go_at_call_of 13 (Value.int IntKind.i64 2); refine (held_of (put2 p q _) hh).mono ?_; clear hh c0 c1 c2 c3 c4 c5 c6 c7; rintro e w' ⟨rfl, hh, c0, c1, c2, c3, c4, c5, c6, c7⟩)
        | (go_at_call 16; refine (held_of (not_any p _) hh).mono ?_; clear hh c0 c1 c2 c3 c4 c5 c6 c7; rintro e w' ⟨rfl, hh, c0, c1, c2, c3, c4, c5, c6, c7⟩)
        | (go_at_call_of 13 (Value.int IntKind.i64 3); have _t := tokF; refine (held_of (put3_none q _) hh).mono ?_; clear hh c0 c1 c2 c3 c4 c5 c6 c7; rintro e w' ⟨rfl, hh, c0, c1, c2, c3, c4, c5, c6, c7⟩)
        | (go_at_call_of 13 (Value.int IntKind.i64 3); refine (held_of (put3 p q _) hh).mono ?_; clear hh c0 c1 c2 c3 c4 c5 c6 c7; rintro e w' ⟨rfl, hh, c0, c1, c2, c3, c4, c5, c6, c7⟩)
        | (go_at_call 17; refine (held_of (full_any _) hh).mono ?_; clear hh c0 c1 c2 c3 c4 c5 c6 c7; rintro e w' ⟨rfl, hh, c0, c1, c2, c3, c4, c5, c6, c7⟩; have tokF : True := trivial))
    all_goals
      go_wp2_with fail
      go_ret
      exact ⟨rfl, hh.below⟩
end Go.Proofs.YtfnfliooimkddaaDoor
