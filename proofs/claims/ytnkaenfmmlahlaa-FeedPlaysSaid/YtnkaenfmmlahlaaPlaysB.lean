import Derived.Test.YtnkaenfmmlahlaaPlaysA
import Derived.Deep.DeepCutAuto
import Derived.Deep.CutBlock
import Derived.Deep.LoopGhost
import Derived.Deep.RegionHeld3
namespace Go.Proofs.Ytnkaenfmmlahlaa
open Go.Conc Go.RowKit

theorem FeedAt.far4 {w : World} {b c cap : Nat} {l : List Int} {sh : Bool} {lost : Nat} (h : FeedAt w b c cap l sh lost) {g : Nat} (h1 : b ≠ g) (h2 : c ≠ g) (d0 d1 d2 d3 : Value) :
    FeedAt ((((w.setCell ⟨g, 0, none⟩ d0).setCell ⟨g, 1, none⟩ d1).setCell ⟨g, 2, none⟩ d2).setCell ⟨g, 3, none⟩ d3) b c cap l sh lost :=
  (((h.far (p := ⟨g, 0, none⟩) h1 h2 d0).far (p := ⟨g, 1, none⟩) h1 h2 d1).far (p := ⟨g, 2, none⟩) h1 h2 d2).far (p := ⟨g, 3, none⟩) h1 h2 d3

set_option maxRecDepth 100000 in
set_option maxHeartbeats 4000000 in
theorem plays (n m : Nat) (a : Option Addr) (len ca : Nat) (w : World) (hl : len ≤ 100) (hn : n ≤ 1024) (hm : m ≤ 1024) (hO : Ops w a len) :
    Calls Try.prog 3 #[.agg #[.int .i64 n, .int .i64 m], .slice a len ca] w fun e w' => e = .returned (.bool true) ∧ Below w.heap.size w w' := by
  go_enter Try.func3, Try.ntmps3
  go_wp2_with fail
  refine (awake_any _).mono ?_
  rintro e w1 ⟨rfl, b1⟩
  have S1 := (St.new w 22 #[.int .i64 n, .int .i64 m]).keep b1
  have hw := (((Below.refl _ w).alloc (Nat.le_refl _) (.cells #[.int .i64 n, .int .i64 m] 22))).trans (b1.mono (by simp))
  have hs1 : w.heap.size + 1 ≤ w1.heap.size := by have := b1.size; simpa using this
  obtain ⟨r0, r1⟩ := row2 S1
  clear b1
  go_wp2_with fail
  refine (new_ok n hn _).mono ?_
  rintro e w2 ⟨rfl, f2, b2, z2⟩
  have S2 := S1.keep b2
  have hw2 := hw.trans (b2.mono hw.size)
  have hs2 : w1.heap.size + 2 ≤ w2.heap.size := by omega
  clear r0 r1 S1 b2 hw z2
  obtain ⟨b1, hb1, hb1a, hb1b⟩ : ∃ b, w1.heap.size + 1 = b ∧ w.heap.size < b ∧ b < w2.heap.size := ⟨_, rfl, by omega, by omega⟩
  obtain ⟨c1, hc1, hc1a, hc1b⟩ : ∃ b, w1.heap.size = b ∧ w.heap.size < b ∧ b < w2.heap.size := ⟨_, rfl, by omega, by omega⟩
  rw [hb1, hc1] at f2
  rw [hb1]
  clear hb1 hc1 hs1 hs2
  obtain ⟨r0, r1⟩ := row2 S2
  go_wp2_with fail
  refine (new_ok m hm _).mono ?_
  rintro e w3 ⟨rfl, f3, b3, z3⟩
  have S3 := S2.keep b3
  have f23 := f2.keep b3
  have hw3 := hw2.trans (b3.mono hw2.size)
  have hs3 : w2.heap.size + 2 ≤ w3.heap.size := by omega
  have hsw := hw2.size
  clear r0 r1 S2 b3 hw2 z3 f2
  obtain ⟨b2, hb2, hb2a, hb2b⟩ : ∃ b, w2.heap.size + 1 = b ∧ w2.heap.size ≤ b ∧ b < w3.heap.size := ⟨_, rfl, by omega, by omega⟩
  obtain ⟨c2, hc2, hc2a, hc2b⟩ : ∃ b, w2.heap.size = b ∧ w2.heap.size ≤ b ∧ b < w3.heap.size := ⟨_, rfl, by omega, by omega⟩
  rw [hb2, hc2] at f3
  rw [hb2]
  have hap : Apart b1 c1 b2 c2 := ⟨by omega, by omega, by omega, by omega⟩
  have hbw1 : w.heap.size ≤ b1 ∧ w.heap.size ≤ c1 ∧ w.heap.size ≤ b2 ∧ w.heap.size ≤ c2 := ⟨by omega, by omega, by omega, by omega⟩
  obtain ⟨base, hbe, hbase⟩ : ∃ B, B = w3.heap.size ∧ B ≤ w3.heap.size := ⟨_, rfl, by omega⟩
  have hbb : b1 < base ∧ c1 < base ∧ b2 < base ∧ c2 < base := ⟨by omega, by omega, by omega, by omega⟩
  have hwb : w.heap.size < base := by omega
  clear hb2 hc2 hb1a hb1b hc1a hc1b hb2a hb2b hc2a hc2b hs3 hsw hbe
  obtain ⟨r0, r1⟩ := row2 S3
  have HB := Lib.hid hbb
  have HW := Lib.hid hbw1
  have HA := Lib.hid hap
  clear hbb hbw1 hap
  have hw3lt : w.heap.size < w3.heap.size := by omega
  go_wp2_with fail
  go_cut [9, 10] (fun v9 v10 wr => Cut1 w base b1 c1 b2 c2 n m v9 v10 wr)
  case first =>
    go_region
    all_goals
      go_wp2_with fail
      go_meet
      first | exact start1 f23 f3 hw3 hbase | exact start2 f23 f3 hw3 hbase
  case rest =>
    obtain ⟨g9, g10, rfl, rfl, hg9, hg10, hgn, P0⟩ := hcut
    clear r0 r1 S3 f23 f3 hw3 hbase hw3lt
    go_wp2_with fail
    go_loopg [11] len (fun r i wr => ∃ k : Nat, i = .int .i64 k ∧ k ≤ len ∧ r = len - k ∧ Play w base b1 c1 b2 c2 n m g9 g10 k wr)
    case atStart => exact ⟨0, rfl, by omega, by omega, P0⟩
    case round =>
      clear P0
      obtain ⟨k, rfl, hk, rfl, P⟩ := hrel
      by_cases hlt : k < len
      · obtain ⟨bo, off, rfl, hbo, hcl⟩ := hO (by omega)
        obtain ⟨kk, vv, ot, h1, h2, h3⟩ := hcl k hlt
        have hwr := P.below
        have hc1 := (hwr.cell (p := ⟨bo, off + k * 3, none⟩) hbo).trans h1
        have hc2 := (hwr.cell (p := ⟨bo, off + k * 3 + 1, none⟩) hbo).trans h2
        have hc3 := (hwr.cell (p := ⟨bo, off + k * 3 + 2, none⟩) hbo).trans h3
        clear h1 h2 h3 hcl hO
        go_upto_block 2 with fail
        go_cut [13] (fun v13 wx => v13 = .bool true ∧ Play w base b1 c1 b2 c2 n m g9 g10 (k + 1) wx)
        case first =>
          obtain ⟨la, sha, losta, aa, caa, BA, hla, SA⟩ := P.A
          obtain ⟨lb, shb, lostb, ab, cab, BB, hlb, SB⟩ := P.B
          have hsz := P.size
          clear P hc1 hc2 hc3
          have hbb := HB.out
          have hlt9 := SA.lt
          have hlt10 := SB.lt
          have hgn' : g10 ≠ g9 := Ne.symm hgn
          have BA1 := BA.alloc (.cells #[.int .i64 kk, .int .i64 vv, .bool ot] 33)
          have BB1 := BB.alloc (.cells #[.int .i64 kk, .int .i64 vv, .bool ot] 33)
          have SA1 := SA.alloc (.cells #[.int .i64 kk, .int .i64 vv, .bool ot] 33)
          have SB1 := SB.alloc (.cells #[.int .i64 kk, .int .i64 vv, .bool ot] 33)
          have SO1 := St.new wr 33 #[.int .i64 kk, .int .i64 vv, .bool ot]
          have hw1 := hwr.alloc hwr.size (.cells #[.int .i64 kk, .int .i64 vv, .bool ot] 33)
          have hsz1 : base ≤ (wr.alloc (.cells #[.int .i64 kk, .int .i64 vv, .bool ot] 33)).heap.size := by simp; omega
          have hfa := BA.feed.fits
          have hfb := BB.feed.fits
          have hl1 : losta < 1000000000 ∧ lostb < 1000000000 := by omega
          obtain ⟨r0, r1, r2, r3, _⟩ := row4 SA
          obtain ⟨q0, q1, q2, q3, _⟩ := row4 SB
          clear BA BB SA SB
          by_cases h5 : kk = 5
          · subst h5
            cases ot with
            | true =>
              obtain ⟨N, hN⟩ : ∃ N, cnt vv lb (roomOf n la sha) = N := ⟨_, rfl⟩
              obtain ⟨xx, hxx⟩ : ∃ x, lb.drop N = x := ⟨_, rfl⟩
              obtain ⟨yy, hyy⟩ : ∃ x, la ++ lb.take N = x := ⟨_, rfl⟩
              have hr := rmove_any BB1.own BA1.own hsz1 m lostb n losta shb sha (by omega) (by omega) hn vv
              rw [hN] at hr
              unfold RMovePost at hr
              rw [hxx, hyy] at hr
              have HN := Lib.hid (And.intro hN (And.intro hxx hyy))
              clear hN hxx hyy
              go_wp2_with fail
              refine hr.mono ?_
              rintro e w5 ⟨a5, c5, b5, d5, rfl, oX5, oY5, k5⟩
              clear hr
              have fX5 := BB1.feed.keep k5
              have fY5 := BA1.feed.keep k5
              have SX5 := SB1.keep k5
              have SY5 := SA1.keep k5
              have SO5 := SO1.keep k5
              have hw5 := hw1.trans (k5.mono hw1.size)
              have hsz5 := Nat.le_trans hsz1 k5.size
              clear BA1 BB1 SA1 SB1 SO1 k5 r0 r1 r2 r3 q0 q1 q2 q3
              obtain ⟨q0, q1, q2, q3, q4, q5, q6, q7⟩ := row4 SX5
              obtain ⟨r0, r1, r2, r3, r4, r5, r6, r7⟩ := row4 SY5
              obtain ⟨o0, o1, o2⟩ := row3 SO5
              have fX6 := (fX5.far4 (g := g10) (by omega) (by omega) (.slice a5 xx.length c5) (.int .i64 m) (.int .i64 lostb) (.bool shb)).far4 (g := g9) (by omega) (by omega) (.slice b5 yy.length d5) (.int .i64 n) (.int .i64 losta) (.bool sha)
              have fY6 := (fY5.far4 (g := g10) (by omega) (by omega) (.slice a5 xx.length c5) (.int .i64 m) (.int .i64 lostb) (.bool shb)).far4 (g := g9) (by omega) (by omega) (.slice b5 yy.length d5) (.int .i64 n) (.int .i64 losta) (.bool sha)
              have SY5' := SY5.far4 (g' := g10) hgn (.slice a5 xx.length c5) (.int .i64 m) (.int .i64 lostb) (.bool shb)
              have SX6 := (SX5.set4 (.slice a5 xx.length c5) (.int .i64 m) (.int .i64 lostb) (.bool shb)).far4 (g' := g9) hgn' (.slice b5 yy.length d5) (.int .i64 n) (.int .i64 losta) (.bool sha)
              have SY6 := SY5'.set4 (.slice b5 yy.length d5) (.int .i64 n) (.int .i64 losta) (.bool sha)
              have oX6 := (oX5.store4 SX5 (by decide) (.slice a5 xx.length c5) (.int .i64 m) (.int .i64 lostb) (.bool shb)).store4 SY5' (by decide) (.slice b5 yy.length d5) (.int .i64 n) (.int .i64 losta) (.bool sha)
              have oY6 := (oY5.store4 SX5 (by decide) (.slice a5 xx.length c5) (.int .i64 m) (.int .i64 lostb) (.bool shb)).store4 SY5' (by decide) (.slice b5 yy.length d5) (.int .i64 n) (.int .i64 losta) (.bool sha)
              have hw6 := below4 (below4 hw5 (g := g10) (by omega) (.slice a5 xx.length c5) (.int .i64 m) (.int .i64 lostb) (.bool shb)) (g := g9) (by omega) (.slice b5 yy.length d5) (.int .i64 n) (.int .i64 losta) (.bool sha)
              have hmv := move_any fX6 fY6 ⟨fun e => HA.out.h1 e.symm, fun e => HA.out.h3 e.symm, fun e => HA.out.h2 e.symm, fun e => HA.out.h4 e.symm⟩ hm hn vv
              have hne9 : wr.heap.size ≠ g9 := by omega
              have hne10 : wr.heap.size ≠ g10 := by omega
              have HS := Lib.hid (And.intro fX5 (And.intro fY5 (And.intro SX5 (And.intro SY5 (And.intro SX6 (And.intro SY6 (And.intro oX6 (And.intro oY6 hw6))))))))
              clear fX5 fY5 SX5 SY5 SY5' SX6 SY6 oX5 oY5 oX6 oY6 hw5 hw6 fX6 fY6 SO5
              rw [HN.out.1] at hmv
              go_wp2_with fail
              refine hmv.mono ?_
              rintro e w7 ⟨rfl, fX7, fY7, k7⟩
              rw [HN.out.2.1] at fX7
              rw [HN.out.2.2] at fY7
              have hh := HS.out
              have SX7 := hh.2.2.2.2.1.kept k7 (by simp; omega)
              have SY7 := hh.2.2.2.2.2.1.kept k7 (by simp; omega)
              have oX7 := hh.2.2.2.2.2.2.1.kept k7 (by simp; omega)
              have oY7 := hh.2.2.2.2.2.2.2.1.kept k7 (by simp; omega)
              have hw7 := hh.2.2.2.2.2.2.2.2.trans (k7.below hh.2.2.2.2.2.2.2.2.size (by have := HW.out; simp; omega))
              have hsz7 : base ≤ w7.heap.size := by have := k7.size; simp [World.setCell] at this; omega
              have P9 : Play w base b1 c1 b2 c2 n m g9 g10 (k + 1) w7 := ⟨⟨yy, sha, losta, b5, d5, ⟨fY7, oY7⟩, by omega, SY7⟩, ⟨xx, shb, lostb, a5, c5, ⟨fX7, oX7⟩, by omega, SX7⟩, hw7, hsz7⟩
              clear hh SX7 SY7 oX7 oY7 hw7 hsz7 fX7 fY7 k7 HS hmv q0 q1 q2 q3 q4 q5 q6 q7 r0 r1 r2 r3 r4 r5 r6 r7 o0 o1 o2
              have HP := Lib.hid P9
              clear P9
              go_wp2_with fail
              go_meet
              case rel => exact ⟨rfl, HP.out⟩
            | false =>
              obtain ⟨N, hN⟩ : ∃ N, cnt vv la (roomOf m lb shb) = N := ⟨_, rfl⟩
              obtain ⟨xx, hxx⟩ : ∃ x, la.drop N = x := ⟨_, rfl⟩
              obtain ⟨yy, hyy⟩ : ∃ x, lb ++ la.take N = x := ⟨_, rfl⟩
              have hr := rmove_any BA1.own BB1.own hsz1 n losta m lostb sha shb (by omega) (by omega) hm vv
              rw [hN] at hr
              unfold RMovePost at hr
              rw [hxx, hyy] at hr
              have HN := Lib.hid (And.intro hN (And.intro hxx hyy))
              clear hN hxx hyy
              go_wp2_with fail
              refine hr.mono ?_
              rintro e w5 ⟨a5, c5, b5, d5, rfl, oX5, oY5, k5⟩
              clear hr
              have fX5 := BA1.feed.keep k5
              have fY5 := BB1.feed.keep k5
              have SX5 := SA1.keep k5
              have SY5 := SB1.keep k5
              have SO5 := SO1.keep k5
              have hw5 := hw1.trans (k5.mono hw1.size)
              have hsz5 := Nat.le_trans hsz1 k5.size
              clear BA1 BB1 SA1 SB1 SO1 k5 r0 r1 r2 r3 q0 q1 q2 q3
              obtain ⟨q0, q1, q2, q3, q4, q5, q6, q7⟩ := row4 SX5
              obtain ⟨r0, r1, r2, r3, r4, r5, r6, r7⟩ := row4 SY5
              obtain ⟨o0, o1, o2⟩ := row3 SO5
              have fX6 := (fX5.far4 (g := g9) (by omega) (by omega) (.slice a5 xx.length c5) (.int .i64 n) (.int .i64 losta) (.bool sha)).far4 (g := g10) (by omega) (by omega) (.slice b5 yy.length d5) (.int .i64 m) (.int .i64 lostb) (.bool shb)
              have fY6 := (fY5.far4 (g := g9) (by omega) (by omega) (.slice a5 xx.length c5) (.int .i64 n) (.int .i64 losta) (.bool sha)).far4 (g := g10) (by omega) (by omega) (.slice b5 yy.length d5) (.int .i64 m) (.int .i64 lostb) (.bool shb)
              have SY5' := SY5.far4 (g' := g9) hgn' (.slice a5 xx.length c5) (.int .i64 n) (.int .i64 losta) (.bool sha)
              have SX6 := (SX5.set4 (.slice a5 xx.length c5) (.int .i64 n) (.int .i64 losta) (.bool sha)).far4 (g' := g10) hgn (.slice b5 yy.length d5) (.int .i64 m) (.int .i64 lostb) (.bool shb)
              have SY6 := SY5'.set4 (.slice b5 yy.length d5) (.int .i64 m) (.int .i64 lostb) (.bool shb)
              have oX6 := (oX5.store4 SX5 (by decide) (.slice a5 xx.length c5) (.int .i64 n) (.int .i64 losta) (.bool sha)).store4 SY5' (by decide) (.slice b5 yy.length d5) (.int .i64 m) (.int .i64 lostb) (.bool shb)
              have oY6 := (oY5.store4 SX5 (by decide) (.slice a5 xx.length c5) (.int .i64 n) (.int .i64 losta) (.bool sha)).store4 SY5' (by decide) (.slice b5 yy.length d5) (.int .i64 m) (.int .i64 lostb) (.bool shb)
              have hw6 := below4 (below4 hw5 (g := g9) (by omega) (.slice a5 xx.length c5) (.int .i64 n) (.int .i64 losta) (.bool sha)) (g := g10) (by omega) (.slice b5 yy.length d5) (.int .i64 m) (.int .i64 lostb) (.bool shb)
              have hmv := move_any fX6 fY6 HA.out hn hm vv
              have hne9 : wr.heap.size ≠ g9 := by omega
              have hne10 : wr.heap.size ≠ g10 := by omega
              have HS := Lib.hid (And.intro fX5 (And.intro fY5 (And.intro SX5 (And.intro SY5 (And.intro SX6 (And.intro SY6 (And.intro oX6 (And.intro oY6 hw6))))))))
              clear fX5 fY5 SX5 SY5 SY5' SX6 SY6 oX5 oY5 oX6 oY6 hw5 hw6 fX6 fY6 SO5
              rw [HN.out.1] at hmv
              go_wp2_with fail
              refine hmv.mono ?_
              rintro e w7 ⟨rfl, fX7, fY7, k7⟩
              rw [HN.out.2.1] at fX7
              rw [HN.out.2.2] at fY7
              have hh := HS.out
              have SX7 := hh.2.2.2.2.1.kept k7 (by simp; omega)
              have SY7 := hh.2.2.2.2.2.1.kept k7 (by simp; omega)
              have oX7 := hh.2.2.2.2.2.2.1.kept k7 (by simp; omega)
              have oY7 := hh.2.2.2.2.2.2.2.1.kept k7 (by simp; omega)
              have hw7 := hh.2.2.2.2.2.2.2.2.trans (k7.below hh.2.2.2.2.2.2.2.2.size (by have := HW.out; simp; omega))
              have hsz7 : base ≤ w7.heap.size := by have := k7.size; simp [World.setCell] at this; omega
              have P9 : Play w base b1 c1 b2 c2 n m g9 g10 (k + 1) w7 := ⟨⟨xx, sha, losta, a5, c5, ⟨fX7, oX7⟩, by omega, SX7⟩, ⟨yy, shb, lostb, b5, d5, ⟨fY7, oY7⟩, by omega, SY7⟩, hw7, hsz7⟩
              clear hh SX7 SY7 oX7 oY7 hw7 hsz7 fX7 fY7 k7 HS hmv q0 q1 q2 q3 q4 q5 q6 q7 r0 r1 r2 r3 r4 r5 r6 r7 o0 o1 o2
              have HP := Lib.hid P9
              clear P9
              go_wp2_with fail
              go_meet
              case rel => exact ⟨rfl, HP.out⟩
          have h5' : (kk == 5) = false := by simpa using h5
          by_cases h6 : kk = 6
          · subst h6
            clear h5
            cases la with
            | cons x r =>
              simp only [List.length_cons] at hfa r0 SA1
              go_wp2_with fail
              refine (either_a BA1.feed).mono ?_
              rintro e w5 ⟨rfl, fA5, k5⟩
              have oA5 := BA1.own.kept k5 (by simp; omega)
              have B5 := BB1.kept k5 (by have := HA.out; simp; exact ⟨fun e => this.h1 e.symm, fun e => this.h3 e.symm⟩) (by have := HA.out; simp; exact ⟨fun e => this.h2 e.symm, fun e => this.h4 e.symm⟩) (by simp; omega)
              have SA5 := SA1.kept k5 (by simp; omega)
              have SB5 := SB1.kept k5 (by simp; omega)
              have hw5 := hw1.trans (k5.below hw1.size (by have := HW.out; simp; omega))
              have hsz5 := Nat.le_trans hsz1 k5.size
              clear BA1 BB1 SA1 SB1 SO1 k5 r0 r1 r2 r3 q0 q1 q2 q3
              obtain ⟨r0, r1, r2, r3, _⟩ := row4 SA5
              go_wp2_with fail
              refine (rtake_some oA5 hsz5 (by omega) n losta sha).mono ?_
              rintro e w6 ⟨a6, c6, rfl, oA6, k6⟩
              have A7 := (Both.mk (fA5.keep k6) oA6).alloc (.cells #[.slice a6 r.length c6, .int .i64 n, .int .i64 losta, .bool sha] 31)
              have B7 := (B5.keep k6).alloc (.cells #[.slice a6 r.length c6, .int .i64 n, .int .i64 losta, .bool sha] 31)
              have SA7 := (SA5.keep k6).alloc (.cells #[.slice a6 r.length c6, .int .i64 n, .int .i64 losta, .bool sha] 31)
              have SB7 := (SB5.keep k6).alloc (.cells #[.slice a6 r.length c6, .int .i64 n, .int .i64 losta, .bool sha] 31)
              have hw6 := hw5.trans (k6.mono hw5.size)
              have hw7 := hw6.alloc hw6.size (.cells #[.slice a6 r.length c6, .int .i64 n, .int .i64 losta, .bool sha] 31)
              have hsz6 := Nat.le_trans hsz5 k6.size
              clear fA5 oA5 B5 SA5 SB5 hw5 hsz5 oA6 k6 r0 r1 r2 r3 hw6
              obtain ⟨r0, r1, r2, r3, r4, r5, r6, r7⟩ := row4 SA7
              have P9 : Play w base b1 c1 b2 c2 n m g9 g10 (k + 1) (((((w6.alloc (.cells #[.slice a6 r.length c6, .int .i64 n, .int .i64 losta, .bool sha] 31)).setCell ⟨g9, 0, none⟩ (.slice a6 r.length c6)).setCell ⟨g9, 1, none⟩ (.int .i64 n)).setCell ⟨g9, 2, none⟩ (.int .i64 losta)).setCell ⟨g9, 3, none⟩ (.bool sha)) :=
                ⟨⟨r, sha, losta, a6, c6, A7.far4 SA7 (by decide) (by omega) (by omega) _ _ _ _, by omega, SA7.set4 _ _ _ _⟩, ⟨lb, shb, lostb, ab, cab, B7.far4 SA7 (by decide) (by omega) (by omega) _ _ _ _, by omega, SB7.far4 hgn' _ _ _ _⟩, below4 hw7 (by omega) _ _ _ _, by simp [World.setCell]; omega⟩
              clear A7 B7 SA7 SB7
              have HP := Lib.hid P9
              clear P9
              go_wp2_with fail
              go_meet
              case rel => exact ⟨rfl, HP.out⟩
            | nil =>
              simp only [List.length_nil] at hfa r0 SA1
              cases lb with
              | cons x r =>
                simp only [List.length_cons] at hfb q0 SB1
                go_wp2_with fail
                refine (either_b BA1.feed BB1.feed).mono ?_
                rintro e w5 ⟨rfl, fB5, k5⟩
                have oB5 := BB1.own.kept k5 (by simp; omega)
                have A5 := BA1.kept k5 (by have := HA.out; simp; exact ⟨this.h1, this.h2⟩) (by have := HA.out; simp; exact ⟨this.h3, this.h4⟩) (by simp; omega)
                have SA5 := SA1.kept k5 (by simp; omega)
                have SB5 := SB1.kept k5 (by simp; omega)
                have hw5 := hw1.trans (k5.below hw1.size (by have := HW.out; simp; omega))
                have hsz5 := Nat.le_trans hsz1 k5.size
                clear BA1 BB1 SA1 SB1 SO1 k5 r0 r1 r2 r3 q0 q1 q2 q3
                obtain ⟨r0, r1, r2, r3, _⟩ := row4 SA5
                go_wp2_with fail
                refine (rtake_none aa caa n losta sha _).mono ?_
                rintro e w6 ⟨rfl, k6⟩
                have fB6 := (fB5.keep k6).alloc (.cells #[.slice aa 0 caa, .int .i64 n, .int .i64 losta, .bool sha] 31)
                have oB6 := (oB5.below k6).alloc (.cells #[.slice aa 0 caa, .int .i64 n, .int .i64 losta, .bool sha] 31)
                have A6 := (A5.keep k6).alloc (.cells #[.slice aa 0 caa, .int .i64 n, .int .i64 losta, .bool sha] 31)
                have SA6 := (SA5.keep k6).alloc (.cells #[.slice aa 0 caa, .int .i64 n, .int .i64 losta, .bool sha] 31)
                have SB6 := (SB5.keep k6).alloc (.cells #[.slice aa 0 caa, .int .i64 n, .int .i64 losta, .bool sha] 31)
                have ST6 := St.new w6 31 #[.slice aa 0 caa, .int .i64 n, .int .i64 losta, .bool sha]
                have hw6 := hw5.trans (k6.mono hw5.size)
                have hw7 := hw6.alloc hw6.size (.cells #[.slice aa 0 caa, .int .i64 n, .int .i64 losta, .bool sha] 31)
                have hsz6 := Nat.le_trans hsz5 k6.size
                have hsz7 : base ≤ (w6.alloc (.cells #[.slice aa 0 caa, .int .i64 n, .int .i64 losta, .bool sha] 31)).heap.size := by simp; omega
                have hl9 : g9 < w6.heap.size := (SA5.keep k6).lt
                have hl10 : g10 < w6.heap.size := (SB5.keep k6).lt
                have hn9 : g9 ≠ w6.heap.size := by omega
                have hn10 : g10 ≠ w6.heap.size := by omega
                clear fB5 oB5 A5 SA5 SB5 hw5 hsz5 k6 r0 r1 r2 r3 hw6
                obtain ⟨q0, q1, q2, q3, _⟩ := row4 SB6
                go_wp2_with fail
                refine (rtake_some oB6 hsz7 (by omega) m lostb shb).mono ?_
                rintro e w7 ⟨a7, c7, rfl, oB7, k7⟩
                have B7 := Both.mk (fB6.keep k7) oB7
                have A7 := A6.keep k7
                have SA7 := SA6.keep k7
                have SB7 := SB6.keep k7
                have ST7 := ST6.keep k7
                have hw8 := hw7.trans (k7.mono hw7.size)
                have hsz8 := Nat.le_trans hsz7 k7.size
                clear fB6 oB6 A6 SA6 SB6 ST6 hw7 k7 oB7 q0 q1 q2 q3 hsz7
                obtain ⟨q0, q1, q2, q3, q4, q5, q6, q7⟩ := row4 SB7
                obtain ⟨p0, p1, p2, p3, p4, p5, p6, p7⟩ := row4 ST7
                have hn9' : w6.heap.size ≠ g9 := by omega
                have hn10' : w6.heap.size ≠ g10 := by omega
                have SB7' := SB7.far4 (g' := w6.heap.size) hn10 (.slice a7 r.length c7) (.int .i64 m) (.int .i64 lostb) (.bool shb)
                have P9 : Play w base b1 c1 b2 c2 n m g9 g10 (k + 1) ((((((((w7.setCell ⟨w6.heap.size, 0, none⟩ (.slice a7 r.length c7)).setCell ⟨w6.heap.size, 1, none⟩ (.int .i64 m)).setCell ⟨w6.heap.size, 2, none⟩ (.int .i64 lostb)).setCell ⟨w6.heap.size, 3, none⟩ (.bool shb)).setCell ⟨g10, 0, none⟩ (.slice a7 r.length c7)).setCell ⟨g10, 1, none⟩ (.int .i64 m)).setCell ⟨g10, 2, none⟩ (.int .i64 lostb)).setCell ⟨g10, 3, none⟩ (.bool shb)) :=
                  ⟨⟨[], sha, losta, aa, caa, (A7.far4 ST7 (by decide) (by omega) (by omega) _ _ _ _).far4 SB7' (by decide) (by omega) (by omega) _ _ _ _, by omega, (SA7.far4 hn9 _ _ _ _).far4 hgn _ _ _ _⟩, ⟨r, shb, lostb, a7, c7, (B7.far4 ST7 (by decide) (by omega) (by omega) _ _ _ _).far4 SB7' (by decide) (by omega) (by omega) _ _ _ _, by omega, SB7'.set4 _ _ _ _⟩, below4 (below4 hw8 (by omega) _ _ _ _) (by omega) _ _ _ _, by simp [World.setCell]; omega⟩
                clear A7 B7 SA7 SB7 SB7' ST7 hw8
                have HP := Lib.hid P9
                clear P9
                go_wp2_with fail
                go_meet
                case rel => exact ⟨rfl, HP.out⟩
              | nil =>
                simp only [List.length_nil] at hfb q0 SB1
                go_wp2_with fail
                refine (either_none BA1.feed BB1.feed).mono ?_
                rintro e w5 ⟨rfl, rfl⟩
                go_wp2_with fail
                refine (rtake_none aa caa n losta sha _).mono ?_
                rintro e w6 ⟨rfl, k6⟩
                have A6 := (BA1.keep k6).alloc (.cells #[.slice aa 0 caa, .int .i64 n, .int .i64 losta, .bool sha] 31)
                have B6 := (BB1.keep k6).alloc (.cells #[.slice aa 0 caa, .int .i64 n, .int .i64 losta, .bool sha] 31)
                have SA6 := (SA1.keep k6).alloc (.cells #[.slice aa 0 caa, .int .i64 n, .int .i64 losta, .bool sha] 31)
                have SB6 := (SB1.keep k6).alloc (.cells #[.slice aa 0 caa, .int .i64 n, .int .i64 losta, .bool sha] 31)
                have ST6 := St.new w6 31 #[.slice aa 0 caa, .int .i64 n, .int .i64 losta, .bool sha]
                have hw6 := hw1.trans (k6.mono hw1.size)
                have hw7 := hw6.alloc hw6.size (.cells #[.slice aa 0 caa, .int .i64 n, .int .i64 losta, .bool sha] 31)
                have hsz6 := Nat.le_trans hsz1 k6.size
                have hsz7 : base ≤ (w6.alloc (.cells #[.slice aa 0 caa, .int .i64 n, .int .i64 losta, .bool sha] 31)).heap.size := by simp; omega
                have hl9 : g9 < w6.heap.size := (SA1.keep k6).lt
                have hl10 : g10 < w6.heap.size := (SB1.keep k6).lt
                have hn9 : g9 ≠ w6.heap.size := by omega
                have hn10 : g10 ≠ w6.heap.size := by omega
                clear BA1 BB1 SA1 SB1 SO1 k6 r0 r1 r2 r3 q0 q1 q2 q3 hw6
                obtain ⟨q0, q1, q2, q3, _⟩ := row4 SB6
                go_wp2_with fail
                refine (rtake_none ab cab m lostb shb _).mono ?_
                rintro e w7 ⟨rfl, k7⟩
                have B7 := B6.keep k7
                have A7 := A6.keep k7
                have SA7 := SA6.keep k7
                have SB7 := SB6.keep k7
                have ST7 := ST6.keep k7
                have hw8 := hw7.trans (k7.mono hw7.size)
                have hsz8 := Nat.le_trans hsz7 k7.size
                clear A6 B6 SA6 SB6 ST6 hw7 k7 q0 q1 q2 q3 hsz7
                obtain ⟨p0, p1, p2, p3, p4, p5, p6, p7⟩ := row4 ST7
                have P9 : Play w base b1 c1 b2 c2 n m g9 g10 (k + 1) ((((w7.setCell ⟨w6.heap.size, 0, none⟩ (.slice ab 0 cab)).setCell ⟨w6.heap.size, 1, none⟩ (.int .i64 m)).setCell ⟨w6.heap.size, 2, none⟩ (.int .i64 lostb)).setCell ⟨w6.heap.size, 3, none⟩ (.bool shb)) :=
                  ⟨⟨[], sha, losta, aa, caa, A7.far4 ST7 (by decide) (by omega) (by omega) _ _ _ _, by omega, SA7.far4 hn9 _ _ _ _⟩, ⟨[], shb, lostb, ab, cab, B7.far4 ST7 (by decide) (by omega) (by omega) _ _ _ _, by omega, SB7.far4 hn10 _ _ _ _⟩, below4 hw8 (by omega) _ _ _ _, by simp [World.setCell]; omega⟩
                clear A7 B7 SA7 SB7 ST7 hw8
                have HP := Lib.hid P9
                clear P9
                go_wp2_with fail
                go_meet
                case rel => exact ⟨rfl, HP.out⟩
          have h6' : (kk == 6) = false := by simpa using h6
          clear h5 h6
          cases ot with
          | true =>
            go_wp2_with fail
            refine (one_any BB1 hsz1 hm hbb.2.2.1 hbb.2.2.2 hl1.2 kk vv true).mono ?_
            rintro e w5 ⟨l5, sh5, lost5, a5, c5, rfl, B5, hl5, k5⟩
            have A5 := BA1.kept k5 (by have := HA.out; simp; exact ⟨this.h1, this.h2⟩) (by have := HA.out; simp; exact ⟨this.h3, this.h4⟩) (by simp; omega)
            have SA5 := SA1.kept k5 (by simp; omega)
            have SB5 := SB1.kept k5 (by simp; omega)
            have hw5 := hw1.trans (k5.below hw1.size (by have := HW.out; simp; omega))
            have hsz5 := Nat.le_trans hsz1 k5.size
            clear BA1 BB1 SA1 SB1 SO1 k5 r0 r1 r2 r3 q0 q1 q2 q3
            obtain ⟨q0, q1, q2, q3, q4, q5, q6, q7⟩ := row4 SB5
            have P9 : Play w base b1 c1 b2 c2 n m g9 g10 (k + 1) ((((w5.setCell ⟨g10, 0, none⟩ (.slice a5 l5.length c5)).setCell ⟨g10, 1, none⟩ (.int .i64 m)).setCell ⟨g10, 2, none⟩ (.int .i64 lost5)).setCell ⟨g10, 3, none⟩ (.bool sh5)) :=
              ⟨⟨la, sha, losta, aa, caa, A5.far4 SB5 (by decide) (by omega) (by omega) _ _ _ _, by omega, SA5.far4 hgn _ _ _ _⟩, ⟨l5, sh5, lost5, a5, c5, B5.far4 SB5 (by decide) (by omega) (by omega) _ _ _ _, by omega, SB5.set4 _ _ _ _⟩, below4 hw5 (by omega) _ _ _ _, by simp [World.setCell]; omega⟩
            clear A5 SA5 SB5 B5
            have HP := Lib.hid P9
            clear P9
            go_wp2_with fail
            go_meet
            case rel => exact ⟨rfl, HP.out⟩
          | false =>
            go_wp2_with fail
            refine (one_any BA1 hsz1 hn hbb.1 hbb.2.1 hl1.1 kk vv false).mono ?_
            rintro e w5 ⟨l5, sh5, lost5, a5, c5, rfl, A5, hl5, k5⟩
            have B5 := BB1.kept k5 (by have := HA.out; simp; exact ⟨fun e => this.h1 e.symm, fun e => this.h3 e.symm⟩) (by have := HA.out; simp; exact ⟨fun e => this.h2 e.symm, fun e => this.h4 e.symm⟩) (by simp; omega)
            have SA5 := SA1.kept k5 (by simp; omega)
            have SB5 := SB1.kept k5 (by simp; omega)
            have hw5 := hw1.trans (k5.below hw1.size (by have := HW.out; simp; omega))
            have hsz5 := Nat.le_trans hsz1 k5.size
            clear BA1 BB1 SA1 SB1 SO1 k5 r0 r1 r2 r3 q0 q1 q2 q3
            obtain ⟨q0, q1, q2, q3, q4, q5, q6, q7⟩ := row4 SA5
            have P9 : Play w base b1 c1 b2 c2 n m g9 g10 (k + 1) ((((w5.setCell ⟨g9, 0, none⟩ (.slice a5 l5.length c5)).setCell ⟨g9, 1, none⟩ (.int .i64 n)).setCell ⟨g9, 2, none⟩ (.int .i64 lost5)).setCell ⟨g9, 3, none⟩ (.bool sh5)) :=
              ⟨⟨l5, sh5, lost5, a5, c5, A5.far4 SA5 (by decide) (by omega) (by omega) _ _ _ _, by omega, SA5.set4 _ _ _ _⟩, ⟨lb, shb, lostb, ab, cab, B5.far4 SA5 (by decide) (by omega) (by omega) _ _ _ _, by omega, SB5.far4 hgn' _ _ _ _⟩, below4 hw5 (by omega) _ _ _ _, by simp [World.setCell]; omega⟩
            clear A5 SA5 SB5 B5
            have HP := Lib.hid P9
            clear P9
            go_wp2_with fail
            go_meet
            case rel => exact ⟨rfl, HP.out⟩
        case rest =>
          obtain ⟨rfl, P1⟩ := hcut
          clear P hwr hc1 hc2 hc3
          obtain ⟨la, sha, losta, aa, caa, BA, hla, SA⟩ := P1.A
          obtain ⟨lb, shb, lostb, ab, cab, BB, hlb, SB⟩ := P1.B
          have hbel := P1.below
          have hsz := P1.size
          have hba := HB.out
          obtain ⟨r0, r1, r2, r3, _⟩ := row4 SA
          clear P1
          go_wp2_with fail
          refine (shows_any BA.feed aa caa).mono ?_
          rintro e w5 ⟨rfl, k5⟩
          have FB5 := BB.feed.keep k5
          have SB5 := SB.keep k5
          obtain ⟨q0, q1, q2, q3, _⟩ := row4 SB5
          go_wp2_with fail
          refine (shows_any FB5 ab cab).mono ?_
          rintro e w6 ⟨rfl, k6⟩
          have P6 : Play w base b1 c1 b2 c2 n m g9 g10 (k + 1) w6 :=
            ⟨⟨la, sha, losta, aa, caa, ⟨(BA.feed.keep k5).keep k6, (BA.own.below k5).below k6⟩, hla, (SA.keep k5).keep k6⟩, ⟨lb, shb, lostb, ab, cab, ⟨FB5.keep k6, (BB.own.below k5).below k6⟩, hlb, SB5.keep k6⟩, (hbel.trans (k5.mono hbel.size)).trans (k6.mono (Nat.le_trans hbel.size k5.size)), Nat.le_trans hsz (Nat.le_trans k5.size k6.size)⟩
          clear r0 r1 r2 r3 q0 q1 q2 q3 BA SA BB SB k5 k6 FB5 SB5 hbel hsz hla hlb hba
          go_wp2_with fail
          go_roundg (len - (k + 1))
          case rel => exact ⟨k + 1, by go_num, by omega, rfl, P6⟩
          case measure => omega
      · obtain rfl : k = len := by omega
        obtain ⟨la, sha, losta, aa, caa, BA, hla, SA⟩ := P.A
        obtain ⟨lb, shb, lostb, ab, cab, BB, hlb, SB⟩ := P.B
        have hbel := P.below
        have hsz := P.size
        have hna : b2 ∉ [b1, c1] := by have := HA.out; simp; exact ⟨fun e => this.h1 e.symm, fun e => this.h3 e.symm⟩
        have hnb : c2 ∉ [b1, c1] := by have := HA.out; simp; exact ⟨fun e => this.h2 e.symm, fun e => this.h4 e.symm⟩
        have hT1 : ∀ i, i ∈ [b1, c1] → i < base := by have := HB.out; simp; omega
        have hT2 : ∀ i, i ∈ [b2, c2] → i < base := by have := HB.out; simp; omega
        have hW1 : ∀ i, i ∈ [b1, c1] → w.heap.size ≤ i := by have := HW.out; simp; omega
        have hW2 : ∀ i, i ∈ [b2, c2] → w.heap.size ≤ i := by have := HW.out; simp; omega
        have hg9a : g9 ∉ [b1, c1] ∧ g9 ∉ [b2, c2] ∧ g10 ∉ [b1, c1] ∧ g10 ∉ [b2, c2] := by have := HB.out; simp; omega
        have hla2 : la.length ≤ 2000 := by have := BA.feed.fits; omega
        have hlb2 : lb.length ≤ 2000 := by have := BB.feed.fits; omega
        have XA := BA.drew
        have XB := BB.drew
        have YA := SA.drew
        have YB := SB.drew
        have r0 := (row4 SA).1
        have q0 := (row4 SB).1
        have HT := Lib.hid (And.intro hna (And.intro hnb (And.intro hT1 (And.intro hT2 (And.intro hW1 (And.intro hW2 hg9a))))))
        clear hna hnb hT1 hT2 hW1 hW2 hg9a
        go_wp2_with fail
        go_region_held3 (fun w' => w'.cell? ⟨g9, 0, none⟩ = some (.slice aa la.length caa) ∧ w'.cell? ⟨g10, 0, none⟩ = some (.slice ab lb.length cab)) (go_keep)
          (first
            | (go_at_call_of 14 (Value.pointer (some { block := b1, off := 0 })); refine (drain_any XA.feed hn).mono ?_; rintro e w5 ⟨a5, c5, rfl, o5, f5, k5⟩; have r5 := (row4 (YA.kept k5 HT.out.2.2.2.2.2.2.1)).1; have q5 := (row4 (YB.kept k5 HT.out.2.2.2.2.2.2.2.2.1)).1)
            | (go_at_call_of 14 (Value.pointer (some { block := b2, off := 0 })); refine (drain_any ((XB.feed.kept k5 HT.out.1 HT.out.2.1).keep k6) hm).mono ?_; rintro e w7 ⟨a7, c7, rfl, o7, f7, k7⟩; have r7 := (row4 (((YA.kept k5 HT.out.2.2.2.2.2.2.1).keep k6).kept k7 HT.out.2.2.2.2.2.2.2.1)).1; have q7 := (row4 (((YB.kept k5 HT.out.2.2.2.2.2.2.2.2.1).keep k6).kept k7 HT.out.2.2.2.2.2.2.2.2.2)).1)
            | (go_at_call_of 13 (Value.slice a5 la.length c5); refine (same_any o5 (XA.own.kept k5 HT.out.2.2.1) hla2).mono ?_; rintro e w6 ⟨rfl, k6⟩; have r6 := (row4 ((YA.kept k5 HT.out.2.2.2.2.2.2.1).keep k6)).1; have q6 := (row4 ((YB.kept k5 HT.out.2.2.2.2.2.2.2.2.1).keep k6)).1)
            | (go_at_call_of 13 (Value.slice a7 lb.length c7); refine (same_any o7 (((XB.own.kept k5 HT.out.2.2.1).below k6).kept k7 HT.out.2.2.2.1) hlb2).mono ?_; rintro e w8 ⟨rfl, k8⟩; have r8 := (row4 ((((YA.kept k5 HT.out.2.2.2.2.2.2.1).keep k6).kept k7 HT.out.2.2.2.2.2.2.2.1).keep k8)).1; have q8 := (row4 ((((YB.kept k5 HT.out.2.2.2.2.2.2.2.2.1).keep k6).kept k7 HT.out.2.2.2.2.2.2.2.2.2).keep k8)).1))
        all_goals
          go_wp2
          go_ret
          have e5 := hbel.drew.trans (k5.below hbel.drew.size HT.out.2.2.2.2.1)
          have e6 := e5.trans (k6.mono e5.size)
          have e7 := e6.trans (k7.below e6.size HT.out.2.2.2.2.2.1)
          exact ⟨rfl, e7.trans (k8.mono e7.size)⟩
end Go.Proofs.Ytnkaenfmmlahlaa
