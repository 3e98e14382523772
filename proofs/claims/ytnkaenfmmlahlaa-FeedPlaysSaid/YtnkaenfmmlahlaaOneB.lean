import Derived.Test.YtnkaenfmmlahlaaOneA
namespace Go.Proofs.Ytnkaenfmmlahlaa
open Go.Conc Go.RowKit

set_option maxHeartbeats 400000 in
theorem one_peek {w : World} {base b c cap : Nat} {l : List Int} {sh : Bool} {lost : Nat} {a : Option Addr} {ca : Nat} (h : Both w base b c cap l sh lost a ca) (hb : base ≤ w.heap.size) (hcap : cap ≤ 1024) (hb1 : b < base) (hb2 : c < base) (v : Int) (ot : Bool) :
    Calls Try.prog 11 #[.pointer (some ⟨b, 0, none⟩), .agg #[.slice a l.length ca, .int .i64 cap, .int .i64 lost, .bool sh], .agg #[.int .i64 2, .int .i64 v, .bool ot]] w (OnePost base b c cap lost w) := by
  have hlt := h.feed.lt
  have hll : l.length ≤ 2000 := by have := h.feed.fits; omega
  have L0 := laid_start w (.slice a l.length ca) cap lost sh #[.int .i64 2, .int .i64 v, .bool ot] b c
  have B0 := ((h.alloc (.cells #[.slice a l.length ca, .int .i64 cap, .int .i64 lost, .bool sh] 31)).alloc (.cells #[.int .i64 2, .int .i64 v, .bool ot] 33)).alloc (.cells #[.slice none 0 0, .int .i64 0, .int .i64 0, .bool false] 31)
  cases l with
  | nil =>
    simp only [List.length_nil] at *
    go_enter Try.func11, Try.ntmps11
    go_wp2_with fail
    refine (peek_none B0.feed).mono ?_
    rintro e w1 ⟨rfl, rfl⟩
    go_wp2_with fail
    refine (rtake_none a ca cap lost sh _).mono ?_
    rintro e w2 ⟨rfl, b2⟩
    have L3 := (L0.keep b2).alloc (.cells #[.slice a 0 ca, .int .i64 cap, .int .i64 lost, .bool sh] 31)
    have B3 := (Both.mk (B0.feed.keep b2) (B0.own.below b2)).alloc (.cells #[.slice a 0 ca, .int .i64 cap, .int .i64 lost, .bool sh] 31)
    clear L0 B0 b2
    obtain ⟨r0, r1, r2, r3, r4, r5, r6, r7⟩ := row4 L3.s0
    obtain ⟨q0, q1, q2, q3, q4, q5, q6, q7⟩ := row4 L3.s2
    go_wp2_with fail
    exact bodyPost_ret (v := .tuple #[.agg #[.slice a 0 ca, .int .i64 cap, .int .i64 lost, .bool sh], .bool true]) (by simp [results, Try.results11, go_sem, *]) rfl
      (one_fin L3 B3 hlt.1 hlt.2 (by omega) _ _ _ _)
  | cons x r =>
    simp only [List.length_cons] at *
    go_enter Try.func11, Try.ntmps11
    go_wp2_with fail
    refine (peek_some B0.feed hcap).mono ?_
    rintro e w1 ⟨rfl, f1, k1⟩
    have L1 := L0.kept' k1 hlt.1 hlt.2
    have o1 := B0.own.kept k1 (by simp; omega)
    have hb3 : base ≤ w1.heap.size := by have := L1.size; omega
    clear L0 B0 k1
    obtain ⟨r0, r1, r2, r3, r4, r5, r6, r7⟩ := row4 L1.s0
    go_wp2_with fail
    refine (rtake_some o1 hb3 (by omega) cap lost sh).mono ?_
    rintro e w2 ⟨a2, c2, rfl, o2, b2⟩
    have L3 := (L1.keep b2).alloc (.cells #[.slice a2 r.length c2, .int .i64 cap, .int .i64 lost, .bool sh] 31)
    have B3 := (Both.mk (f1.keep b2) (o1.below b2)).alloc (.cells #[.slice a2 r.length c2, .int .i64 cap, .int .i64 lost, .bool sh] 31)
    clear r0 r1 r2 r3 r4 r5 r6 r7 L1 f1 o1 o2 b2
    obtain ⟨r0, r1, r2, r3, r4, r5, r6, r7⟩ := row4 L3.s0
    obtain ⟨q0, q1, q2, q3, q4, q5, q6, q7⟩ := row4 L3.s2
    go_wp2_with fail
    exact bodyPost_ret (v := .tuple #[.agg #[.slice a (r.length + 1) ca, .int .i64 cap, .int .i64 lost, .bool sh], .bool true]) (by simp [results, Try.results11, go_sem, *]) rfl
      (one_fin L3 B3 hlt.1 hlt.2 (by omega) _ _ _ _)

set_option maxHeartbeats 400000 in
theorem one_take {w : World} {base b c cap : Nat} {l : List Int} {sh : Bool} {lost : Nat} {a : Option Addr} {ca : Nat} (h : Both w base b c cap l sh lost a ca) (hb : base ≤ w.heap.size) (hcap : cap ≤ 1024) (hb1 : b < base) (hb2 : c < base) (v : Int) (ot : Bool) :
    Calls Try.prog 11 #[.pointer (some ⟨b, 0, none⟩), .agg #[.slice a l.length ca, .int .i64 cap, .int .i64 lost, .bool sh], .agg #[.int .i64 1, .int .i64 v, .bool ot]] w (OnePost base b c cap lost w) := by
  have hlt := h.feed.lt
  have hll : l.length ≤ 2000 := by have := h.feed.fits; omega
  have L0 := laid_start w (.slice a l.length ca) cap lost sh #[.int .i64 1, .int .i64 v, .bool ot] b c
  have B0 := ((h.alloc (.cells #[.slice a l.length ca, .int .i64 cap, .int .i64 lost, .bool sh] 31)).alloc (.cells #[.int .i64 1, .int .i64 v, .bool ot] 33)).alloc (.cells #[.slice none 0 0, .int .i64 0, .int .i64 0, .bool false] 31)
  cases l with
  | nil =>
    simp only [List.length_nil] at *
    go_enter Try.func11, Try.ntmps11
    go_wp2_with fail
    refine (Take_none B0.feed).mono ?_
    rintro e w1 ⟨rfl, rfl⟩
    go_wp2_with fail
    refine (rtake_none a ca cap lost sh _).mono ?_
    rintro e w2 ⟨rfl, b2⟩
    have L3 := (L0.keep b2).alloc (.cells #[.slice a 0 ca, .int .i64 cap, .int .i64 lost, .bool sh] 31)
    have B3 := (Both.mk (B0.feed.keep b2) (B0.own.below b2)).alloc (.cells #[.slice a 0 ca, .int .i64 cap, .int .i64 lost, .bool sh] 31)
    clear L0 B0 b2
    obtain ⟨r0, r1, r2, r3, r4, r5, r6, r7⟩ := row4 L3.s0
    obtain ⟨q0, q1, q2, q3, q4, q5, q6, q7⟩ := row4 L3.s2
    go_wp2_with fail
    exact bodyPost_ret (v := .tuple #[.agg #[.slice a 0 ca, .int .i64 cap, .int .i64 lost, .bool sh], .bool true]) (by simp [results, Try.results11, go_sem, *]) rfl
      (one_fin L3 B3 hlt.1 hlt.2 (by omega) _ _ _ _)
  | cons x r =>
    simp only [List.length_cons] at *
    go_enter Try.func11, Try.ntmps11
    go_wp2_with fail
    refine (Take_some B0.feed).mono ?_
    rintro e w1 ⟨rfl, f1, k1⟩
    have L1 := L0.kept' k1 hlt.1 hlt.2
    have o1 := B0.own.kept k1 (by simp; omega)
    have hb3 : base ≤ w1.heap.size := by have := L1.size; omega
    clear L0 B0 k1
    obtain ⟨r0, r1, r2, r3, r4, r5, r6, r7⟩ := row4 L1.s0
    go_wp2_with fail
    refine (rtake_some o1 hb3 (by omega) cap lost sh).mono ?_
    rintro e w2 ⟨a2, c2, rfl, o2, b2⟩
    have L3 := (L1.keep b2).alloc (.cells #[.slice a2 r.length c2, .int .i64 cap, .int .i64 lost, .bool sh] 31)
    have B3 := (Both.mk (f1.keep b2) o2).alloc (.cells #[.slice a2 r.length c2, .int .i64 cap, .int .i64 lost, .bool sh] 31)
    clear r0 r1 r2 r3 r4 r5 r6 r7 L1 f1 o1 o2 b2
    obtain ⟨r0, r1, r2, r3, r4, r5, r6, r7⟩ := row4 L3.s0
    obtain ⟨q0, q1, q2, q3, q4, q5, q6, q7⟩ := row4 L3.s2
    go_wp2_with fail
    exact bodyPost_ret (v := .tuple #[.agg #[.slice a2 r.length c2, .int .i64 cap, .int .i64 lost, .bool sh], .bool true]) (by simp [results, Try.results11, go_sem, *]) rfl
      (one_fin L3 B3 hlt.1 hlt.2 (by omega) _ _ _ _)

end Go.Proofs.Ytnkaenfmmlahlaa
