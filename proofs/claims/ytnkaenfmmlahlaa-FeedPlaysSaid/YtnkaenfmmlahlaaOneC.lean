import Derived.Test.YtnkaenfmmlahlaaOneA
namespace Go.Proofs.Ytnkaenfmmlahlaa
open Go.Conc Go.RowKit

set_option maxHeartbeats 400000 in
theorem one_put_lost {w : World} {base b c cap : Nat} {l : List Int} {sh : Bool} {lost : Nat} {a : Option Addr} {ca : Nat} (h : Both w base b c cap l sh lost a ca) (hcap : cap ≤ 1024) (hb1 : b < base) (hb2 : c < base) (v : Int) (ot : Bool) (hno : sh = true ∨ cap ≤ l.length) (hm : lost < 1000000000) :
    Calls Try.prog 11 #[.pointer (some ⟨b, 0, none⟩), .agg #[.slice a l.length ca, .int .i64 cap, .int .i64 lost, .bool sh], .agg #[.int .i64 0, .int .i64 v, .bool ot]] w (OnePost base b c cap lost w) := by
  have hlt := h.feed.lt
  have hll : l.length ≤ 2000 := by have := h.feed.fits; omega
  have L0 := laid_start w (.slice a l.length ca) cap lost sh #[.int .i64 0, .int .i64 v, .bool ot] b c
  have B0 := ((h.alloc (.cells #[.slice a l.length ca, .int .i64 cap, .int .i64 lost, .bool sh] 31)).alloc (.cells #[.int .i64 0, .int .i64 v, .bool ot] 33)).alloc (.cells #[.slice none 0 0, .int .i64 0, .int .i64 0, .bool false] 31)
  obtain ⟨m, hmm⟩ : ∃ m, lost + 1 = m := ⟨_, rfl⟩
  have HM := Lib.hid hmm
  have hrl := rput_lost a l.length ca v cap lost hm sh hno
  have hpl := put_lost B0.feed v hno hm
  rw [hmm] at hrl hpl
  clear hmm
  go_enter Try.func11, Try.ntmps11
  go_wp2_with fail
  refine hpl.mono ?_
  rintro e w1 ⟨rfl, f1, k1⟩
  have L1 := L0.kept' k1 hlt.1 hlt.2
  have o1 := B0.own.kept k1 (by simp; omega)
  clear L0 B0 k1 hpl
  obtain ⟨r0, r1, r2, r3, r4, r5, r6, r7⟩ := row4 L1.s0
  obtain ⟨p0, p1, p2⟩ := row3 L1.s1
  go_wp2_with fail
  refine (hrl _).mono ?_
  rintro e w2 ⟨rfl, b2⟩
  have L3 := (L1.keep b2).alloc (.cells #[.slice a l.length ca, .int .i64 cap, .int .i64 m, .bool sh] 31)
  have B3 := (Both.mk (f1.keep b2) (o1.below b2)).alloc (.cells #[.slice a l.length ca, .int .i64 cap, .int .i64 m, .bool sh] 31)
  clear r0 r1 r2 r3 r4 r5 r6 r7 p0 p1 p2 L1 f1 o1 b2 hrl
  obtain ⟨r0, r1, r2, r3, r4, r5, r6, r7⟩ := row4 L3.s0
  obtain ⟨q0, q1, q2, q3, q4, q5, q6, q7⟩ := row4 L3.s2
  go_wp2_with fail
  exact bodyPost_ret (v := .tuple #[.agg #[.slice a l.length ca, .int .i64 cap, .int .i64 m, .bool sh], .bool true]) (by simp [results, Try.results11, go_sem, *]) rfl
      (one_fin L3 B3 hlt.1 hlt.2 (by have := HM.out; omega) _ _ _ _)

set_option maxHeartbeats 400000 in
theorem one_put_kept {w : World} {base b c cap : Nat} {l : List Int} {sh : Bool} {lost : Nat} {a : Option Addr} {ca : Nat} (h : Both w base b c cap l sh lost a ca) (hb : base ≤ w.heap.size) (hcap : cap ≤ 1024) (hb1 : b < base) (hb2 : c < base) (v : Int) (ot : Bool) (hsh : sh = false) (hroom : l.length < cap) :
    Calls Try.prog 11 #[.pointer (some ⟨b, 0, none⟩), .agg #[.slice a l.length ca, .int .i64 cap, .int .i64 lost, .bool sh], .agg #[.int .i64 0, .int .i64 v, .bool ot]] w (OnePost base b c cap lost w) := by
  subst hsh
  have hlt := h.feed.lt
  have hll : l.length ≤ 2000 := by have := h.feed.fits; omega
  have L0 := laid_start w (.slice a l.length ca) cap lost false #[.int .i64 0, .int .i64 v, .bool ot] b c
  have B0 := ((h.alloc (.cells #[.slice a l.length ca, .int .i64 cap, .int .i64 lost, .bool false] 31)).alloc (.cells #[.int .i64 0, .int .i64 v, .bool ot] 33)).alloc (.cells #[.slice none 0 0, .int .i64 0, .int .i64 0, .bool false] 31)
  go_enter Try.func11, Try.ntmps11
  go_wp2_with fail
  refine (put_kept B0.feed v hroom).mono ?_
  rintro e w1 ⟨rfl, f1, k1⟩
  have L1 := L0.kept' k1 hlt.1 hlt.2
  have o1 := B0.own.kept k1 (by simp; omega)
  have hb3 : base ≤ w1.heap.size := by have := L1.size; omega
  clear L0 B0 k1
  obtain ⟨r0, r1, r2, r3, r4, r5, r6, r7⟩ := row4 L1.s0
  obtain ⟨p0, p1, p2⟩ := row3 L1.s1
  go_wp2_with fail
  refine (rput_kept o1 hb3 v cap lost (by omega) hroom).mono ?_
  rintro e w2 ⟨a2, c2, rfl, o2, b2⟩
  have L3 := (L1.keep b2).alloc (.cells #[.slice a2 (l.length + 1) c2, .int .i64 cap, .int .i64 lost, .bool false] 31)
  have B3 := (Both.mk (f1.keep b2) o2).alloc (.cells #[.slice a2 (l.length + 1) c2, .int .i64 cap, .int .i64 lost, .bool false] 31)
  clear r0 r1 r2 r3 r4 r5 r6 r7 p0 p1 p2 L1 f1 o1 o2 b2
  obtain ⟨r0, r1, r2, r3, r4, r5, r6, r7⟩ := row4 L3.s0
  obtain ⟨q0, q1, q2, q3, q4, q5, q6, q7⟩ := row4 L3.s2
  go_wp2_with fail
  have e1 : (l ++ [v]).length = l.length + 1 := by simp
  have HF := one_fin L3 B3 hlt.1 hlt.2 (by omega) (.slice a2 (l.length + 1) c2) (.int .i64 cap) (.int .i64 lost) (.bool false)
  rw [e1] at HF
  exact bodyPost_ret (v := .tuple #[.agg #[.slice a2 (l.length + 1) c2, .int .i64 cap, .int .i64 lost, .bool false], .bool true]) (by simp [results, Try.results11, go_sem, *]) rfl HF

end Go.Proofs.Ytnkaenfmmlahlaa
