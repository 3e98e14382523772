import Derived.Test.YtnkaenfmmlahlaaMove
namespace Go.Proofs.Ytnkaenfmmlahlaa
open Go.Conc Go.RowKit

theorem either_a {w : World} {ba ca bb capa : Nat} {x : Int} {r : List Int} {sha : Bool} {losta : Nat} (ha : FeedAt w ba ca capa (x :: r) sha losta) :
    Calls Try.prog 9 #[.pointer (some ⟨ba, 0, none⟩), .pointer (some ⟨bb, 0, none⟩)] w (Leaves (.tuple #[.int .i64 x, .int .i64 0, .int .i64 0]) ba ca capa r sha losta w) := by
  go_enter Try.func9, Try.ntmps9
  go_wp2_with fail
  refine (Take_some ha).mono ?_
  rintro e w1 ⟨rfl, h1, k1⟩
  go_wp2_with fail
  go_ret3
  exact ⟨rfl, h1, k1⟩
theorem either_b {w : World} {ba ca bb cb capa capb : Nat} {x : Int} {r : List Int} {sha shb : Bool} {losta lostb : Nat} (ha : FeedAt w ba ca capa [] sha losta) (hb : FeedAt w bb cb capb (x :: r) shb lostb) :
    Calls Try.prog 9 #[.pointer (some ⟨ba, 0, none⟩), .pointer (some ⟨bb, 0, none⟩)] w (Leaves (.tuple #[.int .i64 x, .int .i64 1, .int .i64 0]) bb cb capb r shb lostb w) := by
  go_enter Try.func9, Try.ntmps9
  go_wp2_with fail
  refine (Take_none ha).mono ?_
  rintro e w1 ⟨rfl, rfl⟩
  go_wp2_with fail
  refine (Take_some hb).mono ?_
  rintro e w1 ⟨rfl, h1, k1⟩
  go_wp2_with fail
  go_ret3
  exact ⟨rfl, h1, k1⟩
theorem either_none {w : World} {ba ca bb cb capa capb : Nat} {sha shb : Bool} {losta lostb : Nat} (ha : FeedAt w ba ca capa [] sha losta) (hb : FeedAt w bb cb capb [] shb lostb) :
    Calls Try.prog 9 #[.pointer (some ⟨ba, 0, none⟩), .pointer (some ⟨bb, 0, none⟩)] w fun e w' => e = .returned (.tuple #[.int .i64 0, .int .i64 0, .int .i64 3]) ∧ w = w' := by
  go_enter Try.func9, Try.ntmps9
  go_wp2_with fail
  refine (Take_none ha).mono ?_
  rintro e w1 ⟨rfl, rfl⟩
  go_wp2_with fail
  refine (Take_none hb).mono ?_
  rintro e w1 ⟨rfl, rfl⟩
  go_wp2_with fail
  go_ret3
  exact ⟨rfl, rfl⟩

/-- Block g is a struct of four cells, of type t. -/
def St (w : World) (t g : Nat) (cs : Array Value) : Prop := w.heap[g]? = some (.cells cs t (0, 0))
theorem St.lt {w : World} {t g : Nat} {cs : Array Value} (h : St w t g cs) : g < w.heap.size := (Array.getElem?_eq_some_iff.1 h).1
theorem St.set {w : World} {t g : Nat} {cs : Array Value} (h : St w t g cs) (i : Nat) (u : Value) : St (w.setCell ⟨g, i, none⟩ u) t g (cs.setIfInBounds i u) := heap_setCell_same w g i cs t u h
theorem St.far {w : World} {t g : Nat} {cs : Array Value} (h : St w t g cs) {p : Addr} (hp : g ≠ p.block) (u : Value) : St (w.setCell p u) t g cs := (heap_setCell_other w p g u hp).trans h
theorem St.below {w w' : World} {t g B : Nat} {cs : Array Value} (h : St w t g cs) (k : Below B w w') (hg : g < B) : St w' t g cs := (k.block g hg).trans h
theorem St.keep {w w' : World} {t g : Nat} {cs : Array Value} (h : St w t g cs) (k : Below w.heap.size w w') : St w' t g cs := h.below k h.lt
theorem St.kept {w w' : World} {t g : Nat} {cs : Array Value} (h : St w t g cs) {T : List Nat} (k : Kept T w w') (hg : g ∉ T) : St w' t g cs := (k.block g h.lt hg).trans h
theorem St.set4 {w : World} {t g : Nat} {c0 c1 c2 c3 : Value} (h : St w t g #[c0, c1, c2, c3]) (d0 d1 d2 d3 : Value) :
    St ((((w.setCell ⟨g, 0, none⟩ d0).setCell ⟨g, 1, none⟩ d1).setCell ⟨g, 2, none⟩ d2).setCell ⟨g, 3, none⟩ d3) t g #[d0, d1, d2, d3] := by
  have := (((h.set 0 d0).set 1 d1).set 2 d2).set 3 d3
  simpa using this
theorem Own.store {w : World} {base : Nat} {a : Option Addr} {cap : Nat} {l : List Int} (h : Own w base a cap l) {p : Addr} {cs : Array Value} {t : Nat} (hs : St w t p.block cs) (ht : t ≠ 3) (u : Value) : Own (w.setCell p u) base a cap l := by
  obtain ⟨h1, h2⟩ := h
  refine ⟨h1, ?_⟩
  rcases h2 with h2 | ⟨g, cap', cur, hv, hg, hh, r⟩
  · exact Or.inl h2
  · refine Or.inr ⟨g, cap', cur, hv, hg, ?_, r⟩
    rw [heap_setCell_other]
    · exact hh
    · rintro rfl
      unfold St at hs
      rw [hh] at hs
      simp at hs
      exact ht hs.2.symm
theorem Own.store4 {w : World} {base : Nat} {a : Option Addr} {cap : Nat} {l : List Int} (h : Own w base a cap l) {g t : Nat} {cs : Array Value} (hs : St w t g cs) (ht : t ≠ 3) (d0 d1 d2 d3 : Value) :
    Own ((((w.setCell ⟨g, 0, none⟩ d0).setCell ⟨g, 1, none⟩ d1).setCell ⟨g, 2, none⟩ d2).setCell ⟨g, 3, none⟩ d3) base a cap l :=
  (((h.store (p := ⟨g, 0, none⟩) hs ht d0).store (p := ⟨g, 1, none⟩) (hs.set 0 d0) ht d1).store (p := ⟨g, 2, none⟩) ((hs.set 0 d0).set 1 d1) ht d2).store (p := ⟨g, 3, none⟩) (((hs.set 0 d0).set 1 d1).set 2 d2) ht d3
theorem St.far4 {w : World} {t g g' : Nat} {cs : Array Value} (h : St w t g cs) (hn : g ≠ g') (d0 d1 d2 d3 : Value) :
    St ((((w.setCell ⟨g', 0, none⟩ d0).setCell ⟨g', 1, none⟩ d1).setCell ⟨g', 2, none⟩ d2).setCell ⟨g', 3, none⟩ d3) t g cs :=
  (((h.far (p := ⟨g', 0, none⟩) hn d0).far (p := ⟨g', 1, none⟩) hn d1).far (p := ⟨g', 2, none⟩) hn d2).far (p := ⟨g', 3, none⟩) hn d3
theorem below4 {w0 w : World} {B g : Nat} (h : Below B w0 w) (hg : B ≤ g) (d0 d1 d2 d3 : Value) :
    Below B w0 ((((w.setCell ⟨g, 0, none⟩ d0).setCell ⟨g, 1, none⟩ d1).setCell ⟨g, 2, none⟩ d2).setCell ⟨g, 3, none⟩ d3) :=
  (((h.setCell (p := ⟨g, 0, none⟩) hg d0).setCell (p := ⟨g, 1, none⟩) hg d1).setCell (p := ⟨g, 2, none⟩) hg d2).setCell (p := ⟨g, 3, none⟩) hg d3

/-- The reference's feed in a block. -/
def refC (a : Option Addr) (n cap most lost : Nat) (sh : Bool) : Array Value := #[.slice a n cap, .int .i64 most, .int .i64 lost, .bool sh]

/-- After k rounds of the reference's move. -/
structure RMoveAt (w : World) (base mosta losta : Nat) (sha : Bool) (mostb lostb : Nat) (shb : Bool) (xa xb : List Int) (wr : World) : Prop where
  s0 : ∃ a ca, St wr 31 w.heap.size #[.slice a xa.length ca, .int .i64 mosta, .int .i64 losta, .bool sha] ∧ Own wr base a ca xa
  s1 : ∃ b cb, St wr 31 (w.heap.size + 1) #[.slice b xb.length cb, .int .i64 mostb, .int .i64 lostb, .bool shb] ∧ Own wr base b cb xb
  s2 : St wr 31 (w.heap.size + 1 + 1) #[.slice none 0 0, .int .i64 0, .int .i64 0, .bool false]
  s3 : St wr 31 (w.heap.size + 1 + 1 + 1) #[.slice none 0 0, .int .i64 0, .int .i64 0, .bool false]
  below : Below w.heap.size w wr
  size : w.heap.size + 4 ≤ wr.heap.size

def RMovePost (base : Nat) (la lb : List Int) (mosta losta : Nat) (sha : Bool) (mostb lostb : Nat) (shb : Bool) (n : Nat) (w : World) (e : Ending) (w' : World) : Prop :=
  ∃ a ca b cb, e = .returned (.tuple #[.agg #[.slice a (la.drop n).length ca, .int .i64 mosta, .int .i64 losta, .bool sha], .agg #[.slice b (lb ++ la.take n).length cb, .int .i64 mostb, .int .i64 lostb, .bool shb], .int .i64 n]) ∧
    Own w' base a ca (la.drop n) ∧ Own w' base b cb (lb ++ la.take n) ∧ Below w.heap.size w w'

theorem St.new (w : World) (t : Nat) (cs : Array Value) : St (w.alloc (.cells cs t)) t w.heap.size cs := heap_alloc_new w _
theorem St.alloc {w : World} {t g : Nat} {cs : Array Value} (h : St w t g cs) (o : Obj) : St (w.alloc o) t g cs := (heap_alloc_old w o h.lt).trans h

theorem cnt_step {most : Int} {la lb : List Int} {cap k N : Nat} {sh : Bool} (h : cnt most la (roomOf cap lb sh) = N) (hf : lb.length ≤ cap) (hk : k < N) : (k : Int) < most ∧ k < la.length ∧ sh = false ∧ lb.length + k < cap := by
  unfold cnt roomOf at h
  cases sh <;> simp at h ⊢ <;> omega
theorem cnt_end {most : Int} {la lb : List Int} {cap N : Nat} {sh : Bool} (h : cnt most la (roomOf cap lb sh) = N) (hf : lb.length ≤ cap) : most ≤ N ∨ ((N : Int) < most ∧ la.length ≤ N) ∨ ((N : Int) < most ∧ N < la.length ∧ sh = true) ∨ ((N : Int) < most ∧ N < la.length ∧ sh = false ∧ cap ≤ lb.length + N) := by
  unfold cnt roomOf at h
  cases sh <;> simp at h ⊢ <;> omega

theorem Own.drew {w : World} {base : Nat} {a : Option Addr} {cap : Nat} {l : List Int} (h : Own w base a cap l) : Own w.drew base a cap l := h
theorem rm_fin {w wr : World} {base k : Nat} {la lb : List Int} {mosta losta mostb lostb : Nat} {sha shb : Bool} {a1 b1 : Option Addr} {c1 d1 : Nat} {cs2 cs3 : Array Value} (hs2 : St wr 31 (w.heap.size + 1 + 1) cs2) (hs3 : St wr 31 (w.heap.size + 1 + 1 + 1) cs3)
    (ho0 : Own wr base a1 c1 (la.drop k)) (ho1 : Own wr base b1 d1 (lb ++ la.take k)) (hbel : Below w.heap.size w wr) {u0 u1 u2 u3 u4 u5 u6 u7 : Value} :
    RMovePost base la lb mosta losta sha mostb lostb shb k w (.returned (.tuple #[.agg #[.slice a1 (la.drop k).length c1, .int .i64 mosta, .int .i64 losta, .bool sha], .agg #[.slice b1 (lb ++ la.take k).length d1, .int .i64 mostb, .int .i64 lostb, .bool shb], .int .i64 k]))
      ((((((((wr.setCell ⟨w.heap.size + 1 + 1, 0, none⟩ u0).setCell ⟨w.heap.size + 1 + 1, 1, none⟩ u1).setCell ⟨w.heap.size + 1 + 1, 2, none⟩ u2).setCell ⟨w.heap.size + 1 + 1, 3, none⟩ u3).setCell ⟨w.heap.size + 1 + 1 + 1, 0, none⟩ u4).setCell ⟨w.heap.size + 1 + 1 + 1, 1, none⟩ u5).setCell ⟨w.heap.size + 1 + 1 + 1, 2, none⟩ u6).setCell ⟨w.heap.size + 1 + 1 + 1, 3, none⟩ u7).drew :=
  have h3 := hs3.far4 (g' := w.heap.size + 1 + 1) (by omega) u0 u1 u2 u3
  ⟨a1, c1, b1, d1, rfl, ((ho0.store4 hs2 (by decide) u0 u1 u2 u3).store4 h3 (by decide) u4 u5 u6 u7).drew, ((ho1.store4 hs2 (by decide) u0 u1 u2 u3).store4 h3 (by decide) u4 u5 u6 u7).drew, (below4 (below4 hbel (by omega) u0 u1 u2 u3) (by omega) u4 u5 u6 u7).drew⟩

set_option maxHeartbeats 1600000 in
theorem rmove_any {w : World} {base : Nat} {a b : Option Addr} {ca cb : Nat} {la lb : List Int} (ha : Own w base a ca la) (hb : Own w base b cb lb) (hbase : base ≤ w.heap.size) (mosta losta mostb lostb : Nat) (sha shb : Bool)
    (hla : la.length ≤ 1024) (hlb : lb.length ≤ mostb) (hmb : mostb ≤ 1024) (most : Int) :
    Calls Try.prog 7 #[.agg #[.slice a la.length ca, .int .i64 mosta, .int .i64 losta, .bool sha], .agg #[.slice b lb.length cb, .int .i64 mostb, .int .i64 lostb, .bool shb], .int .i64 most] w
      (RMovePost base la lb mosta losta sha mostb lostb shb (cnt most la (roomOf mostb lb shb)) w) := by
  obtain ⟨N, hN⟩ : ∃ N, cnt most la (roomOf mostb lb shb) = N := ⟨_, rfl⟩
  rw [hN]
  have HN := Lib.hid hN
  clear hN
  go_enter Try.func7, Try.ntmps7
  go_wp2_with fail
  go_loopw [9] (fun i wr => ∃ (k : Nat) (xa xb : List Int), i = .int .i64 k ∧ Hid (k ≤ N ∧ xa = la.drop k ∧ xb = lb ++ la.take k) ∧ RMoveAt w base mosta losta sha mostb lostb shb xa xb wr) (fun i _ => N - (intOf i).toNat)
  case atStart =>
    refine ⟨0, la, lb, rfl, ⟨Nat.zero_le _, by simp, by simp⟩, ⟨⟨a, ca, ?_, ?_⟩, ⟨b, cb, ?_, ?_⟩, ?_, ?_, ?_, by simp⟩⟩
    · exact (((St.new w _ _).alloc _).alloc _).alloc _
    · exact ha.below ((((((Below.refl _ _).alloc (Nat.le_refl _) _).alloc (by simp) _).alloc (by simp; omega) _).alloc (by simp; omega) _))
    · have := St.new (w.alloc (.cells #[.slice a la.length ca, .int .i64 mosta, .int .i64 losta, .bool sha] 31)) 31 #[.slice b lb.length cb, .int .i64 mostb, .int .i64 lostb, .bool shb]
      simp only [World.size_alloc] at this
      exact (this.alloc _).alloc _
    · exact hb.below ((((((Below.refl _ _).alloc (Nat.le_refl _) _).alloc (by simp) _).alloc (by simp; omega) _).alloc (by simp; omega) _))
    · have := St.new ((w.alloc (.cells #[.slice a la.length ca, .int .i64 mosta, .int .i64 losta, .bool sha] 31)).alloc (.cells #[.slice b lb.length cb, .int .i64 mostb, .int .i64 lostb, .bool shb] 31)) 31 #[.slice none 0 0, .int .i64 0, .int .i64 0, .bool false]
      simp only [World.size_alloc] at this
      exact this.alloc _
    · have := St.new (((w.alloc (.cells #[.slice a la.length ca, .int .i64 mosta, .int .i64 losta, .bool sha] 31)).alloc (.cells #[.slice b lb.length cb, .int .i64 mostb, .int .i64 lostb, .bool shb] 31)).alloc (.cells #[.slice none 0 0, .int .i64 0, .int .i64 0, .bool false] 31)) 31 #[.slice none 0 0, .int .i64 0, .int .i64 0, .bool false]
      simp only [World.size_alloc] at this
      exact this
    · exact ((((((Below.refl _ _).alloc (Nat.le_refl _) _).alloc (by simp) _).alloc (by simp; omega) _).alloc (by simp; omega) _))
  case round =>
    clear ha hb
    obtain ⟨k, xa, xb, rfl, HX, R⟩ := hrel
    obtain ⟨a1, c1, hs0, ho0⟩ := R.s0
    obtain ⟨b1, d1, hs1, ho1⟩ := R.s1
    have hs2 := R.s2
    have hs3 := R.s3
    have hbel := R.below
    have hsz := R.size
    clear R
    obtain ⟨r0, r1, r2, r3, r4, r5, r6, r7⟩ := row4 hs0
    obtain ⟨q0, q1, q2, q3, q4, q5, q6, q7⟩ := row4 hs1
    by_cases hlt : k < N
    · obtain ⟨t1, t2, rfl, t4⟩ := cnt_step HN.out hlb hlt
      have hxl : xb.length = lb.length + k := by rw [HX.out.2.2]; simp; omega
      have hxb : xb.length < mostb := by omega
      have hxb2 : xb.length ≤ 2000 := by omega
      have hxk : k ≤ xb.length := by omega
      clear hxl t4
      have hxa : xa = la[k] :: la.drop (k + 1) := by rw [HX.out.2.1]; exact List.drop_eq_getElem_cons t2
      have HY : Hid (la.drop (k + 1) = la.drop (k + 1) ∧ xb ++ [la[k]] = lb ++ la.take (k + 1)) := ⟨rfl, by rw [HX.out.2.2, List.take_succ_eq_append_getElem t2, List.append_assoc]⟩
      have hrl : (la.drop (k + 1)).length ≤ 2000 := by simp; omega
      generalize hx : la[k] = x at hxa HY
      generalize hr : la.drop (k + 1) = r at hxa HY hrl
      have HR := Lib.hid hr
      clear hx hr HX
      subst hxa
      go_wp2_with fail
      refine (rtake_some ho0 (by omega) hrl mosta losta sha).mono ?_
      rintro e w3 ⟨a3, c3, rfl, ho3, hb3⟩
      have hs0' := hs0.keep hb3
      have hs1' := hs1.keep hb3
      have hs2' := hs2.keep hb3
      have hs3' := hs3.keep hb3
      have ho1' := ho1.below hb3
      have hbel3 := hbel.trans (hb3.mono (by omega))
      have hsz3 := Nat.le_trans hsz hb3.size
      clear r0 r1 r2 r3 r4 r5 r6 r7 q0 q1 q2 q3 q4 q5 q6 q7 ho0 ho1 hs0 hs1 hs2 hs3 hbel hb3 hsz
      obtain ⟨r0, r1, r2, r3, r4, r5, r6, r7⟩ := row4 hs0'
      obtain ⟨q0, q1, q2, q3, q4, q5, q6, q7⟩ := row4 hs1'
      go_wp2_with fail
      refine (rput_kept (ho1'.store4 hs0' (by decide) _ _ _ _) (by simp [World.setCell]; omega) x mostb lostb (by omega) hxb).mono ?_
      rintro e w5 ⟨a5, c5, rfl, ho5, hb5⟩
      have hs0'' := (hs0'.set4 (.slice a3 r.length c3) (.int .i64 mosta) (.int .i64 losta) (.bool sha)).keep hb5
      have hs1'' := (hs1'.far4 (g' := w.heap.size) (by omega) (.slice a3 r.length c3) (.int .i64 mosta) (.int .i64 losta) (.bool sha)).keep hb5
      have hs2'' := (hs2'.far4 (g' := w.heap.size) (by omega) (.slice a3 r.length c3) (.int .i64 mosta) (.int .i64 losta) (.bool sha)).keep hb5
      have hs3'' := (hs3'.far4 (g' := w.heap.size) (by omega) (.slice a3 r.length c3) (.int .i64 mosta) (.int .i64 losta) (.bool sha)).keep hb5
      have ho3'' := (ho3.store4 hs0' (by decide) (.slice a3 r.length c3) (.int .i64 mosta) (.int .i64 losta) (.bool sha)).below hb5
      have hbel5 := (below4 hbel3 (Nat.le_refl _) (.slice a3 r.length c3) (.int .i64 mosta) (.int .i64 losta) (.bool sha)).trans (hb5.mono (by simp [World.setCell]; omega))
      have hsz5 : w.heap.size + 4 ≤ w5.heap.size := by have := hb5.size; simp [World.setCell] at this; omega
      clear r0 r1 r2 r3 r4 r5 r6 r7 q0 q1 q2 q3 q4 q5 q6 q7 ho1' hs0' hs1' hs2' hs3' hbel3 hb5 ho3
      obtain ⟨q0, q1, q2, q3, q4, q5, q6, q7⟩ := row4 hs1''
      have R5 : RMoveAt w base mosta losta sha mostb lostb false r (xb ++ [x]) ((((w5.setCell ⟨w.heap.size + 1, 0, none⟩ (.slice a5 (xb.length + 1) c5)).setCell ⟨w.heap.size + 1, 1, none⟩ (.int .i64 mostb)).setCell ⟨w.heap.size + 1, 2, none⟩ (.int .i64 lostb)).setCell ⟨w.heap.size + 1, 3, none⟩ (.bool false)) :=
        ⟨⟨a3, c3, hs0''.far4 (by omega) _ _ _ _, ho3''.store4 hs1'' (by decide) _ _ _ _⟩, ⟨a5, c5, by simpa using hs1''.set4 _ _ _ _, ho5.store4 hs1'' (by decide) _ _ _ _⟩, hs2''.far4 (by omega) _ _ _ _, hs3''.far4 (by omega) _ _ _ _, below4 hbel5 (by omega) _ _ _ _, by simp [World.setCell]; omega⟩
      clear hs0'' hs1'' hs2'' hs3'' ho3'' hbel5 ho5
      have HR5 := Lib.hid R5
      clear R5
      go_wp2_with fail
      go_roundw
      case rel => exact ⟨k + 1, r, xb ++ [x], by go_num, ⟨by omega, HR.out.symm, HY.out.2⟩, HR5.out⟩
      case measure => simp [intOf]; omega
    · obtain rfl : k = N := by have := HX.out.1; omega
      have hxal : xa.length = la.length - k := by rw [HX.out.2.1]; simp
      have hxbl : xb.length ≤ lb.length + k ∧ (k ≤ la.length → xb.length = lb.length + k) := by rw [HX.out.2.2]; simp; omega
      have hNl : k ≤ la.length := by have := HN.out; unfold cnt at this; omega
      have hkl : xa.length ≤ 1024 ∧ xb.length ≤ 3000 := by omega
      have HE := Lib.hid (show xa = la.drop k ∧ xb = lb ++ la.take k from HX.out.2)
      clear HX
      rcases cnt_end HN.out hlb with h1 | ⟨h1, h2⟩ | ⟨h1, h2, h3⟩ | ⟨h1, h2, h3, h4⟩
      case' inr.inl => have h5 : xa.length ≤ 0 := by omega
      case' inr.inr.inl =>
        have h5 : 0 < xa.length := by omega
        subst h3
      case' inr.inr.inr =>
        have h5 : 0 < xa.length := by omega
        have h6 : mostb ≤ xb.length := by omega
        subst h3
      all_goals
        clear hxal hxbl
        obtain ⟨x0, x1, x2, x3, x4, x5, x6, x7⟩ := row4 hs2
        obtain ⟨y0, y1, y2, y3, y4, y5, y6, y7⟩ := row4 hs3
        go_wp2_with fail
        go_region
        go_wp2
        obtain ⟨rfl, rfl⟩ := HE.out
        clear HE r0 r1 r2 r3 r4 r5 r6 r7 q0 q1 q2 q3 q4 q5 q6 q7 x4 x5 x6 x7 y4 y5 y6 y7
      · exact bodyPost_ret (v := .tuple #[.agg #[.slice a1 (la.drop k).length c1, .int .i64 mosta, .int .i64 losta, .bool sha], .agg #[.slice b1 (lb ++ la.take k).length d1, .int .i64 mostb, .int .i64 lostb, .bool false], .int .i64 k]) (by simp [results, Try.results7, go_sem, x0, x1, x2, x3, y0, y1, y2, y3]) rfl (rm_fin hs2 hs3 ho0 ho1 hbel)
      · exact bodyPost_ret (v := .tuple #[.agg #[.slice a1 (la.drop k).length c1, .int .i64 mosta, .int .i64 losta, .bool sha], .agg #[.slice b1 (lb ++ la.take k).length d1, .int .i64 mostb, .int .i64 lostb, .bool true], .int .i64 k]) (by simp [results, Try.results7, go_sem, x0, x1, x2, x3, y0, y1, y2, y3]) rfl (rm_fin hs2 hs3 ho0 ho1 hbel)
      · exact bodyPost_ret (v := .tuple #[.agg #[.slice a1 (la.drop k).length c1, .int .i64 mosta, .int .i64 losta, .bool sha], .agg #[.slice b1 (lb ++ la.take k).length d1, .int .i64 mostb, .int .i64 lostb, .bool shb], .int .i64 k]) (by simp [results, Try.results7, go_sem, x0, x1, x2, x3, y0, y1, y2, y3]) rfl (rm_fin hs2 hs3 ho0 ho1 hbel)
      · exact bodyPost_ret (v := .tuple #[.agg #[.slice a1 (la.drop k).length c1, .int .i64 mosta, .int .i64 losta, .bool sha], .agg #[.slice b1 (lb ++ la.take k).length d1, .int .i64 mostb, .int .i64 lostb, .bool shb], .int .i64 k]) (by simp [results, Try.results7, go_sem, x0, x1, x2, x3, y0, y1, y2, y3]) rfl (rm_fin hs2 hs3 ho0 ho1 hbel)
end Go.Proofs.Ytnkaenfmmlahlaa
