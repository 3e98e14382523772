import Derived.Test.YtnkaenfmmlahlaaRefMove
namespace Go.Proofs.Ytnkaenfmmlahlaa
open Go.Conc Go.RowKit

theorem Kept.setNew {T : List Nat} {w wr : World} (h : Kept T w wr) {p : Addr} (hp : w.heap.size ≤ p.block) (u : Value) : Kept T w (wr.setCell p u) :=
  ⟨h.os, h.tape, h.output, by simp [World.setCell]; exact h.size, fun k hk hn => (heap_setCell_other _ _ _ _ (by omega)).trans (h.block k hk hn)⟩
theorem Kept.allocNew {T : List Nat} {w wr : World} (h : Kept T w wr) (o : Obj) : Kept T w (wr.alloc o) :=
  ⟨h.os, h.tape, h.output, by simp; have := h.size; omega, fun k hk hn => (heap_alloc_old _ _ (by have := h.size; omega)).trans (h.block k hk hn)⟩
theorem Kept.then {T : List Nat} {w wr w' : World} (h : Kept T w wr) (k : Below wr.heap.size wr w') : Kept T w w' :=
  ⟨k.os.trans h.os, k.tape.trans h.tape, k.output.trans h.output, Nat.le_trans h.size k.size, fun i hi hn => (k.block i (by have := h.size; omega)).trans (h.block i hi hn)⟩
theorem Kept.after {T : List Nat} {w wr w' : World} (h : Kept T w wr) (k : Kept T wr w') : Kept T w w' := h.trans k
theorem FeedAt.far {w : World} {b c cap : Nat} {l : List Int} {sh : Bool} {lost : Nat} (h : FeedAt w b c cap l sh lost) {p : Addr} (h1 : b ≠ p.block) (h2 : c ≠ p.block) (u : Value) : FeedAt (w.setCell p u) b c cap l sh lost := by
  obtain ⟨s, r, hh⟩ := h.hc
  exact ⟨(heap_setCell_other _ _ _ _ h1).trans h.hb, ⟨s, r, (heap_setCell_other _ _ _ _ h2).trans hh⟩, h.fits⟩
theorem FeedAt.keep {w w' : World} {b c cap : Nat} {l : List Int} {sh : Bool} {lost : Nat} (h : FeedAt w b c cap l sh lost) (k : Below w.heap.size w w') : FeedAt w' b c cap l sh lost := h.below k h.lt.1 h.lt.2
theorem Own.alloc {w : World} {base : Nat} {a : Option Addr} {cap : Nat} {l : List Int} (h : Own w base a cap l) (o : Obj) : Own (w.alloc o) base a cap l := h.below ((Below.refl _ _).alloc (Nat.le_refl _) o)

/-- What is known of a feed and of its picture. -/
structure Both (w : World) (base b c cap : Nat) (l : List Int) (sh : Bool) (lost : Nat) (a : Option Addr) (ca : Nat) : Prop where
  feed : FeedAt w b c cap l sh lost
  own : Own w base a ca l
theorem Both.alloc {w : World} {base b c cap : Nat} {l : List Int} {sh : Bool} {lost : Nat} {a : Option Addr} {ca : Nat} (h : Both w base b c cap l sh lost a ca) (o : Obj) : Both (w.alloc o) base b c cap l sh lost a ca := ⟨h.feed.alloc o, h.own.alloc o⟩
theorem Both.far4 {w : World} {base b c cap : Nat} {l : List Int} {sh : Bool} {lost : Nat} {a : Option Addr} {ca : Nat} (h : Both w base b c cap l sh lost a ca) {g t : Nat} {cs : Array Value} (hs : St w t g cs) (ht : t ≠ 3) (h1 : b ≠ g) (h2 : c ≠ g) (d0 d1 d2 d3 : Value) :
    Both ((((w.setCell ⟨g, 0, none⟩ d0).setCell ⟨g, 1, none⟩ d1).setCell ⟨g, 2, none⟩ d2).setCell ⟨g, 3, none⟩ d3) base b c cap l sh lost a ca :=
  ⟨(((h.feed.far (p := ⟨g, 0, none⟩) h1 h2 d0).far (p := ⟨g, 1, none⟩) h1 h2 d1).far (p := ⟨g, 2, none⟩) h1 h2 d2).far (p := ⟨g, 3, none⟩) h1 h2 d3, h.own.store4 hs ht d0 d1 d2 d3⟩
theorem Kept.set4 {T : List Nat} {w wr : World} (h : Kept T w wr) {g : Nat} (hg : w.heap.size ≤ g) (d0 d1 d2 d3 : Value) :
    Kept T w ((((wr.setCell ⟨g, 0, none⟩ d0).setCell ⟨g, 1, none⟩ d1).setCell ⟨g, 2, none⟩ d2).setCell ⟨g, 3, none⟩ d3) :=
  (((h.setNew (p := ⟨g, 0, none⟩) hg d0).setNew (p := ⟨g, 1, none⟩) hg d1).setNew (p := ⟨g, 2, none⟩) hg d2).setNew (p := ⟨g, 3, none⟩) hg d3

/-- What 'one' leaves: true, and the feed and its picture agree again. -/
def OnePost (base b c cap lost : Nat) (w : World) (e : Ending) (w' : World) : Prop :=
  ∃ (l : List Int) (sh : Bool) (lost' : Nat) (a : Option Addr) (ca : Nat), e = .returned (.tuple #[.agg #[.slice a l.length ca, .int .i64 cap, .int .i64 lost', .bool sh], .bool true]) ∧ Both w' base b c cap l sh lost' a ca ∧ lost' ≤ lost + 1 ∧ Kept [b, c] w w'

/-- What is known of the three blocks that 'one' lays. -/
structure Laid (w : World) (c0 : Value) (cap lost : Nat) (sh : Bool) (o : Array Value) (b c : Nat) (wr : World) : Prop where
  s0 : St wr 31 w.heap.size #[c0, .int .i64 cap, .int .i64 lost, .bool sh]
  s1 : St wr 33 (w.heap.size + 1) o
  s2 : St wr 31 (w.heap.size + 1 + 1) #[.slice none 0 0, .int .i64 0, .int .i64 0, .bool false]
  kept : Kept [b, c] w wr
  size : w.heap.size + 3 ≤ wr.heap.size
theorem laid_start (w : World) (c0 : Value) (cap lost : Nat) (sh : Bool) (o : Array Value) (b c : Nat) :
    Laid w c0 cap lost sh o b c (((w.alloc (.cells #[c0, .int .i64 cap, .int .i64 lost, .bool sh] 31)).alloc (.cells o 33)).alloc (.cells #[.slice none 0 0, .int .i64 0, .int .i64 0, .bool false] 31)) := by
  refine ⟨((St.new _ _ _).alloc _).alloc _, ?_, ?_, (((Kept.refl _ _).allocNew _).allocNew _).allocNew _, by simp⟩
  · have := (St.new (w.alloc (.cells #[c0, .int .i64 cap, .int .i64 lost, .bool sh] 31)) 33 o).alloc (.cells #[.slice none 0 0, .int .i64 0, .int .i64 0, .bool false] 31)
    simp only [World.size_alloc] at this
    exact this
  · have := St.new ((w.alloc (.cells #[c0, .int .i64 cap, .int .i64 lost, .bool sh] 31)).alloc (.cells o 33)) 31 #[.slice none 0 0, .int .i64 0, .int .i64 0, .bool false]
    simp only [World.size_alloc] at this
    exact this
theorem Laid.kept' {w wr w' : World} {c0 : Value} {cap lost : Nat} {sh : Bool} {o : Array Value} {b c : Nat} (h : Laid w c0 cap lost sh o b c wr) (k : Kept [b, c] wr w') (hb : b < w.heap.size) (hc : c < w.heap.size) : Laid w c0 cap lost sh o b c w' :=
  ⟨h.s0.kept k (by simp; omega), h.s1.kept k (by simp; omega), h.s2.kept k (by simp; omega), h.kept.trans k, Nat.le_trans h.size k.size⟩
theorem Laid.keep {w wr w' : World} {c0 : Value} {cap lost : Nat} {sh : Bool} {o : Array Value} {b c : Nat} (h : Laid w c0 cap lost sh o b c wr) (k : Below wr.heap.size wr w') : Laid w c0 cap lost sh o b c w' :=
  ⟨h.s0.keep k, h.s1.keep k, h.s2.keep k, h.kept.then k, Nat.le_trans h.size k.size⟩
theorem Laid.alloc {w wr : World} {c0 : Value} {cap lost : Nat} {sh : Bool} {o : Array Value} {b c : Nat} (h : Laid w c0 cap lost sh o b c wr) (ob : Obj) : Laid w c0 cap lost sh o b c (wr.alloc ob) :=
  h.keep ((Below.refl _ _).alloc (Nat.le_refl _) ob)
theorem row3 {w : World} {g : Nat} {c0 c1 c2 : Value} {t : TypeId} (h : w.heap[g]? = some (.cells #[c0, c1, c2] t (0, 0))) :
    w.cell? ⟨g, 0, none⟩ = some c0 ∧ w.cell? ⟨g, 1, none⟩ = some c1 ∧ w.cell? ⟨g, 2, none⟩ = some c2 := by
  refine ⟨?_, ?_, ?_⟩ <;> (rw [cell_of_row w g _ _ _ _ h]; rfl)
theorem one_fin {w wr : World} {c0 : Value} {cap lost lost' : Nat} {sh sh' : Bool} {o : Array Value} {b c base : Nat} {l : List Int} {a : Option Addr} {ca : Nat} (L : Laid w c0 cap lost sh o b c wr) (B : Both wr base b c cap l sh' lost' a ca) (hb : b < w.heap.size) (hc : c < w.heap.size) (hl : lost' ≤ lost + 1) (d0 d1 d2 d3 : Value) :
    OnePost base b c cap lost w (.returned (.tuple #[.agg #[.slice a l.length ca, .int .i64 cap, .int .i64 lost', .bool sh'], .bool true]))
      ((((wr.setCell ⟨w.heap.size + 1 + 1, 0, none⟩ d0).setCell ⟨w.heap.size + 1 + 1, 1, none⟩ d1).setCell ⟨w.heap.size + 1 + 1, 2, none⟩ d2).setCell ⟨w.heap.size + 1 + 1, 3, none⟩ d3) :=
  ⟨l, sh', lost', a, ca, rfl, B.far4 L.s2 (by decide) (by omega) (by omega) d0 d1 d2 d3, hl, L.kept.set4 (by omega) d0 d1 d2 d3⟩

theorem Laid.setShut {w wr : World} {c0 : Value} {cap lost : Nat} {sh : Bool} {o : Array Value} {b c : Nat} (h : Laid w c0 cap lost sh o b c wr) (m : Bool) : Laid w c0 cap lost m o b c (wr.setCell ⟨w.heap.size, 3, none⟩ (.bool m)) :=
  ⟨by simpa using h.s0.set 3 (.bool m), h.s1.far (by simp) _, h.s2.far (by show w.heap.size + 1 + 1 ≠ w.heap.size; omega) _, h.kept.setNew (Nat.le_refl _) _, by simp [World.setCell]; exact h.size⟩
theorem Laid.setC0 {w wr : World} {c0 : Value} {cap lost : Nat} {sh : Bool} {o : Array Value} {b c : Nat} (h : Laid w c0 cap lost sh o b c wr) (m : Value) : Laid w m cap lost sh o b c (wr.setCell ⟨w.heap.size, 0, none⟩ m) :=
  ⟨by simpa using h.s0.set 0 m, h.s1.far (by simp) _, h.s2.far (by show w.heap.size + 1 + 1 ≠ w.heap.size; omega) _, h.kept.setNew (Nat.le_refl _) _, by simp [World.setCell]; exact h.size⟩
theorem Both.far {w : World} {base b c cap : Nat} {l : List Int} {sh : Bool} {lost : Nat} {a : Option Addr} {ca : Nat} (h : Both w base b c cap l sh lost a ca) {p : Addr} {t : Nat} {cs : Array Value} (hs : St w t p.block cs) (ht : t ≠ 3) (h1 : b ≠ p.block) (h2 : c ≠ p.block) (u : Value) :
    Both (w.setCell p u) base b c cap l sh lost a ca := ⟨h.feed.far h1 h2 u, h.own.store hs ht u⟩

theorem one_other {w : World} {base b c cap : Nat} {l : List Int} {sh : Bool} {lost : Nat} {a : Option Addr} {ca : Nat} (h : Both w base b c cap l sh lost a ca) (k v : Int) (ot : Bool)
    (h0 : (k == 0) = false) (h1 : (k == 1) = false) (h2 : (k == 2) = false) (h3 : (k == 3) = false) (h4 : (k == 4) = false) :
    Calls Try.prog 11 #[.pointer (some ⟨b, 0, none⟩), .agg #[.slice a l.length ca, .int .i64 cap, .int .i64 lost, .bool sh], .agg #[.int .i64 k, .int .i64 v, .bool ot]] w (OnePost base b c cap lost w) := by
  go_enter Try.func11, Try.ntmps11
  go_wp2
  exact bodyPost_ret (v := .tuple #[.agg #[.slice a l.length ca, .int .i64 cap, .int .i64 lost, .bool sh], .bool true]) (by simp [results, Try.results11, go_sem]) rfl
    ⟨l, sh, lost, a, ca, rfl, ((h.alloc _).alloc _).alloc _, by omega, (((Kept.refl _ _).allocNew _).allocNew _).allocNew _⟩

set_option maxHeartbeats 400000 in
theorem one_shut {w : World} {base b c cap : Nat} {l : List Int} {sh : Bool} {lost : Nat} {a : Option Addr} {ca : Nat} (h : Both w base b c cap l sh lost a ca) (hb1 : b < base) (hb2 : c < base) (v : Int) (ot : Bool) :
    Calls Try.prog 11 #[.pointer (some ⟨b, 0, none⟩), .agg #[.slice a l.length ca, .int .i64 cap, .int .i64 lost, .bool sh], .agg #[.int .i64 4, .int .i64 v, .bool ot]] w (OnePost base b c cap lost w) := by
  have hlt := h.feed.lt
  have L0 := laid_start w (.slice a l.length ca) cap lost sh #[.int .i64 4, .int .i64 v, .bool ot] b c
  have B0 := ((h.alloc (.cells #[.slice a l.length ca, .int .i64 cap, .int .i64 lost, .bool sh] 31)).alloc (.cells #[.int .i64 4, .int .i64 v, .bool ot] 33)).alloc (.cells #[.slice none 0 0, .int .i64 0, .int .i64 0, .bool false] 31)
  go_enter Try.func11, Try.ntmps11
  go_wp2_with fail
  refine (shut_any B0.feed).mono ?_
  rintro e w1 ⟨rfl, f1, k1⟩
  have L1 := L0.kept' k1 hlt.1 hlt.2
  have B1 : Both w1 base b c cap l true lost a ca := ⟨f1, B0.own.kept k1 (by simp; omega)⟩
  clear L0 B0 f1 k1
  obtain ⟨r0, r1, r2, r3, r4, r5, r6, r7⟩ := row4 L1.s0
  obtain ⟨q0, q1, q2, q3, q4, q5, q6, q7⟩ := row4 L1.s2
  go_wp2_with fail
  exact bodyPost_ret (v := .tuple #[.agg #[.slice a l.length ca, .int .i64 cap, .int .i64 lost, .bool true], .bool true]) (by simp [results, Try.results11, go_sem, *]) rfl
    (one_fin (L1.setShut true) (B1.far (p := ⟨w.heap.size, 3, none⟩) L1.s0 (by decide) (by simp; omega) (by simp; omega) _) hlt.1 hlt.2 (by omega) _ _ _ _)

set_option maxHeartbeats 400000 in
theorem one_drain {w : World} {base b c cap : Nat} {l : List Int} {sh : Bool} {lost : Nat} {a : Option Addr} {ca : Nat} (h : Both w base b c cap l sh lost a ca) (hcap : cap ≤ 1024) (hb1 : b < base) (hb2 : c < base) (v : Int) (ot : Bool) :
    Calls Try.prog 11 #[.pointer (some ⟨b, 0, none⟩), .agg #[.slice a l.length ca, .int .i64 cap, .int .i64 lost, .bool sh], .agg #[.int .i64 3, .int .i64 v, .bool ot]] w (OnePost base b c cap lost w) := by
  have hlt := h.feed.lt
  have hll : l.length ≤ 2000 := by have := h.feed.fits; omega
  have L0 := laid_start w (.slice a l.length ca) cap lost sh #[.int .i64 3, .int .i64 v, .bool ot] b c
  have B0 := ((h.alloc (.cells #[.slice a l.length ca, .int .i64 cap, .int .i64 lost, .bool sh] 31)).alloc (.cells #[.int .i64 3, .int .i64 v, .bool ot] 33)).alloc (.cells #[.slice none 0 0, .int .i64 0, .int .i64 0, .bool false] 31)
  go_enter Try.func11, Try.ntmps11
  go_wp2_with fail
  refine (drain_any B0.feed hcap).mono ?_
  rintro e w1 ⟨ad, cd, rfl, od, f1, k1⟩
  have L1 := L0.kept' k1 hlt.1 hlt.2
  have o1 := B0.own.kept k1 (by simp; omega)
  clear L0 B0 k1
  obtain ⟨r0, r1, r2, r3, r4, r5, r6, r7⟩ := row4 L1.s0
  go_wp2_with fail
  refine (same_any od o1 hll).mono ?_
  rintro e w2 ⟨rfl, b2⟩
  have L2 := L1.keep b2
  have f2 := f1.keep b2
  clear L1 f1 o1 od b2 r0 r1 r2 r3 r4 r5 r6 r7
  obtain ⟨r0, r1, r2, r3, r4, r5, r6, r7⟩ := row4 L2.s0
  obtain ⟨q0, q1, q2, q3, q4, q5, q6, q7⟩ := row4 L2.s2
  have B2 : Both w2 base b c cap [] sh lost none 0 := ⟨f2, World.ownsRow_nil _ _ _ _⟩
  go_wp2_with fail
  exact bodyPost_ret (v := .tuple #[.agg #[.slice none 0 0, .int .i64 cap, .int .i64 lost, .bool sh], .bool true]) (by simp [results, Try.results11, go_sem, *]) rfl
    (one_fin (L2.setC0 (.slice none 0 0)) (B2.far (p := ⟨w.heap.size, 0, none⟩) L2.s0 (by decide) (by simp; omega) (by simp; omega) _) hlt.1 hlt.2 (by omega) _ _ _ _)

end Go.Proofs.Ytnkaenfmmlahlaa
