import Derived.Test.YtnkaenfmmlahlaaOneB
import Derived.Test.YtnkaenfmmlahlaaOneC
namespace Go.Proofs.Ytnkaenfmmlahlaa
open Go.Conc Go.RowKit

set_option maxRecDepth 100000 in
theorem long2 (m0 m1 : Int) (a1 : Option Addr) (len1 cap1 : Nat) (w : World) (h : 100 < len1) :
    Calls Try.prog 3 #[.agg #[.int .i64 m0, .int .i64 m1], .slice a1 len1 cap1] w fun e w' => e = .returned (.bool true) ∧ Below w.heap.size w w' := by
  go_enter Try.func3, Try.ntmps3
  go_wp2_with fail
  refine (awake_any _).mono ?_
  rintro e w1 ⟨rfl, b1⟩
  have hw := (((Below.refl _ w).alloc (Nat.le_refl _) (.cells #[.int .i64 m0, .int .i64 m1] 22))).trans (b1.mono (by simp))
  clear b1
  go_wp2_with fail
  go_ret
  exact ⟨rfl, hw⟩

theorem row2 {w : World} {g : Nat} {c0 c1 : Value} {t : TypeId} (h : w.heap[g]? = some (.cells #[c0, c1] t (0, 0))) :
    w.cell? ⟨g, 0, none⟩ = some c0 ∧ w.cell? ⟨g, 1, none⟩ = some c1 := by
  refine ⟨?_, ?_⟩ <;> (rw [cell_of_row w g _ _ _ _ h]; rfl)

theorem new_any (m : Int) (w : World) : Calls Try.prog 6 #[.int .i64 m] w fun e w' => (∃ p n, e = .returned (.tuple #[.pointer p, .int .i64 n])) ∧ Below w.heap.size w w' := by
  by_cases h : 0 ≤ m ∧ m ≤ 1024
  · obtain ⟨n, rfl⟩ := Int.eq_ofNat_of_zero_le h.1
    exact (new_ok n (by omega) w).mono fun e w' ⟨h1, _, h3, _⟩ => ⟨⟨_, _, h1⟩, h3⟩
  · exact (new_bad m (by omega) w).mono fun e w' ⟨h1, h2⟩ => ⟨⟨_, _, h1⟩, h2 ▸ Below.refl _ _⟩

set_option maxRecDepth 100000 in
set_option maxHeartbeats 800000 in
theorem first_bad (m0 m1 : Int) (a1 : Option Addr) (len1 cap1 : Nat) (w : World) (hl : len1 ≤ 100) (h : m0 < 0 ∨ 1024 < m0) :
    Calls Try.prog 3 #[.agg #[.int .i64 m0, .int .i64 m1], .slice a1 len1 cap1] w fun e w' => e = .returned (.bool true) ∧ Below w.heap.size w w' := by
  rcases h with h | h
  all_goals
    go_enter Try.func3, Try.ntmps3
    go_wp2_with fail
    refine (awake_any _).mono ?_
    rintro e w1 ⟨rfl, b1⟩
    have S1 := (St.new w 22 #[.int .i64 m0, .int .i64 m1]).keep b1
    have hw := (((Below.refl _ w).alloc (Nat.le_refl _) (.cells #[.int .i64 m0, .int .i64 m1] 22))).trans (b1.mono (by simp))
    obtain ⟨r0, r1⟩ := row2 S1
    clear b1
    go_wp2_with fail
    refine (new_bad m0 (by omega) _).mono ?_
    rintro e w2 ⟨rfl, rfl⟩
    go_wp2_with fail
    refine (new_any m1 _).mono ?_
    rintro e w2 ⟨⟨p, n, rfl⟩, b2⟩
    have S2 := S1.keep b2
    have hw2 := hw.trans (b2.mono hw.size)
    clear r0 r1 S1 b2 hw
    obtain ⟨r0, r1⟩ := row2 S2
    go_wp2_with fail
    go_ret
    exact ⟨rfl, hw2⟩

set_option maxRecDepth 100000 in
set_option maxHeartbeats 800000 in
theorem second_bad (n : Nat) (m1 : Int) (a1 : Option Addr) (len1 cap1 : Nat) (w : World) (hl : len1 ≤ 100) (hn : n ≤ 1024) (h : m1 < 0 ∨ 1024 < m1) :
    Calls Try.prog 3 #[.agg #[.int .i64 n, .int .i64 m1], .slice a1 len1 cap1] w fun e w' => e = .returned (.bool true) ∧ Below w.heap.size w w' := by
  go_enter Try.func3, Try.ntmps3
  go_wp2_with fail
  refine (awake_any _).mono ?_
  rintro e w1 ⟨rfl, b1⟩
  have S1 := (St.new w 22 #[.int .i64 n, .int .i64 m1]).keep b1
  have hw := (((Below.refl _ w).alloc (Nat.le_refl _) (.cells #[.int .i64 n, .int .i64 m1] 22))).trans (b1.mono (by simp))
  obtain ⟨r0, r1⟩ := row2 S1
  clear b1
  go_wp2_with fail
  refine (new_ok n hn _).mono ?_
  rintro e w2 ⟨rfl, _, b2, _⟩
  have S2 := S1.keep b2
  have hw2 := hw.trans (b2.mono hw.size)
  clear r0 r1 S1 b2 hw
  obtain ⟨r0, r1⟩ := row2 S2
  go_wp2_with fail
  refine (new_bad m1 h _).mono ?_
  rintro e w3 ⟨rfl, rfl⟩
  go_wp2_with fail
  go_ret
  exact ⟨rfl, hw2⟩


theorem one_any {w : World} {base b c cap : Nat} {l : List Int} {sh : Bool} {lost : Nat} {a : Option Addr} {ca : Nat} (h : Both w base b c cap l sh lost a ca) (hb : base ≤ w.heap.size) (hcap : cap ≤ 1024) (hb1 : b < base) (hb2 : c < base) (hm : lost < 1000000000) (k v : Int) (ot : Bool) :
    Calls Try.prog 11 #[.pointer (some ⟨b, 0, none⟩), .agg #[.slice a l.length ca, .int .i64 cap, .int .i64 lost, .bool sh], .agg #[.int .i64 k, .int .i64 v, .bool ot]] w (OnePost base b c cap lost w) := by
  by_cases h0 : k = 0
  · subst h0
    by_cases hno : sh = true ∨ cap ≤ l.length
    · exact one_put_lost h hcap hb1 hb2 v ot hno hm
    · exact one_put_kept h hb hcap hb1 hb2 v ot (by cases sh <;> simp_all) (by omega)
  by_cases h1 : k = 1
  · subst h1; exact one_take h hb hcap hb1 hb2 v ot
  by_cases h2 : k = 2
  · subst h2; exact one_peek h hb hcap hb1 hb2 v ot
  by_cases h3 : k = 3
  · subst h3; exact one_drain h hcap hb1 hb2 v ot
  by_cases h4 : k = 4
  · subst h4; exact one_shut h hb1 hb2 v ot
  exact one_other h k v ot (by simpa using h0) (by simpa using h1) (by simpa using h2) (by simpa using h3) (by simpa using h4)

theorem FeedAt.drew {w : World} {b c cap : Nat} {l : List Int} {sh : Bool} {lost : Nat} (h : FeedAt w b c cap l sh lost) : FeedAt w.drew b c cap l sh lost := ⟨h.hb, h.hc, h.fits⟩
theorem Both.drew {w : World} {base b c cap : Nat} {l : List Int} {sh : Bool} {lost : Nat} {a : Option Addr} {ca : Nat} (h : Both w base b c cap l sh lost a ca) : Both w.drew base b c cap l sh lost a ca := ⟨h.feed.drew, h.own.drew⟩
theorem St.drew {w : World} {t g : Nat} {cs : Array Value} (h : St w t g cs) : St w.drew t g cs := h
theorem Both.keep {w w' : World} {base b c cap : Nat} {l : List Int} {sh : Bool} {lost : Nat} {a : Option Addr} {ca : Nat} (h : Both w base b c cap l sh lost a ca) (k : Below w.heap.size w w') : Both w' base b c cap l sh lost a ca := ⟨h.feed.keep k, h.own.below k⟩
theorem Both.kept {w w' : World} {base b c cap : Nat} {l : List Int} {sh : Bool} {lost : Nat} {a : Option Addr} {ca : Nat} (h : Both w base b c cap l sh lost a ca) {T : List Nat} (k : Kept T w w') (hb : b ∉ T) (hc : c ∉ T) (hT : ∀ i, i ∈ T → i < base) : Both w' base b c cap l sh lost a ca := ⟨h.feed.kept k hb hc, h.own.kept k hT⟩

/-- What is known of the calls that came in. -/
def Ops (w : World) (a : Option Addr) (len : Nat) : Prop :=
  0 < len → ∃ b off, a = some ⟨b, off, none⟩ ∧ b < w.heap.size ∧ ∀ j, j < len → ∃ (k v : Int) (ot : Bool), w.cell? ⟨b, off + j * 3, none⟩ = some (.int .i64 k) ∧ w.cell? ⟨b, off + j * 3 + 1, none⟩ = some (.int .i64 v) ∧ w.cell? ⟨b, off + j * 3 + 2, none⟩ = some (.bool ot)
/-- A feed, its picture, and the block that holds the picture. -/
def Side (wr : World) (base b c cap g k : Nat) : Prop :=
  ∃ (l : List Int) (sh : Bool) (lost : Nat) (a : Option Addr) (ca : Nat), Both wr base b c cap l sh lost a ca ∧ lost ≤ k ∧ St wr 31 g #[.slice a l.length ca, .int .i64 cap, .int .i64 lost, .bool sh]
/-- After k calls. -/
structure Play (w : World) (base b1 c1 b2 c2 n m g9 g10 k : Nat) (wr : World) : Prop where
  A : Side wr base b1 c1 n g9 k
  B : Side wr base b2 c2 m g10 k
  below : Below w.heap.size w wr
  size : base ≤ wr.heap.size
/-- Where the two pictures lie. -/
def Cut1 (w : World) (base b1 c1 b2 c2 n m : Nat) (v9 v10 : Value) (wr : World) : Prop :=
  ∃ g9 g10 : Nat, v9 = .pointer (some ⟨g9, 0, none⟩) ∧ v10 = .pointer (some ⟨g10, 0, none⟩) ∧ base ≤ g9 ∧ base ≤ g10 ∧ g9 ≠ g10 ∧ Play w base b1 c1 b2 c2 n m g9 g10 0 wr
theorem St.new1 (w : World) (o : Obj) (t : Nat) (cs : Array Value) : St ((w.alloc o).alloc (.cells cs t)) t (w.heap.size + 1) cs := by
  have := St.new (w.alloc o) t cs
  simpa only [World.size_alloc] using this
theorem start1 {w w3 : World} {base b1 c1 b2 c2 n m : Nat} (f1 : FeedAt w3 b1 c1 n [] false 0) (f2 : FeedAt w3 b2 c2 m [] false 0) (hw : Below w.heap.size w w3) (hb : base ≤ w3.heap.size) :
    Cut1 w base b1 c1 b2 c2 n m (.pointer (some ⟨w3.heap.size, 0, none⟩)) (.pointer (some ⟨w3.heap.size + 1, 0, none⟩))
      ((w3.alloc (.cells #[.slice none 0 0, .int .i64 n, .int .i64 0, .bool false] 31)).alloc (.cells #[.slice none 0 0, .int .i64 m, .int .i64 0, .bool false] 31)).drew :=
  ⟨_, _, rfl, rfl, hb, by omega, by omega, ⟨[], false, 0, none, 0, ⟨((f1.alloc _).alloc _).drew, World.ownsRow_nil _ _ _ _⟩, Nat.le_refl _, ((St.new _ _ _).alloc _).drew⟩,
    ⟨[], false, 0, none, 0, ⟨((f2.alloc _).alloc _).drew, World.ownsRow_nil _ _ _ _⟩, Nat.le_refl _, (St.new1 _ _ _ _).drew⟩, ((hw.alloc hw.size _).alloc (by simp; have := hw.size; omega) _).drew, by show base ≤ ((w3.alloc _).alloc _).heap.size; simp; omega⟩
theorem start2 {w w3 : World} {base b1 c1 b2 c2 n m : Nat} (f1 : FeedAt w3 b1 c1 n [] false 0) (f2 : FeedAt w3 b2 c2 m [] false 0) (hw : Below w.heap.size w w3) (hb : base ≤ w3.heap.size) :
    Cut1 w base b1 c1 b2 c2 n m (.pointer (some ⟨w3.heap.size + 1, 0, none⟩)) (.pointer (some ⟨w3.heap.size, 0, none⟩))
      ((w3.alloc (.cells #[.slice none 0 0, .int .i64 m, .int .i64 0, .bool false] 31)).alloc (.cells #[.slice none 0 0, .int .i64 n, .int .i64 0, .bool false] 31)).drew :=
  ⟨_, _, rfl, rfl, by omega, hb, by omega, ⟨[], false, 0, none, 0, ⟨((f1.alloc _).alloc _).drew, World.ownsRow_nil _ _ _ _⟩, Nat.le_refl _, (St.new1 _ _ _ _).drew⟩,
    ⟨[], false, 0, none, 0, ⟨((f2.alloc _).alloc _).drew, World.ownsRow_nil _ _ _ _⟩, Nat.le_refl _, ((St.new _ _ _).alloc _).drew⟩, ((hw.alloc hw.size _).alloc (by simp; have := hw.size; omega) _).drew, by show base ≤ ((w3.alloc _).alloc _).heap.size; simp; omega⟩
end Go.Proofs.Ytnkaenfmmlahlaa
