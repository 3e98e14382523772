import Derived.Test.YtjhfgiflcenjpaaDoorZBldW
import Derived.Test.YtjhfgiflcenjpaaDoorZChk
import Derived.Test.YtjhfgiflcenjpaaDoorZPSet
import Derived.Test.YtjhfgiflcenjpaaDoorZStart
namespace Go.Proofs.YtjhfgiflcenjpaaDoor
open Go.RowKit

theorem strength_any (k : Int) (w : World) :
    Calls Tryd.prog 30 #[.int .i64 k] w fun e w' => e = .returned (.int .i64 ((strT k : Nat) : Int)) ∧ w = w' := by
  by_cases h3 : k = 3
  · subst h3
    go_enter Tryd.func30, Tryd.ntmps30
    go_wp2_with fail
    go_ret
    exact ⟨rfl, rfl⟩
  by_cases h2 : k = 2
  · subst h2
    go_enter Tryd.func30, Tryd.ntmps30
    go_wp2_with fail
    go_ret
    exact ⟨rfl, rfl⟩
  have e3 : (k == 3) = false := by simpa using h3
  have e2 : (k == 2) = false := by simpa using h2
  have HZ : Hid (strT k = 2) := by show _ = _; unfold strT; rw [if_neg h3, if_neg h2]
  clear h3 h2
  go_enter Tryd.func30, Tryd.ntmps30
  go_wp2_with fail
  go_ret
  exact ⟨by rw [HZ.out]; rfl, rfl⟩

theorem TabAt.under {w w' : World} {B : Nat} (h : TabAt w) (k : Below B w w') (hB : 0 < B) : TabAt w' := fun j hj => (k.cell (p := ⟨0, j, none⟩) hB).trans (h j hj)
/-- What stands while a writer writes. -/
structure Wrt (base b : Nat) (a : Option Addr) (n cap : Nat) (r : List Pc) (l : List Nat) (w : World) : Prop where
  wr : Wr base b (.slice a n cap) l w
  low : base ≤ w.heap.size
  gb : 0 < base
  tab : TabAt w
  rx : ∀ g off, a = some ⟨g, off, none⟩ → g < base
  at_ : RxAt w a r
theorem Wrt.go {base b : Nat} {a : Option Addr} {n cap : Nat} {r : List Pc} {l m : List Nat} {w w' : World} (h : Wrt base b a n cap r l w) (h1 : Wr base b (.slice a n cap) m w') (h2 : Below base w w') : Wrt base b a n cap r m w' := by
  refine ⟨h1, Nat.le_trans h.low h2.size, h.gb, h.tab.under h2 h.gb, h.rx, ?_⟩
  intro h0
  obtain ⟨g, off, rfl, hg, hc⟩ := h.at_ h0
  have hg' := h.rx g off rfl
  have := h2.size
  exact ⟨g, off, rfl, by omega, fun j hj => (h2.cell (p := ⟨g, off + j, none⟩) hg').trans (hc j hj)⟩
theorem Wrt.keep {base b : Nat} {a : Option Addr} {n cap : Nat} {r : List Pc} {l : List Nat} {w w' : World} (h : Wrt base b a n cap r l w) (k : Below w.heap.size w w') : Wrt base b a n cap r l w' := h.go (h.wr.keep k) (k.mono h.low)
theorem Wrt.byte {base b : Nat} {a : Option Addr} {n cap : Nat} {r : List Pc} {l : List Nat} {w : World} (h : Wrt base b a n cap r l w) (c : Nat) (hl : l.length ≤ 10000000) :
    Calls Tryd.prog 32 #[.pointer (some ⟨b, 1, none⟩), .int .u8 c] w fun e w' => e = .returned .nilIface ∧ Wrt base b a n cap r (l ++ [c]) w' ∧ Below base w w' ∧ Lib.OthersKept 5 (some b) w w' := by
  refine (wbyte_any base b _ l c w h.wr (by omega) h.low).mono ?_
  rintro e w' ⟨rfl, h1, h2, h3⟩
  exact ⟨rfl, h.go h1 h2, h2, h3⟩
theorem Wrt.text {base b : Nat} {a : Option Addr} {n cap : Nat} {r : List Pc} {l : List Nat} {w : World} (h : Wrt base b a n cap r l w) (m : List Nat) (hm : ∀ n ∈ m, n < 256) (hl : l.length ≤ 10000000) (hl2 : m.length ≤ 10000000) :
    Calls Tryd.prog 41 #[.pointer (some ⟨b, 1, none⟩), .string (strOf m)] w fun e w' => e = .returned (.tuple #[.int .i64 ((m.length : Nat) : Int), .nilIface]) ∧ Wrt base b a n cap r (l ++ m) w' ∧ Below base w w' ∧ Lib.OthersKept 5 (some b) w w' := by
  refine (wwrite_any base b _ l m w h.wr hm (by omega) h.low).mono ?_
  rintro e w' ⟨rfl, h1, h2, h3⟩
  exact ⟨rfl, h.go h1 h2, h2, h3⟩

/-- What writing an expression's text does. -/
def Writes (base b : Nat) (a : Option Addr) (n cap : Nat) (r : List Pc) (l m : List Nat) (w : World) (e : Ending) (w' : World) : Prop :=
  e = .returned (.tuple #[]) ∧ Wrt base b a n cap r (l ++ m) w' ∧ Below base w w' ∧ Lib.OthersKept 5 (some b) w w'
/-- .. of the expression t that ends at a place. -/
def ExprOk (t : Rx) : Prop := ∀ (base b : Nat) (a : Option Addr) (n cap : Nat) (u v : List Pc) (l : List Nat) (w : World) (i : Nat), n ≤ 1000 → (u ++ (t.flat ++ v)).length = n → i + 1 = u.length + t.flat.length → Wrt base b a n cap (u ++ (t.flat ++ v)) l w → l.length + 3000 * t.flat.length ≤ 9000000 →
  Calls Tryd.prog 31 #[.pointer (some ⟨b, 0, none⟩), .int .i64 i] w (Writes base b a n cap (u ++ (t.flat ++ v)) l (showT t) w)

theorem top_at (u v : List Pc) (t : Rx) (i : Nat) (hi : i + 1 = u.length + t.flat.length) : ∃ h : i < (u ++ (t.flat ++ v)).length, (u ++ (t.flat ++ v))[i] = t.top := by
  have h0 := t.flat_pos
  refine ⟨by simp; omega, ?_⟩
  have h1 := t.flat_top
  rw [List.getElem_append_right (by omega), List.getElem_append_left (by omega)]
  have e : i - u.length = t.flat.length - 1 := by omega
  have h2 := (List.getElem?_eq_some_iff.1 h1).2
  simpa [e] using h2

set_option maxHeartbeats 4000000 in
set_option maxRecDepth 100000 in
theorem operand_any (t : Rx) (hx : ExprOk t) (base b : Nat) (a : Option Addr) (n cap : Nat) (u v : List Pc) (l : List Nat) (w : World) (i d : Nat) (hn : n ≤ 1000) (hlen : (u ++ (t.flat ++ v)).length = n) (hi : i + 1 = u.length + t.flat.length) (hw : Wrt base b a n cap (u ++ (t.flat ++ v)) l w) (hl : l.length + 3000 * t.flat.length + 2 ≤ 9000000) :
    Calls Tryd.prog 22 #[.pointer (some ⟨b, 0, none⟩), .int .i64 i, .int .i64 d] w (Writes base b a n cap (u ++ (t.flat ++ v)) l (parT (decide (strT t.top.k < d)) (showT t)) w) := by
  obtain ⟨hil, htop⟩ := top_at u v t i hi
  obtain ⟨g, off, rfl, hg, c0, -⟩ := hw.at_.get i hil
  rw [htop] at c0
  have cr := hw.wr.read
  have hb := hw.wr.lt
  have hin : i < n := by omega
  have HX := Lib.hid hx
  have HW := Lib.hid hw
  have HL := Lib.hid hlen
  have HE := Lib.hid hi
  have hfl := showT_len t
  unfold Writes
  generalize hrr : u ++ (t.flat ++ v) = rr at HW
  obtain ⟨s, hs⟩ : ∃ s, strT t.top.k = s := ⟨_, rfl⟩
  have HS := Lib.hid hs
  have HR := Lib.hid hrr
  clear hx hw hlen hi htop hil hs hrr
  go_enter Tryd.func22, Tryd.ntmps22
  go_wp2_with fail
  refine (strength_any _ _).mono ?_
  rintro e w1 ⟨rfl, rfl⟩
  rw [HS.out]
  by_cases hd : d ≤ s
  · have HZ : Hid (parT (decide (s < d)) (showT t) = showT t) := by show _ = _; rw [decide_eq_false (by omega)]; rfl
    go_wp2_with fail
    refine (HX.out base b _ n cap u v l _ i hn HL.out HE.out (by rw [HR.out]; exact HW.out) (by omega)).mono ?_
    rintro e w2 ⟨rfl, h2, b2, o2⟩
    rw [HR.out] at h2
    go_wp2_with fail
    refine bodyPost_ret (results_none rfl _ _ _) rfl ?_
    exact ⟨rfl, by rw [HS.out, HZ.out]; exact h2, b2, o2⟩
  · have HZ : Hid (parT (decide (s < d)) (showT t) = 40 :: (showT t ++ [41])) := by show _ = _; rw [decide_eq_true (by omega)]; rfl
    go_wp2_with fail
    refine (HW.out.byte 40 (by omega)).mono ?_
    rintro e w2 ⟨rfl, h2, b2, o2⟩
    go_wp2_with fail
    refine (HX.out base b _ n cap u v (l ++ [40]) _ i hn HL.out HE.out (by rw [HR.out]; exact h2) (by simp; omega)).mono ?_
    rintro e w3 ⟨rfl, h3, b3, o3⟩
    rw [HR.out] at h3
    go_wp2_with fail
    refine (h3.byte 41 (by simp; omega)).mono ?_
    rintro e w4 ⟨rfl, h4, b4, o4⟩
    go_wp2_with fail
    go_end0
    exact ⟨rfl, by rw [HS.out, HZ.out]; simpa using h4, (b2.trans b3).trans b4, (o2.trans o3).trans o4⟩
end Go.Proofs.YtjhfgiflcenjpaaDoor

namespace Go.Proofs.YtjhfgiflcenjpaaDoor
open Go.RowKit
set_option linter.unusedVariables false

/-- What an expression's writing begins with. -/
structure Begins (base b : Nat) (a : Option Addr) (n cap : Nat) (rr : List Pc) (l : List Nat) (w : World) (i : Nat) (x : Pc) : Prop where
  hw : Wrt base b a n cap rr l w
  hi : i < n
  cells : ∃ g off, a = some ⟨g, off, none⟩ ∧ w.cell? ⟨g, off + i * 5, none⟩ = some (.int .i64 x.k) ∧ w.cell? ⟨g, off + i * 5 + 1, none⟩ = some (.int .u64 ((wd x.p 0 : Nat) : Int)) ∧ w.cell? ⟨g, off + i * 5 + 2, none⟩ = some (.int .u64 ((wd x.p 1 : Nat) : Int)) ∧ w.cell? ⟨g, off + i * 5 + 3, none⟩ = some (.int .u64 ((wd x.p 2 : Nat) : Int)) ∧ w.cell? ⟨g, off + i * 5 + 4, none⟩ = some (.int .u64 ((wd x.p 3 : Nat) : Int))
theorem begins {base b : Nat} {a : Option Addr} {n cap : Nat} {u v : List Pc} {t : Rx} {l : List Nat} {w : World} {i : Nat} (hlen : (u ++ (t.flat ++ v)).length = n) (hi : i + 1 = u.length + t.flat.length) (hw : Wrt base b a n cap (u ++ (t.flat ++ v)) l w) :
    Begins base b a n cap (u ++ (t.flat ++ v)) l w i t.top := by
  obtain ⟨hil, htop⟩ := top_at u v t i hi
  obtain ⟨g, off, rfl, hg, c0, c1, c2, c3, c4⟩ := hw.at_.get i hil
  rw [htop] at c0 c1 c2 c3 c4
  exact ⟨hw, by omega, g, off, rfl, c0, c1, c2, c3, c4⟩
/-- The block of a piece, and what is written, side by side. -/
theorem st5 {w : World} {g : Nat} {x : Pc} (h : St w 35 g #[.int .i64 x.k, .int .u64 ((wd x.p 0 : Nat) : Int), .int .u64 ((wd x.p 1 : Nat) : Int), .int .u64 ((wd x.p 2 : Nat) : Int), .int .u64 ((wd x.p 3 : Nat) : Int)]) : w.cell? ⟨g, 0, none⟩ = some (.int .i64 x.k) ∧ w.cell? ⟨g, 1, none⟩ = some (.int .u64 ((wd x.p 0 : Nat) : Int)) ∧ w.cell? ⟨g, 2, none⟩ = some (.int .u64 ((wd x.p 1 : Nat) : Int)) ∧ w.cell? ⟨g, 3, none⟩ = some (.int .u64 ((wd x.p 2 : Nat) : Int)) ∧ w.cell? ⟨g, 4, none⟩ = some (.int .u64 ((wd x.p 3 : Nat) : Int)) := by
  have h : w.heap[g]? = some (.cells #[.int .i64 x.k, .int .u64 ((wd x.p 0 : Nat) : Int), .int .u64 ((wd x.p 1 : Nat) : Int), .int .u64 ((wd x.p 2 : Nat) : Int), .int .u64 ((wd x.p 3 : Nat) : Int)] 35 (0, 0)) := h
  refine ⟨?_, ?_, ?_, ?_, ?_⟩ <;> (rw [cell_of_row w g _ _ _ _ h]; rfl)

set_option maxHeartbeats 4000000 in
set_option maxRecDepth 100000 in
theorem expr_none (base b : Nat) (a : Option Addr) (n cap : Nat) (rr : List Pc) (l : List Nat) (w : World) (i : Nat) (x : Pc) (hn : n ≤ 1000) (hB : Begins base b a n cap rr l w i x) (hk : x.k = 0) (hl : l.length ≤ 9000000) :
    Calls Tryd.prog 31 #[.pointer (some ⟨b, 0, none⟩), .int .i64 i] w (Writes base b a n cap rr l [126] w) := by
  obtain ⟨hw, hi, g, off, rfl, c0, c1, c2, c3, c4⟩ := hB
  rw [hk] at c0
  have cr := hw.wr.read
  have hb := hw.wr.lt
  have HW := Lib.hid (hw.keep ((Below.refl _ w).alloc (Nat.le_refl _) (.cells #[.int .i64 0, .int .u64 ((wd x.p 0 : Nat) : Int), .int .u64 ((wd x.p 1 : Nat) : Int), .int .u64 ((wd x.p 2 : Nat) : Int), .int .u64 ((wd x.p 3 : Nat) : Int)] 35)))
  have HB := Lib.hid ((Below.refl base w).alloc hw.low (.cells #[.int .i64 0, .int .u64 ((wd x.p 0 : Nat) : Int), .int .u64 ((wd x.p 1 : Nat) : Int), .int .u64 ((wd x.p 2 : Nat) : Int), .int .u64 ((wd x.p 3 : Nat) : Int)] 35))
  have HO := Lib.hid ((Lib.OthersKept.refl 5 (some b) w).alloc (.cells #[.int .i64 0, .int .u64 ((wd x.p 0 : Nat) : Int), .int .u64 ((wd x.p 1 : Nat) : Int), .int .u64 ((wd x.p 2 : Nat) : Int), .int .u64 ((wd x.p 3 : Nat) : Int)] 35))
  unfold Writes
  clear hw hk
  go_enter Tryd.func31, Tryd.ntmps31
  go_wp2_with fail
  refine (HW.out.byte 126 (by omega)).mono ?_
  rintro e w2 ⟨rfl, h2, b2, o2⟩
  go_wp2_with fail
  go_end0
  exact ⟨rfl, h2, HB.out.trans b2, HO.out.trans o2⟩

set_option maxHeartbeats 4000000 in
set_option maxRecDepth 100000 in
theorem expr_one (base b : Nat) (a : Option Addr) (n cap : Nat) (rr : List Pc) (l : List Nat) (w : World) (i : Nat) (x : Pc) (hn : n ≤ 1000) (hB : Begins base b a n cap rr l w i x) (hk : x.k = 1) (hl : l.length ≤ 9000000) :
    Calls Tryd.prog 31 #[.pointer (some ⟨b, 0, none⟩), .int .i64 i] w (Writes base b a n cap rr l (setT x.p) w) := by
  obtain ⟨hw, hi, g, off, rfl, c0, c1, c2, c3, c4⟩ := hB
  rw [hk] at c0
  have cr := hw.wr.read
  have hb := hw.wr.lt
  have HW := Lib.hid (hw.keep ((Below.refl _ w).alloc (Nat.le_refl _) (.cells #[.int .i64 1, .int .u64 ((wd x.p 0 : Nat) : Int), .int .u64 ((wd x.p 1 : Nat) : Int), .int .u64 ((wd x.p 2 : Nat) : Int), .int .u64 ((wd x.p 3 : Nat) : Int)] 35)))
  have HB := Lib.hid ((Below.refl base w).alloc hw.low (.cells #[.int .i64 1, .int .u64 ((wd x.p 0 : Nat) : Int), .int .u64 ((wd x.p 1 : Nat) : Int), .int .u64 ((wd x.p 2 : Nat) : Int), .int .u64 ((wd x.p 3 : Nat) : Int)] 35))
  have HO := Lib.hid ((Lib.OthersKept.refl 5 (some b) w).alloc (.cells #[.int .i64 1, .int .u64 ((wd x.p 0 : Nat) : Int), .int .u64 ((wd x.p 1 : Nat) : Int), .int .u64 ((wd x.p 2 : Nat) : Int), .int .u64 ((wd x.p 3 : Nat) : Int)] 35))
  have HS := Lib.hid (st5 (St.new w 35 #[.int .i64 1, .int .u64 ((wd x.p 0 : Nat) : Int), .int .u64 ((wd x.p 1 : Nat) : Int), .int .u64 ((wd x.p 2 : Nat) : Int), .int .u64 ((wd x.p 3 : Nat) : Int)]) (x := ⟨1, x.p⟩))
  have HV := Lib.hid (setT_lt x.p)
  have HVL := Lib.hid (setT_len x.p)
  unfold Writes
  have hlow := hw.low
  clear hw hk
  go_enter Tryd.func31, Tryd.ntmps31
  go_wp2_with fail
  generalize w.alloc (.cells #[.int .i64 1, .int .u64 ((wd x.p 0 : Nat) : Int), .int .u64 ((wd x.p 1 : Nat) : Int), .int .u64 ((wd x.p 2 : Nat) : Int), .int .u64 ((wd x.p 3 : Nat) : Int)] 35) = W2 at HW HB HO HS ⊢
  clear c0 c1 c2 c3 c4
  obtain ⟨-, c1, c2, c3, c4⟩ := HS.out
  have hh : Wrt base b (some ⟨g, off, none⟩) n cap rr l W2.drew := HW.out.keep (Below.refl _ _).drew
  have hb2 : Below base w W2.drew := HB.out.drew
  have ho2 : Lib.OthersKept 5 (some b) w W2.drew := HO.out.drew
  clear HW HB HO HS
  go_region_with (first
    | (go_at_call 42; refine (setText_any x.p _ hh.tab).mono ?_; rintro e w5 ⟨rfl, b5⟩; have hb5 := hb2.trans (b5.mono hh.low); have ho5 := others_below ho2 b5; have hh5 := hh.keep b5)
    | (go_at_call 41; refine (hh5.text _ HV.out (by omega) (by have := HVL.out; omega)).mono ?_; rintro e w6 ⟨rfl, hh6, b6, o6⟩))
  all_goals
    go_wp2_with fail
    go_end0
    exact ⟨rfl, hh6, hb5.trans b6, ho5.trans o6⟩
end Go.Proofs.YtjhfgiflcenjpaaDoor

namespace Go.Proofs.YtjhfgiflcenjpaaDoor
open Go.RowKit
set_option linter.unusedVariables false

set_option maxHeartbeats 1000000 in
set_option maxRecDepth 100000 in
theorem expr_un (base b : Nat) (a : Option Addr) (n cap : Nat) (rr : List Pc) (l : List Nat) (w : World) (i q : Nat) (hq : q = i + 1) (x : Pc) (t : Rx) (u v : List Pc) (hn : n ≤ 1000) (hB : Begins base b a n cap rr l w q x) (hk : takesZ x.k = 1) (ht : ExprOk t)
    (hr : u ++ (t.flat ++ v) = rr) (hlen : rr.length = n) (hi : i + 1 = u.length + t.flat.length) (hl : l.length + 3000 * t.flat.length + 2 ≤ 8998000) :
    Calls Tryd.prog 31 #[.pointer (some ⟨b, 0, none⟩), .int .i64 q] w (Writes base b a n cap rr l (parT (decide (strT t.top.k < 2)) (showT t) ++ [signT x.k]) w) := by
  obtain ⟨hw, hi1, g, off, rfl, c0, c1, c2, c3, c4⟩ := hB
  have cr := hw.wr.read
  have hb := hw.wr.lt
  have HW := Lib.hid (hw.keep ((Below.refl _ w).alloc (Nat.le_refl _) (.cells #[.int .i64 x.k, .int .u64 ((wd x.p 0 : Nat) : Int), .int .u64 ((wd x.p 1 : Nat) : Int), .int .u64 ((wd x.p 2 : Nat) : Int), .int .u64 ((wd x.p 3 : Nat) : Int)] 35)))
  have HB := Lib.hid ((Below.refl base w).alloc hw.low (.cells #[.int .i64 x.k, .int .u64 ((wd x.p 0 : Nat) : Int), .int .u64 ((wd x.p 1 : Nat) : Int), .int .u64 ((wd x.p 2 : Nat) : Int), .int .u64 ((wd x.p 3 : Nat) : Int)] 35))
  have HO := Lib.hid ((Lib.OthersKept.refl 5 (some b) w).alloc (.cells #[.int .i64 x.k, .int .u64 ((wd x.p 0 : Nat) : Int), .int .u64 ((wd x.p 1 : Nat) : Int), .int .u64 ((wd x.p 2 : Nat) : Int), .int .u64 ((wd x.p 3 : Nat) : Int)] 35))
  have HS := Lib.hid (St.new w 35 #[.int .i64 x.k, .int .u64 ((wd x.p 0 : Nat) : Int), .int .u64 ((wd x.p 1 : Nat) : Int), .int .u64 ((wd x.p 2 : Nat) : Int), .int .u64 ((wd x.p 3 : Nat) : Int)])
  have HT := Lib.hid ht
  have HR := Lib.hid hr
  have HI := Lib.hid hi
  have HL := Lib.hid hlen
  have hpl := parT_len (decide (strT t.top.k < 2)) (showT t)
  have hsl := showT_len t
  unfold Writes
  have hlow := hw.low
  have hk3 : x.k = 4 ∨ x.k = 5 ∨ x.k = 6 := by have := takesZ_cases x.k; omega
  have e0 : (x.k == 0) = false := by simp; omega
  have e1 : (x.k == 1) = false := by simp; omega
  have e2 : (x.k == 2) = false := by simp; omega
  have e3 : (x.k == 3) = false := by simp; omega
  have ei : (q : Int) - 1 = (i : Int) := by omega
  have hi0 : i < n := by omega
  have hq1 : 1 ≤ q := by omega
  clear hw hk ht hr hlen hq hi
  go_enter Tryd.func31, Tryd.ntmps31
  go_wp2_with fail
  refine (operand_any t HT.out base b _ n cap u v l _ i 2 hn (by rw [HR.out]; exact HL.out) HI.out (by rw [HR.out]; exact HW.out) (by omega)).mono ?_
  rintro e w2 ⟨rfl, h2, b2, o2⟩
  rw [HR.out] at h2
  have s2 := HS.out.others o2 (by omega) (by decide)
  obtain ⟨d0, -⟩ := st5 s2
  have hh : Wrt base b (some ⟨g, off, none⟩) n cap rr (l ++ parT (decide (strT t.top.k < 2)) (showT t)) w2.drew := h2.keep (Below.refl _ _).drew
  have hb2 : Below base w w2.drew := (HB.out.trans b2).drew
  have ho2 : Lib.OthersKept 5 (some b) w w2.drew := (HO.out.trans o2).drew
  have hwb := h2.wr.lt
  clear h2 b2 o2 s2 HW HB HO HS HT HR HI HL c0 c1 c2 c3 c4
  generalize hm : parT (decide (strT t.top.k < 2)) (showT t) = m at hh hpl
  have HM := Lib.hid hm
  clear hm
  go_wp2_with fail
  rcases hk3 with h | h | h
  all_goals
    rw [h] at d0
    have HK := Lib.hid h
    clear h e0 e1 e2 e3
    go_region_with (first
      | (go_at_call 32; refine (hh.byte _ (by simp; omega)).mono ?_; rintro e w6 ⟨rfl, hh6, b6, o6⟩))
    all_goals
      go_wp2_with fail
      go_end0
      exact ⟨rfl, by rw [← List.append_assoc, HK.out, HM.out]; exact hh6, hb2.trans b6, ho2.trans o6⟩
end Go.Proofs.YtjhfgiflcenjpaaDoor

namespace Go.Proofs.YtjhfgiflcenjpaaDoor
open Go.RowKit
set_option linter.unusedVariables false

set_option maxHeartbeats 1000000 in
set_option maxRecDepth 100000 in
theorem expr_bin (base b : Nat) (a : Option Addr) (n cap : Nat) (rr : List Pc) (l : List Nat) (w : World) (i j q : Nat) (hq : q = i + 1) (x : Pc) (s t : Rx) (u v : List Pc) (hn : n ≤ 1000) (hB : Begins base b a n cap rr l w q x) (hk : takesZ x.k = 2) (hs : ExprOk s) (ht : ExprOk t) (htw : t.wf)
    (hr : u ++ (s.flat ++ (t.flat ++ v)) = rr) (hlen : rr.length = n) (hj : j + 1 = u.length + s.flat.length) (hi : i = j + t.flat.length) (hl : l.length + 3000 * s.flat.length + 3000 * t.flat.length + 6 ≤ 8998000) :
    Calls Tryd.prog 31 #[.pointer (some ⟨b, 0, none⟩), .int .i64 q] w (Writes base b a n cap rr l (if x.k = 2 then parT (decide (strT s.top.k < 1)) (showT s) ++ parT (decide (strT t.top.k < 2)) (showT t) else showT s ++ 124 :: parT (decide (strT t.top.k < 1)) (showT t)) w) := by
  obtain ⟨hw, hi1, g, off, rfl, c0, c1, c2, c3, c4⟩ := hB
  have cr := hw.wr.read
  have hb := hw.wr.lt
  have htp := t.flat_pos
  have hr2 : (u ++ s.flat) ++ (t.flat ++ v) = rr := by rw [← hr, List.append_assoc]
  have hst : startT rr i = j + 1 := by rw [← hr2, startT_tree (u ++ s.flat) v t htw i (by simp; omega)]; simp; omega
  obtain ⟨p, hp⟩ : ∃ p, startT rr i = p := ⟨_, rfl⟩
  have HSt := Lib.hid hp
  have ei : (q : Int) - 1 = (i : Int) := by omega
  have ej : (p : Int) - 1 = (j : Int) := by omega
  have hq1 : 1 ≤ q := by omega
  have hp1 : 1 ≤ p := by omega
  have hpn : p ≤ n := by omega
  have hsl := showT_len s
  have hsl2 := showT_len t
  have hin : i < n := by omega
  unfold Writes
  rcases (by have := takesZ_cases x.k; omega : x.k = 2 ∨ x.k = 3) with h | h
  · rw [h] at c0
    have HW := Lib.hid (hw.keep ((Below.refl _ w).alloc (Nat.le_refl _) (.cells #[.int .i64 2, .int .u64 ((wd x.p 0 : Nat) : Int), .int .u64 ((wd x.p 1 : Nat) : Int), .int .u64 ((wd x.p 2 : Nat) : Int), .int .u64 ((wd x.p 3 : Nat) : Int)] 35)))
    have HB := Lib.hid ((Below.refl base w).alloc hw.low (.cells #[.int .i64 2, .int .u64 ((wd x.p 0 : Nat) : Int), .int .u64 ((wd x.p 1 : Nat) : Int), .int .u64 ((wd x.p 2 : Nat) : Int), .int .u64 ((wd x.p 3 : Nat) : Int)] 35))
    have HO := Lib.hid ((Lib.OthersKept.refl 5 (some b) w).alloc (.cells #[.int .i64 2, .int .u64 ((wd x.p 0 : Nat) : Int), .int .u64 ((wd x.p 1 : Nat) : Int), .int .u64 ((wd x.p 2 : Nat) : Int), .int .u64 ((wd x.p 3 : Nat) : Int)] 35))
    have hpl := parT_len (decide (strT s.top.k < 1)) (showT s)
    have HS := Lib.hid hs
    have HT := Lib.hid ht
    have HR := Lib.hid hr
    have HR2 := Lib.hid hr2
    have HJ := Lib.hid hj
    have HI : Hid (i + 1 = (u ++ s.flat).length + t.flat.length) := by show _ = _; simp; omega
    have HL := Lib.hid hlen
    have cr2 := HW.out.wr.read
    rw [if_pos h]
    clear hw hk ht hs hr hr2 hlen hst htw h hj hi hq hp
    go_enter Tryd.func31, Tryd.ntmps31
    go_wp2_with fail
    refine (start_any rr _ n cap _ HW.out.at_ HL.out (by omega) i hin).mono ?_
    rintro e w2 ⟨rfl, rfl⟩
    rw [HSt.out]
    go_wp2_with fail
    refine (operand_any s HS.out base b _ n cap u (t.flat ++ v) l _ j 1 hn (by rw [HR.out]; exact HL.out) HJ.out (by rw [HR.out]; exact HW.out) (by omega)).mono ?_
    rintro e w2 ⟨rfl, h2, b2, o2⟩
    rw [HR.out] at h2
    go_wp2_with fail
    refine (operand_any t HT.out base b _ n cap (u ++ s.flat) v _ _ i 2 hn (by rw [HR2.out]; exact HL.out) HI.out (by rw [HR2.out]; exact h2) (by rw [List.length_append]; omega)).mono ?_
    rintro e w3 ⟨rfl, h3, b3, o3⟩
    rw [HR2.out] at h3
    go_wp2_with fail
    go_end0
    exact ⟨rfl, by rw [← List.append_assoc]; exact h3, (HB.out.trans b2).trans b3, (HO.out.trans o2).trans o3⟩
  · rw [h] at c0
    have HW := Lib.hid (hw.keep ((Below.refl _ w).alloc (Nat.le_refl _) (.cells #[.int .i64 3, .int .u64 ((wd x.p 0 : Nat) : Int), .int .u64 ((wd x.p 1 : Nat) : Int), .int .u64 ((wd x.p 2 : Nat) : Int), .int .u64 ((wd x.p 3 : Nat) : Int)] 35)))
    have HB := Lib.hid ((Below.refl base w).alloc hw.low (.cells #[.int .i64 3, .int .u64 ((wd x.p 0 : Nat) : Int), .int .u64 ((wd x.p 1 : Nat) : Int), .int .u64 ((wd x.p 2 : Nat) : Int), .int .u64 ((wd x.p 3 : Nat) : Int)] 35))
    have HO := Lib.hid ((Lib.OthersKept.refl 5 (some b) w).alloc (.cells #[.int .i64 3, .int .u64 ((wd x.p 0 : Nat) : Int), .int .u64 ((wd x.p 1 : Nat) : Int), .int .u64 ((wd x.p 2 : Nat) : Int), .int .u64 ((wd x.p 3 : Nat) : Int)] 35))
    have HS := Lib.hid hs
    have HT := Lib.hid ht
    have HR := Lib.hid hr
    have HR2 := Lib.hid hr2
    have HJ := Lib.hid hj
    have HI : Hid (i + 1 = (u ++ s.flat).length + t.flat.length) := by show _ = _; simp; omega
    have HL := Lib.hid hlen
    have cr2 := HW.out.wr.read
    have HP : Hid (parT (decide (strT s.top.k < 0)) (showT s) = showT s) := by show _ = _; rw [decide_eq_false (by omega)]; rfl
    rw [if_neg (by omega)]
    clear hw hk ht hs hr hr2 hlen hst htw h hj hi hq hp
    go_enter Tryd.func31, Tryd.ntmps31
    go_wp2_with fail
    refine (start_any rr _ n cap _ HW.out.at_ HL.out (by omega) i hin).mono ?_
    rintro e w2 ⟨rfl, rfl⟩
    rw [HSt.out]
    go_wp2_with fail
    refine (operand_any s HS.out base b _ n cap u (t.flat ++ v) l _ j 0 hn (by rw [HR.out]; exact HL.out) HJ.out (by rw [HR.out]; exact HW.out) (by omega)).mono ?_
    rintro e w2 ⟨rfl, h2, b2, o2⟩
    rw [HR.out, HP.out] at h2
    go_wp2_with fail
    refine (h2.byte 124 (by rw [List.length_append]; omega)).mono ?_
    rintro e w3 ⟨rfl, h3, b3, o3⟩
    go_wp2_with fail
    refine (operand_any t HT.out base b _ n cap (u ++ s.flat) v _ _ i 1 hn (by rw [HR2.out]; exact HL.out) HI.out (by rw [HR2.out]; exact h3) (by rw [List.length_append, List.length_append]; simp only [List.length_singleton]; omega)).mono ?_
    rintro e w4 ⟨rfl, h4, b4, o4⟩
    rw [HR2.out] at h4
    go_wp2_with fail
    go_end0
    exact ⟨rfl, by simpa using h4, ((HB.out.trans b2).trans b3).trans b4, ((HO.out.trans o2).trans o3).trans o4⟩
end Go.Proofs.YtjhfgiflcenjpaaDoor

namespace Go.Proofs.YtjhfgiflcenjpaaDoor
open Go.RowKit
set_option linter.unusedVariables false

/-- Writing any expression's text. -/
theorem expr_any (t : Rx) (hw : t.wf) : ExprOk t := by
  induction t with
  | leaf x =>
    intro base b a n cap u v l w i hn hlen hi hW hl
    have hB := begins hlen hi hW
    have hk : x.k = 0 ∨ x.k = 1 := by have := takesZ_cases x.k; have := hw.1; omega
    rcases hk with h | h
    · have := expr_none base b a n cap _ l w i x hn hB h (by omega)
      simp only [showT, if_neg (by omega : ¬ x.k = 1)]
      exact this
    · have := expr_one base b a n cap _ l w i x hn hB h (by omega)
      simp only [showT, if_pos h]
      exact this
  | un x s ih =>
    intro base b a n cap u v l w i hn hlen hi hW hl
    have hB := begins hlen hi hW
    have hp := s.flat_pos
    have e : u ++ ((Rx.un x s).flat ++ v) = u ++ (s.flat ++ ([x] ++ v)) := by simp [Rx.flat]
    have hf : (Rx.un x s).flat.length = s.flat.length + 1 := by simp [Rx.flat]
    have := expr_un base b a n cap _ l w (i - 1) i (by omega) x s u ([x] ++ v) hn hB hw.1 (ih hw.2.2) e.symm hlen (by omega) (by omega)
    exact this
  | bin x s t ihs iht =>
    intro base b a n cap u v l w i hn hlen hi hW hl
    have hB := begins hlen hi hW
    have hp := s.flat_pos
    have hp2 := t.flat_pos
    have e : u ++ ((Rx.bin x s t).flat ++ v) = u ++ (s.flat ++ (t.flat ++ ([x] ++ v))) := by simp [Rx.flat]
    have hf : (Rx.bin x s t).flat.length = s.flat.length + (t.flat.length + 1) := by simp [Rx.flat]
    have := expr_bin base b a n cap _ l w (i - 1) (u.length + s.flat.length - 1) i (by omega) x s t u ([x] ++ v) hn hB hw.1 (ihs hw.2.2.1) (iht hw.2.2.2) hw.2.2.2 e.symm hlen (by omega) (by omega) (by omega)
    exact this

set_option maxHeartbeats 1000000 in
set_option maxRecDepth 100000 in
/-- The text of an expression. -/
theorem show_any (t : Rx) (ht : t.wf) (a : Option Addr) (n cap : Nat) (w : World) (hL : RxAt w a t.flat) (hn : t.flat.length = n) (hmax : n ≤ 400) (hT : TabAt w) (hg : 0 < w.heap.size) (hc : chkT t.flat = 0) :
    Calls Tryd.prog 9 #[.slice a n cap] w fun e w' => e = .returned (.string (strOf (showT t))) ∧ Below w.heap.size w w' := by
  have hp := t.flat_pos
  have HC := Lib.hid hc
  have HL := Lib.hid hL
  have HN := Lib.hid hn
  have HX := Lib.hid (expr_any t ht)
  have HP : Hid (parT (decide (strT t.top.k < 0)) (showT t) = showT t) := by show _ = _; rw [decide_eq_false (by omega)]; rfl
  have hra : ∀ g off, a = some ⟨g, off, none⟩ → g < w.heap.size := by
    intro g off e
    obtain ⟨g', off', e', hg', _⟩ := hL hp
    rw [e] at e'
    simp at e'
    omega
  have HRA := Lib.hid hra
  have en : (n : Int) - 1 = ((n - 1 : Nat) : Int) := by omega
  clear hc hL hra hn
  obtain ⟨m, hm⟩ : ∃ m, n - 1 = m := ⟨_, rfl⟩
  have hm1 : m + 1 = n := by omega
  rw [hm] at en
  clear hm
  go_enter Tryd.func9, Tryd.ntmps9
  go_wp2_with fail
  refine (check_any t.flat a n cap _ HL.out HN.out (by unfold maxLen; omega)).mono ?_
  rintro e w1 ⟨rfl, b1⟩
  rw [HC.out]
  have hT1 := hT.keep b1
  have hL1 := HL.out.below b1
  have hsz := b1.size
  clear HC
  have hwr : Wrt w1.heap.size w1.heap.size a n cap t.flat [] (w1.alloc (.cells #[.slice a n cap, .pointer none, .slice none 0 0] 53)) := by
    have k : Below w1.heap.size w1 (w1.alloc (.cells #[.slice a n cap, .pointer none, .slice none 0 0] 53)) := (Below.refl _ _).alloc (Nat.le_refl _) _
    exact ⟨Wr.new w1 _, by simp, by omega, hT1.keep k, fun g off e => by have := HRA.out g off e; omega, hL1.below k⟩
  have hb1 : Below w.heap.size w (w1.alloc (.cells #[.slice a n cap, .pointer none, .slice none 0 0] 53)) := b1.alloc hsz _
  have HW := Lib.hid hwr
  clear hwr b1 hL1 hT1
  go_wp2_with fail
  refine (operand_any t HX.out w1.heap.size w1.heap.size a n cap [] [] [] _ m 0 (by omega) (by simpa using HN.out) (by rw [HN.out]; simp; omega) (by simpa using HW.out) (by rw [HN.out]; simp; omega)).mono ?_
  rintro e w2 ⟨rfl, h2, b2, -⟩
  rw [HP.out, List.nil_append] at h2
  have hb2 := hb1.trans (b2.mono hsz)
  go_wp2_with fail
  refine (wtext_any w1.heap.size w1.heap.size _ (showT t) w2 h2.wr (showT_lt t) (showT_pos t)).mono ?_
  rintro e w3 ⟨rfl, b3⟩
  go_wp2_with fail
  go_ret
  exact ⟨rfl, hb2.trans (b3.mono hsz)⟩

set_option maxHeartbeats 1000000 in
set_option maxRecDepth 100000 in
/-- .. and of what is none. -/
theorem show_none (l : List Pc) (a : Option Addr) (n cap : Nat) (w : World) (hL : RxAt w a l) (hn : l.length = n) (hmax : n ≤ maxLen) (hc : chkT l ≠ 0) :
    Calls Tryd.prog 9 #[.slice a n cap] w fun e w' => e = .returned (.string ⟨#[]⟩) ∧ Below w.heap.size w w' := by
  have HL := Lib.hid hL
  have HN := Lib.hid hn
  have HM := Lib.hid hmax
  obtain ⟨c, hcc⟩ : ∃ c, chkT l = c := ⟨_, rfl⟩
  have HC := Lib.hid hcc
  have e1 : ((c : Int) != 0) = true := by simp; omega
  clear hL hn hmax hc hcc
  go_enter Tryd.func9, Tryd.ntmps9
  go_wp2_with fail
  refine (check_any l a n cap _ HL.out HN.out HM.out).mono ?_
  rintro e w1 ⟨rfl, b1⟩
  rw [HC.out]
  go_wp2_with fail
  go_ret
  exact ⟨rfl, b1⟩
end Go.Proofs.YtjhfgiflcenjpaaDoor
