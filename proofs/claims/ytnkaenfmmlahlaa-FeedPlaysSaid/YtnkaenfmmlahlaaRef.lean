import Derived.Test.YtnkaenfmmlahlaaOrder
import Derived.Outline
namespace Go.Proofs.Ytnkaenfmmlahlaa
open Go.Conc Go.RowKit

/-- A list of the reference: a row of the call's own (or nil). -/
def Own (w : World) (base : Nat) (a : Option Addr) (cap : Nat) (l : List Int) : Prop := w.ownsRow base 3 1 (.slice a l.length cap) l.length (l.map (Value.int .i64))
/-- The reference's feed as a value. -/
def refV (a : Option Addr) (cap : Nat) (l : List Int) (most lost : Nat) (sh : Bool) : Value := .agg #[.slice a l.length cap, .int .i64 most, .int .i64 lost, .bool sh]
theorem Own.kept {w w' : World} {base : Nat} {a : Option Addr} {cap : Nat} {l : List Int} (h : Own w base a cap l) {T : List Nat} (k : Kept T w w') (hT : ∀ i, i ∈ T → i < base) : Own w' base a cap l := ownsRow_kept h k hT
theorem Own.below {w w' : World} {base : Nat} {a : Option Addr} {cap : Nat} {l : List Int} (h : Own w base a cap l) (k : Below w.heap.size w w') : Own w' base a cap l := ownsRow_kept h (Kept.ofBelow (T := []) k) (by simp)
theorem Own.read {w : World} {base : Nat} {a : Option Addr} {cap : Nat} {l : List Int} (h : Own w base a cap l) {j : Nat} (hj : j < l.length) : ∃ g, a = some ⟨g, 0, none⟩ ∧ w.cell? ⟨g, j, none⟩ = some (.int .i64 (l.getD j 0)) := by
  obtain ⟨g, rfl, hg⟩ := ownsRow_read h hj
  refine ⟨g, rfl, hg.trans ?_⟩
  simp [List.getElem?_eq_getElem hj]
theorem Own.cap_ge {w : World} {base : Nat} {a : Option Addr} {cap : Nat} {l : List Int} (h : Own w base a cap l) : l.length ≤ cap ∧ cap ≤ maxLen := by
  rcases h.2 with ⟨h1, h2⟩ | ⟨g, cap', cur, hv, _, _, h1, h2, _⟩
  · simp at h1; simp [h1.2.2, h2]
  · simp at hv; obtain ⟨_, rfl⟩ := hv; exact ⟨h1, h2⟩

/-- What Take of the reference leaves where there is a number. -/
def RTake (base : Nat) (x : Int) (r : List Int) (most lost : Nat) (sh : Bool) (w : World) (e : Ending) (w' : World) : Prop :=
  ∃ a cap, e = .returned (.tuple #[.agg #[.slice a r.length cap, .int .i64 most, .int .i64 lost, .bool sh], .int .i64 x, .bool true]) ∧ Own w' base a cap r ∧ Below w.heap.size w w'

theorem rtake_none (a : Option Addr) (cap : Nat) (most lost : Nat) (sh : Bool) (w : World) :
    Calls Try.prog 10 #[.agg #[.slice a 0 cap, .int .i64 most, .int .i64 lost, .bool sh]] w fun e w' => e = .returned (.tuple #[.agg #[.slice a 0 cap, .int .i64 most, .int .i64 lost, .bool sh], .int .i64 0, .bool false]) ∧ Below w.heap.size w w' := by
  go_enter Try.func10, Try.ntmps10
  go_wp2
  exact bodyPost_ret (v := .tuple #[.agg #[.slice a 0 cap, .int .i64 most, .int .i64 lost, .bool sh], .int .i64 0, .bool false]) (by simp [results, Try.results10, go_sem]) rfl ⟨rfl, by
    exact ((((Below.refl _ _).alloc (Nat.le_refl _) _).alloc (by simp) _))⟩

theorem own_empty (W : World) (base k : Nat) (hk : W.heap.size = k) (hb : base ≤ k) : (W.alloc (.cells #[] 3)).ownsRow base 3 1 (.slice (some ⟨k, 0, none⟩) 0 0) 0 [] := by
  subst hk
  exact World.ownsRow_lit (size := 1) W #[] 0 hb (by unfold maxLen; omega) (by simp)

theorem ownsRow_base {w : World} {base base' : Nat} {e : TypeId} {size : Nat} {v : Value} {n : Nat} {xs : List Value} (h : w.ownsRow base' e size v n xs) (hb : base ≤ base') : w.ownsRow base e size v n xs := by
  obtain ⟨h1, h2⟩ := h
  refine ⟨h1, ?_⟩
  rcases h2 with h2 | ⟨g, cap, cur, hv, hg, r⟩
  · exact Or.inl h2
  · exact Or.inr ⟨g, cap, cur, hv, by omega, r⟩

theorem row4 {w : World} {g : Nat} {c0 c1 c2 c3 : Value} {t : TypeId} (h : w.heap[g]? = some (.cells #[c0, c1, c2, c3] t (0, 0))) :
    w.cell? ⟨g, 0, none⟩ = some c0 ∧ w.cell? ⟨g, 1, none⟩ = some c1 ∧ w.cell? ⟨g, 2, none⟩ = some c2 ∧ w.cell? ⟨g, 3, none⟩ = some c3 ∧
    w.frozen? ⟨g, 0, none⟩ = false ∧ w.frozen? ⟨g, 1, none⟩ = false ∧ w.frozen? ⟨g, 2, none⟩ = false ∧ w.frozen? ⟨g, 3, none⟩ = false := by
  refine ⟨?_, ?_, ?_, ?_, frozen_of_row w g 0 _ _ h, frozen_of_row w g 1 _ _ h, frozen_of_row w g 2 _ _ h, frozen_of_row w g 3 _ _ h⟩ <;> (rw [cell_of_row w g _ _ _ _ h]; rfl)

theorem rtake_some {w : World} {base : Nat} {a : Option Addr} {cap : Nat} {x : Int} {r : List Int} (h : Own w base a cap (x :: r)) (hb : base ≤ w.heap.size) (hr : r.length ≤ 2000) (most lost : Nat) (sh : Bool) :
    Calls Try.prog 10 #[.agg #[.slice a (r.length + 1) cap, .int .i64 most, .int .i64 lost, .bool sh]] w (RTake base x r most lost sh w) := by
  obtain ⟨i0, hi, hz0, hz1, hz2⟩ := info_parts Try.info3
  obtain ⟨g, rfl, h0⟩ := h.read (j := 0) (by simp)
  have hcap := h.cap_ge
  simp only [List.length_cons] at hcap
  unfold maxLen at hcap
  have hlt : g < w.heap.size := by
    rcases Nat.lt_or_ge g w.heap.size with h | h
    · exact h
    · simp [World.cell?, Array.getElem?_eq_none h] at h0
  simp only [List.getD_cons_zero] at h0
  have hne : ((r.length : Int) + 1 == 0) = false := by simp; omega
  have hcells : ∀ j u, (r.map (Value.int .i64))[j]? = some u → w.cell? ⟨g, 1 + j, none⟩ = some u := by
    intro j u hu
    have hj : j < r.length := by simpa using (List.getElem?_eq_some_iff.1 hu).1
    rw [h.cellAt (1 + j) (by simp; omega), Nat.add_comm 1 j]
    simpa using hu
  have HC := Lib.hid hcells
  clear hcells
  by_cases hc : cap = 1
  · obtain rfl : r = [] := by
      apply List.eq_nil_of_length_eq_zero; omega
    subst hc
    simp only [List.length_nil, Nat.zero_add] at *
    clear hcap
    go_enter Try.func10, Try.ntmps10
    go_wp2_with fail
    exact bodyPost_ret (v := .tuple #[.agg #[.slice (some ⟨w.heap.size + 1 + 1, 0, none⟩) 0 0, .int .i64 most, .int .i64 lost, .bool sh], .int .i64 x, .bool true]) (by simp [results, Try.results10, go_sem]) rfl
      ⟨_, 0, rfl, own_empty _ base (w.heap.size + 1 + 1) (by simp) (by omega), (((Below.refl _ _).alloc (Nat.le_refl _) _).alloc (by simp) _).alloc (by simp; omega) _⟩
  · have hc2 : 2 ≤ cap := by omega
    clear hc
    go_enter Try.func10, Try.ntmps10
    go_wp2_with (at_builtin; refine wpList_append_own _ rfl _ _ 29 rfl (w.heap.size + 2) 3 i0 (.int .i64 0) 1 8 Try.underlying29 hi hz0 hz1 hz2 rfl (by decide) _ _ _ rfl (own_empty _ (w.heap.size + 2) (w.heap.size + 1 + 1) ?c0 ?c01) ⟨g, 1, none⟩ r.length (cap - 1) (r.map (Value.int .i64)) rfl ?c00 ?c1 ?c2 ?c3 ?c4 ?c5 ?_)
    case c0 => simp
    case c01 => omega
    case c00 => simp
    case c1 => intro j u hj
               have := HC.out j u hj
               rw [Go.WideShapes.add_plain]
               rw [World.cell?_alloc_past _ _ _ (by simp; omega), World.cell?_alloc_past _ _ _ (by simp; omega), World.cell?_alloc_past _ _ _ hlt]
               exact this
    case c2 => intro u hu; simp at hu <;> (obtain ⟨y, _, rfl⟩ := hu; rfl)
    case c3 => unfold maxLen; omega
    case c4 => omega
    case c5 => simp
    intro v' w4 hown hgrow _
    obtain ⟨a', cap', rfl⟩ := ownsRow_slice hown
    have hs4 := hgrow.size
    have hb0 := (hgrow.block w.heap.size (by simp; omega) (by simp [Value.ownBlock]; try omega)).trans ((heap_alloc_old _ _ (by simp; omega)).trans ((heap_alloc_old _ _ (by simp)).trans (heap_alloc_new w _)))
    have hb1 := (hgrow.block (w.heap.size + 1) (by simp) (by simp [Value.ownBlock]; try omega)).trans ((heap_alloc_old _ _ (by simp)).trans (by have := heap_alloc_new (w.alloc (Obj.cells #[Value.slice (some { block := g, off := 0 }) (r.length + 1) cap, Value.int IntKind.i64 most, Value.int IntKind.i64 lost, Value.bool sh] 31)) (Obj.cells #[Value.slice none 0 0, Value.int IntKind.i64 0, Value.int IntKind.i64 0, Value.bool false] 31); simp only [World.size_alloc] at this; exact this))
    have hbel : Below w.heap.size w w4 := ((((Below.refl _ _).alloc (Nat.le_refl _) _).alloc (by simp) _).alloc (by simp; omega) _).grown hgrow (by simp; omega) (by simp [Value.ownBlock]; omega)
    obtain ⟨r0, r1, r2, r3, r4, r5, r6, r7⟩ := row4 hb0
    obtain ⟨q0, q1, q2, q3, q4, q5, q6, q7⟩ := row4 hb1
    clear hgrow hb0 hb1 h0 HC
    simp at hs4
    have hsz0 : w.heap.size < w4.heap.size := by omega
    go_wp2
    refine bodyPost_ret (v := .tuple #[.agg #[.slice a' r.length cap', .int .i64 most, .int .i64 lost, .bool sh], .int .i64 x, .bool true]) (by simp [results, Try.results10, go_sem, *]) rfl ⟨a', cap', rfl, ?_, ?_⟩
    · refine ownsRow_base (base' := w.heap.size + 2) ?_ (by omega)
      iterate 5 refine ownsRow_setCell_below ?_ (by simp; try omega) _
      exact hown
    · iterate 5 refine Below.setCell ?_ (by simp; try omega) _
      exact hbel

/-- What Put of the reference leaves where there is room. -/
def RPut (base : Nat) (l : List Int) (x : Int) (most lost : Nat) (w : World) (e : Ending) (w' : World) : Prop :=
  ∃ a cap, e = .returned (.tuple #[.agg #[.slice a (l.length + 1) cap, .int .i64 most, .int .i64 lost, .bool false], .bool false]) ∧ Own w' base a cap (l ++ [x]) ∧ Below w.heap.size w w'

theorem rput_lost (a : Option Addr) (n cap : Nat) (x : Int) (most lost : Nat) (hl : lost < 1000000000) (sh : Bool) (hno : sh = true ∨ most ≤ n) (w : World) :
    Calls Try.prog 20 #[.agg #[.slice a n cap, .int .i64 most, .int .i64 lost, .bool sh], .int .i64 x] w fun e w' => e = .returned (.tuple #[.agg #[.slice a n cap, .int .i64 most, .int .i64 ((lost + 1 : Nat) : Int), .bool sh], .bool true]) ∧ Below w.heap.size w w' := by
  cases sh with
  | true =>
    go_enter Try.func20, Try.ntmps20
    go_wp2
    exact bodyPost_ret (v := .tuple #[.agg #[.slice a n cap, .int .i64 most, .int .i64 ((lost + 1 : Nat) : Int), .bool true], .bool true]) (by simp [results, Try.results20, go_sem]) rfl ⟨rfl, ((((Below.refl _ _).alloc (Nat.le_refl _) _).alloc (by simp) _))⟩
  | false =>
    have h : most ≤ n := by simpa using hno
    clear hno
    go_enter Try.func20, Try.ntmps20
    go_wp2
    exact bodyPost_ret (v := .tuple #[.agg #[.slice a n cap, .int .i64 most, .int .i64 ((lost + 1 : Nat) : Int), .bool false], .bool true]) (by simp [results, Try.results20, go_sem]) rfl ⟨rfl, ((((Below.refl _ _).alloc (Nat.le_refl _) _).alloc (by simp) _))⟩

end Go.Proofs.Ytnkaenfmmlahlaa
