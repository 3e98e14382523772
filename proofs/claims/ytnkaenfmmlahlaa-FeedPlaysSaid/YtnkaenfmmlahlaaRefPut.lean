import Derived.Test.YtnkaenfmmlahlaaRef
namespace Go.Proofs.Ytnkaenfmmlahlaa
open Go.Conc Go.RowKit

theorem Own.nil_of {w : World} {base : Nat} {cap : Nat} {l : List Int} (h : Own w base none cap l) : l = [] ∧ cap = 0 := by
  rcases h.2 with ⟨h1, h2⟩ | ⟨g, cap', cur, hv, _⟩
  · simp at h1; exact ⟨List.eq_nil_of_length_eq_zero h2, h1.2⟩
  · simp at hv
theorem Own.some_of {w : World} {base : Nat} {ad : Addr} {cap : Nat} {l : List Int} (h : Own w base (some ad) cap l) : ∃ g, ad = ⟨g, 0, none⟩ ∧ g < w.heap.size ∧ ∀ j u, (l.map (Value.int .i64))[j]? = some u → w.cell? ⟨g, 0 + j, none⟩ = some u := by
  have h' := h
  rcases h.2 with ⟨h1, h2⟩ | ⟨g, cap', cur, hv, _, hg, _⟩
  · simp at h1
  · simp at hv
    obtain ⟨rfl, rfl⟩ := hv
    refine ⟨g, rfl, (Array.getElem?_eq_some_iff.1 hg).1, fun j u hu => ?_⟩
    have hj : j < l.length := by simpa using (List.getElem?_eq_some_iff.1 hu).1
    rw [h'.cellAt (0 + j) (by omega), Nat.zero_add]
    exact hu

/-- What is known behind the first append of Put: a row of its own that reads as l; the two structs lie where they lay. -/
structure Mid (w : World) (c0 : Value) (l : List Int) (most lost : Nat) (v : Value) (w4 : World) : Prop where
  own : w4.ownsRow (w.heap.size + 2) 3 1 v l.length (l.map (Value.int .i64))
  s0 : w4.heap[w.heap.size]? = some (.cells #[c0, .int .i64 most, .int .i64 lost, .bool false] 31 (0, 0))
  s1 : w4.heap[w.heap.size + 1]? = some (.cells #[.slice none 0 0, .int .i64 0, .int .i64 0, .bool false] 31 (0, 0))
  below : Below w.heap.size w w4
  size : w.heap.size + 2 < w4.heap.size

theorem mid_of {w w4 : World} {c0 : Value} {l : List Int} {most lost : Nat} {v : Value} {row : Option Nat}
    (hown : w4.ownsRow (w.heap.size + 2) 3 1 v l.length (l.map (Value.int .i64)))
    (hg : (((w.alloc (.cells #[c0, .int .i64 most, .int .i64 lost, .bool false] 31)).alloc (.cells #[.slice none 0 0, .int .i64 0, .int .i64 0, .bool false] 31)).alloc (.cells #[] 3)).grownBy w4 row) (hr : ∀ k, row = some k → w.heap.size + 2 ≤ k) : Mid w c0 l most lost v w4 := by
  have hs := hg.size
  simp at hs
  refine ⟨hown, ?_, ?_, ((((Below.refl _ _).alloc (Nat.le_refl _) _).alloc (by simp) _).alloc (by simp; omega) _).grown hg (by simp; omega) (fun k hk => by have := hr k hk; omega), by omega⟩
  · refine (hg.block w.heap.size (by simp; omega) (fun e => by have := hr _ e.symm; omega)).trans ?_
    rw [heap_alloc_old _ _ (by simp; omega), heap_alloc_old _ _ (by simp)]
    exact heap_alloc_new _ _
  · refine (hg.block (w.heap.size + 1) (by simp) (fun e => by have := hr _ e.symm; omega)).trans ?_
    rw [heap_alloc_old _ _ (by simp)]
    have := heap_alloc_new (w.alloc (.cells #[c0, .int .i64 most, .int .i64 lost, .bool false] 31)) (.cells #[.slice none 0 0, .int .i64 0, .int .i64 0, .bool false] 31)
    simp only [World.size_alloc] at this
    exact this

theorem mid_of' {w w4 : World} {c0 : Value} {l : List Int} {most lost : Nat} {v : Value} {row : Option Nat} {o : Obj}
    (hown : w4.ownsRow (w.heap.size + 2) 3 1 v l.length (l.map (Value.int .i64)))
    (hg : ((((w.alloc (.cells #[c0, .int .i64 most, .int .i64 lost, .bool false] 31)).alloc (.cells #[.slice none 0 0, .int .i64 0, .int .i64 0, .bool false] 31)).alloc (.cells #[] 3)).alloc o).grownBy w4 row) (hr : ∀ k, row = some k → w.heap.size + 2 ≤ k) : Mid w c0 l most lost v w4 := by
  have hs := hg.size
  simp at hs
  refine ⟨hown, ?_, ?_, (((((Below.refl _ _).alloc (Nat.le_refl _) _).alloc (by simp) _).alloc (by simp <;> omega) _).alloc (by simp <;> omega) _).grown hg (by simp <;> omega) (fun k hk => by have := hr k hk; omega), by omega⟩
  · refine (hg.block w.heap.size (by simp <;> omega) (fun e => by have := hr _ e.symm; omega)).trans ?_
    rw [heap_alloc_old _ _ (by simp <;> omega), heap_alloc_old _ _ (by simp <;> omega), heap_alloc_old _ _ (by simp)]
    exact heap_alloc_new _ _
  · refine (hg.block (w.heap.size + 1) (by simp <;> omega) (fun e => by have := hr _ e.symm; omega)).trans ?_
    rw [heap_alloc_old _ _ (by simp <;> omega), heap_alloc_old _ _ (by simp)]
    have := heap_alloc_new (w.alloc (.cells #[c0, .int .i64 most, .int .i64 lost, .bool false] 31)) (.cells #[.slice none 0 0, .int .i64 0, .int .i64 0, .bool false] 31)
    simp only [World.size_alloc] at this
    exact this

theorem Mid.next {w w4 w5 : World} {c0 : Value} {l : List Int} {most lost : Nat} {v v5 : Value} {x : Int} {o : Obj} (M : Mid w c0 l most lost v w4)
    (hown : w5.ownsRow (w.heap.size + 2) 3 1 v5 (l.length + 1) (l.map (Value.int .i64) ++ [.int .i64 x])) (hg : (w4.alloc o).grownBy w5 v.ownBlock) : Mid w c0 (l ++ [x]) most lost v5 w5 := by
  have hs := hg.size
  have hm := M.size
  simp at hs
  have hB : Below (w.heap.size + 2) w4 w5 := ((Below.refl _ w4).alloc (by omega) o).trans (grown_kept hg (M.own.alloc _) (by simp; omega))
  exact ⟨by simpa using hown, (hB.block _ (by omega)).trans M.s0, (hB.block _ (by omega)).trans M.s1, M.below.trans (hB.mono (by omega)), by omega⟩

set_option maxHeartbeats 400000 in
theorem rput_kept {w : World} {base : Nat} {a : Option Addr} {cap : Nat} {l : List Int} (h : Own w base a cap l) (hb : base ≤ w.heap.size) (x : Int) (most lost : Nat) (hm : most ≤ 2000) (hroom : l.length < most) :
    Calls Try.prog 20 #[.agg #[.slice a l.length cap, .int .i64 most, .int .i64 lost, .bool false], .int .i64 x] w (RPut base l x most lost w) := by
  obtain ⟨i0, hi, hz0, hz1, hz2⟩ := info_parts Try.info3
  have hcap := h.cap_ge
  unfold maxLen at hcap
  rcases a with _ | ad
  · obtain ⟨rfl, rfl⟩ := h.nil_of
    simp only [List.length_nil] at *
    go_enter Try.func20, Try.ntmps20
    go_wp2_with (at_builtin; refine wpList_append_own _ rfl _ _ 29 rfl (w.heap.size + 2) 3 i0 (.int .i64 0) 1 8 Try.underlying29 hi hz0 hz1 hz2 rfl (by decide) _ _ _ rfl ((own_empty _ (w.heap.size + 2) (w.heap.size + 1 + 1) ?c0 ?c01).alloc _) ⟨w.heap.size + 1 + 1 + 1, 0, none⟩ 1 1 [.int .i64 x] rfl rfl ?c1 ?c2 ?c3 ?c4 ?c5 ?_)
    case c0 => simp
    case c01 => omega
    case c1 =>
      intro j u hj
      match j, hj with
      | 0, hj => simp at hj; subst hj; simp [Addr.add]; rw [World.cell?_alloc_at _ _ _ _ (by simp)]; rfl
    case c2 => intro u hu; simp at hu; subst hu; rfl
    case c3 => unfold maxLen; omega
    case c4 => omega
    case c5 => simp <;> omega
    intro v' w4 hown hgrow _
    obtain ⟨a', cap', rfl⟩ := ownsRow_slice hown
    have M := mid_of' (l := [x]) hown hgrow (by simp [Value.ownBlock])
    obtain ⟨r0, r1, r2, r3, r4, r5, r6, r7⟩ := row4 M.s0
    obtain ⟨q0, q1, q2, q3, q4, q5, q6, q7⟩ := row4 M.s1
    have hsz := M.size
    have hsz0 : w.heap.size < w4.heap.size := by omega
    clear hgrow
    go_wp2
    refine bodyPost_ret (v := .tuple #[.agg #[.slice a' (0 + 1) cap', .int .i64 most, .int .i64 lost, .bool false], .bool false]) (by simp [results, Try.results20, go_sem, *]) rfl ⟨a', cap', rfl, ?_, ?_⟩
    · refine ownsRow_base (base' := w.heap.size + 2) ?_ (by omega)
      iterate 5 refine ownsRow_setCell_below ?_ (by simp; try omega) _
      simpa using M.own
    · iterate 5 refine Below.setCell ?_ (by simp; try omega) _
      exact M.below
  · obtain ⟨g, rfl, hlt, hcells⟩ := h.some_of
    have HC := Lib.hid hcells
    clear hcells
    go_enter Try.func20, Try.ntmps20
    go_wp2_with (at_builtin; refine wpList_append_own _ rfl _ _ 29 rfl (w.heap.size + 2) 3 i0 (.int .i64 0) 1 8 Try.underlying29 hi hz0 hz1 hz2 rfl (by decide) _ _ _ rfl (own_empty _ (w.heap.size + 2) (w.heap.size + 1 + 1) ?g0 ?g01) ⟨g, 0, none⟩ l.length cap (l.map (Value.int .i64)) rfl ?g00 ?g1 ?g2 ?g3 ?g4 ?g5 ?_)
    case g0 => simp
    case g01 => omega
    case g00 => simp
    case g1 =>
      intro j u hj
      have := HC.out j u hj
      rw [Go.WideShapes.add_plain]
      rw [World.cell?_alloc_past _ _ _ (by simp; omega), World.cell?_alloc_past _ _ _ (by simp; omega), World.cell?_alloc_past _ _ _ hlt]
      exact this
    case g2 => intro u hu; simp at hu; obtain ⟨y, _, rfl⟩ := hu; rfl
    case g3 => unfold maxLen; omega
    case g4 => omega
    case g5 => simp
    intro v' w4 hown hgrow _
    have M := mid_of (by simpa using hown) hgrow (by simp [Value.ownBlock])
    obtain ⟨r0, r1, r2, r3, r4, r5, r6, r7⟩ := row4 M.s0
    obtain ⟨q0, q1, q2, q3, q4, q5, q6, q7⟩ := row4 M.s1
    have hsz := M.size
    clear hgrow HC
    go_wp2_with (at_builtin; refine wpList_append_own _ rfl _ _ 29 rfl (w.heap.size + 2) 3 i0 (.int .i64 0) 1 8 Try.underlying29 hi hz0 hz1 hz2 rfl (by decide) _ _ _ rfl (M.own.alloc _) ⟨w4.heap.size, 0, none⟩ 1 1 [.int .i64 x] rfl rfl ?e1 ?e2 ?e3 ?e4 ?e5 ?_)
    case e1 =>
      intro j u hj
      match j, hj with
      | 0, hj => simp at hj; subst hj; simp [Addr.add]
    case e2 => intro u hu; simp at hu; subst hu; rfl
    case e3 => unfold maxLen; omega
    case e4 => omega
    case e5 => simp; omega
    intro v5 w5 hown5 hgrow5 _
    have M5 := M.next hown5 hgrow5
    obtain ⟨a', cap', rfl⟩ := ownsRow_slice hown5
    clear r0 r1 r2 r3 r4 r5 r6 r7 q0 q1 q2 q3 q4 q5 q6 q7 hsz hgrow5 hown5 M
    obtain ⟨r0, r1, r2, r3, r4, r5, r6, r7⟩ := row4 M5.s0
    obtain ⟨q0, q1, q2, q3, q4, q5, q6, q7⟩ := row4 M5.s1
    have hsz := M5.size
    have hsz0 : w.heap.size < w5.heap.size := by omega
    go_wp2
    refine bodyPost_ret (v := .tuple #[.agg #[.slice a' (l.length + 1) cap', .int .i64 most, .int .i64 lost, .bool false], .bool false]) (by simp [results, Try.results20, go_sem, *]) rfl ⟨a', cap', rfl, ?_, ?_⟩
    · refine ownsRow_base (base' := w.heap.size + 2) ?_ (by omega)
      iterate 5 refine ownsRow_setCell_below ?_ (by simp; try omega) _
      simpa using M5.own
    · iterate 5 refine Below.setCell ?_ (by simp; try omega) _
      exact M5.below
end Go.Proofs.Ytnkaenfmmlahlaa
