import Derived.Test.YtkdhdlokilgccaaZDSt
import Derived.Deep.RegionLaw
namespace Go.Proofs.Ytkdhdlokilgccaa
open Go.RowKit Go.Maps Go.WideElems Go.ChangeMaps Go.MapKept
set_option linter.unusedVariables false

def PrePost (w : World) (B kr : Nat) (cur : Array Value) (E : List Ex) (F : List Fa) (T : List Tl) (b1 b2 n0 : Nat) (S : List (List Rx)) (τ : List Rx) (e : Ending) (w' : World) : Prop :=
  ∃ (i : Nat) (T' : List Tl) (cur' : Array Value) (b2' : Nat), e = .returned (.int .i64 ((i : Nat) : Int)) ∧ RdAt w' B kr cur' E F T' b1 b2' n0 S ∧ TD E T' i τ ∧ Ext T T' ∧ (∀ j, 5 ≤ j → cur'[j]? = cur[j]?) ∧ cur'.size = cur.size ∧ RFr B kr [] w cur b1 b2 w' cur' b1 b2'
/-- The cells of an entry, in memory. -/
theorem RdAt.entry {w : World} {B kr : Nat} {cur : Array Value} {E : List Ex} {F : List Fa} {T : List Tl} {b1 b2 n0 : Nat} {S : List (List Rx)} (h : RdAt w B kr cur E F T b1 b2 n0 S) {n : Nat} {x : Ex} (hx : E[n]? = some x) :
    ∃ g c, w.cell? ⟨kr, 0, none⟩ = some (.slice (some ⟨g, 0, none⟩) E.length c) ∧ g < w.heap.size ∧ n < E.length ∧ E.length ≤ 800 ∧ E.length ≤ c ∧ c ≤ maxLen ∧ ∀ j, j < 7 → w.cell? ⟨g, n * 7 + j, none⟩ = (exCells x)[j]? := by
  obtain ⟨vE, hvE, hOE⟩ := h.book.num.row
  obtain ⟨aE, cE, rfl⟩ := ownsRow_slice hOE
  obtain ⟨hlt, hxe⟩ := List.getElem?_eq_some_iff.1 hx
  obtain ⟨g, rfl, _, hg, hc⟩ := ownsRow_read hOE (by omega)
  have hcap : E.length ≤ cE ∧ cE ≤ maxLen := by
    rcases hOE.2 with ⟨h1, _⟩ | ⟨g, cap, cu, h1, _, _, h2, h3, _⟩
    · cases h1
    · injection h1 with _ _ h4
      subst h4
      exact ⟨h2, h3⟩
  exact ⟨g, cE, by rw [h.book.num.st.cell, hvE], hg, hlt, h.si.elen, hcap.1, hcap.2, fun j hj => by rw [(hc (n * 7 + j) (by omega)).1, exs_get E n hlt j hj, hxe]⟩
theorem RdAt.fact {w : World} {B kr : Nat} {cur : Array Value} {E : List Ex} {F : List Fa} {T : List Tl} {b1 b2 n0 : Nat} {S : List (List Rx)} (h : RdAt w B kr cur E F T b1 b2 n0 S) {n : Nat} {t : Rx} (hd : Den E n t) :
    ∃ g c f, w.cell? ⟨kr, 2, none⟩ = some (.slice (some ⟨g, 0, none⟩) F.length c) ∧ g < w.heap.size ∧ n < F.length ∧ F.length ≤ 800 ∧ F.length ≤ c ∧ c ≤ maxLen ∧ FOk f t ∧ ∀ j, j < 6 → w.cell? ⟨g, n * 6 + j, none⟩ = (faCells f)[j]? := by
  obtain ⟨vF, hvF, hOF⟩ := h.book.fac
  obtain ⟨aF, cF, rfl⟩ := ownsRow_slice hOF
  obtain ⟨f, hf, hfo, _⟩ := h.si.inv.get hd
  obtain ⟨hlt, hxe⟩ := List.getElem?_eq_some_iff.1 hf
  obtain ⟨g, rfl, _, hg, hc⟩ := ownsRow_read hOF (by omega)
  have hcap : F.length ≤ cF ∧ cF ≤ maxLen := by
    rcases hOF.2 with ⟨h1, _⟩ | ⟨g, cap, cu, h1, _, _, h2, h3, _⟩
    · cases h1
    · injection h1 with _ _ h4
      subst h4
      exact ⟨h2, h3⟩
  exact ⟨g, cF, f, by rw [h.book.num.st.cell, hvF], hg, hlt, by rw [← h.si.inv.len]; exact h.si.elen, hcap.1, hcap.2, hfo, fun j hj => by rw [(hc (n * 6 + j) (by omega)).1, fas_get F n hlt j hj, hxe]⟩
theorem RdAt.at_tail {w : World} {B kr : Nat} {cur : Array Value} {E : List Ex} {F : List Fa} {T : List Tl} {b1 b2 n0 : Nat} {S : List (List Rx)} (h : RdAt w B kr cur E F T b1 b2 n0 S) {n : Nat} {x : Tl} (hx : T[n]? = some x) :
    ∃ g c, w.cell? ⟨kr, 3, none⟩ = some (.slice (some ⟨g, 0, none⟩) T.length c) ∧ g < w.heap.size ∧ n < T.length ∧ T.length ≤ 400000 ∧ T.length ≤ c ∧ c ≤ maxLen ∧ ∀ j, j < 2 → w.cell? ⟨g, n * 2 + j, none⟩ = (tlCells x)[j]? := by
  obtain ⟨vE, hvE, hOE⟩ := h.tails.row
  obtain ⟨aE, cE, rfl⟩ := ownsRow_slice hOE
  obtain ⟨hlt, hxe⟩ := List.getElem?_eq_some_iff.1 hx
  obtain ⟨g, rfl, _, hg, hc⟩ := ownsRow_read hOE (by omega)
  have hcap : T.length ≤ cE ∧ cE ≤ maxLen := by
    rcases hOE.2 with ⟨h1, _⟩ | ⟨g, cap, cu, h1, _, _, h2, h3, _⟩
    · cases h1
    · injection h1 with _ _ h4
      subst h4
      exact ⟨h2, h3⟩
  exact ⟨g, cE, by rw [h.tails.st.cell, hvE], hg, hlt, h.si.tlen, hcap.1, hcap.2, fun j hj => by rw [(hc (n * 2 + j) (by omega)).1, tls_get T n hlt j hj, hxe]⟩

theorem Den.leafE {E : List Ex} {n : Nat} {p : Pc} (h : Den E n (.leaf p)) : ∃ x, E[n]? = some x ∧ x.p = p ∧ takesZ p.k = 0 := by
  generalize e : Rx.leaf p = t at h
  cases h with
  | leaf h0 h1 h2 => injection e with e; exact ⟨_, h0, e.symm, by rw [e]; exact h1⟩
  | un => cases e
  | bin => cases e
theorem Den.unE {E : List Ex} {n : Nat} {p : Pc} {a : Rx} (h : Den E n (.un p a)) : ∃ x, E[n]? = some x ∧ x.p = p ∧ takesZ p.k = 1 ∧ x.a < n ∧ x.b ≤ n ∧ Den E x.a a := by
  generalize e : Rx.un p a = t at h
  cases h with
  | leaf => cases e
  | un h0 h1 h2 h3 h4 h5 => injection e with e e2; exact ⟨_, h0, e.symm, by rw [e]; exact h1, h3, h4, by rw [e2]; exact h5⟩
  | bin => cases e
theorem Den.binE {E : List Ex} {n : Nat} {p : Pc} {a c : Rx} (h : Den E n (.bin p a c)) : ∃ x, E[n]? = some x ∧ x.p = p ∧ takesZ p.k = 2 ∧ Den E x.a a ∧ Den E x.b c := by
  generalize e : Rx.bin p a c = t at h
  cases h with
  | leaf => cases e
  | un => cases e
  | bin h0 h1 h2 h3 h4 h5 h6 => injection e with e e2 e3; exact ⟨_, h0, e.symm, by rw [e]; exact h1, by rw [e2]; exact h5, by rw [e3]; exact h6⟩

set_option maxHeartbeats 1000000 in
set_option maxRecDepth 100000 in
/-- .. of the empty string's expression: the tail itself. -/
theorem pre_none (w : World) (B kr : Nat) (cur : Array Value) (E : List Ex) (F : List Fa) (T : List Tl) (b1 b2 n0 : Nat) (S : List (List Rx)) (n rest : Nat) (x : Ex) (ρ : List Rx) (hR : RdAt w B kr cur E F T b1 b2 n0 S) (hB : B ≤ w.heap.size) (hx : E[n]? = some x) (hk : x.p.k = 0) (hr : TD E T rest ρ) :
    Calls Try.prog 59 #[.pointer (some ⟨kr, 0, none⟩), .int .i64 n, .int .i64 rest] w (PrePost w B kr cur E F T b1 b2 n0 S ρ) := by
  obtain ⟨g, c, c0, hg, hn, hE8, hc1, hc2, hy⟩ := hR.entry hx
  have y0 := hy 0 (by decide)
  have y1 := hy 1 (by decide)
  have y2 := hy 2 (by decide)
  have y3 := hy 3 (by decide)
  have y4 := hy 4 (by decide)
  have y5 := hy 5 (by decide)
  have y6 := hy 6 (by decide)
  simp only [exCells, List.getElem?_cons_zero, List.getElem?_cons_succ, Nat.add_zero] at y0 y1 y2 y3 y4 y5 y6
  obtain ⟨nE, hnE⟩ : ∃ nE, E.length = nE := ⟨_, rfl⟩
  rw [hnE] at c0 hn hE8 hc1
  have hkb : kr < w.heap.size := hR.book.num.st.lt
  have i1 : (n : Int) < (nE : Int) := by omega
  unfold maxLen at hc2
  have k1 : (x.p.k == 0) = true := by rw [hk]; rfl
  have hb : Below w.heap.size w (w.alloc (.cells #[.int .i64 x.p.k, .int .u64 ((wd x.p.p 0 : Nat) : Int), .int .u64 ((wd x.p.p 1 : Nat) : Int), .int .u64 ((wd x.p.p 2 : Nat) : Int), .int .u64 ((wd x.p.p 3 : Nat) : Int), .int .i64 ((x.a : Nat) : Int), .int .i64 ((x.b : Nat) : Int)] 142)) := (Below.refl _ _).alloc (Nat.le_refl _) _
  have HR := Lib.hid hR
  have HB := Lib.hid hb
  have HT := Lib.hid hr
  clear hR hx hr hk hy hnE hb
  go_enter Try.func59, Try.ntmps59
  go_wp2_with fail
  go_ret
  exact ⟨rest, T, cur, b2, rfl, HR.out.below HB.out, HT.out, Ext.refl _, fun _ _ => rfl, rfl, RFr.of_below _ _ _ _ HB.out hB⟩

set_option maxHeartbeats 1000000 in
set_option maxRecDepth 100000 in
/-- .. of what is no Cat: one more tail, or one that is known. -/
theorem pre_cons (w : World) (B kr : Nat) (cur : Array Value) (E : List Ex) (F : List Fa) (T : List Tl) (b1 b2 n0 : Nat) (S : List (List Rx)) (n rest : Nat) (x : Ex) (u : Rx) (ρ : List Rx) (hR : RdAt w B kr cur E F T b1 b2 n0 S) (hB : B ≤ w.heap.size) (hx : E[n]? = some x) (hk0 : x.p.k ≠ 0) (hk2 : x.p.k ≠ 2) (hd : Den E n u) (hr : TD E T rest ρ) (hs : u :: ρ ∈ S) :
    Calls Try.prog 59 #[.pointer (some ⟨kr, 0, none⟩), .int .i64 n, .int .i64 rest] w (PrePost w B kr cur E F T b1 b2 n0 S (u :: ρ)) := by
  obtain ⟨g, c, c0, hg, hn, hE8, hc1, hc2, hy⟩ := hR.entry hx
  have y0 := hy 0 (by decide)
  have y1 := hy 1 (by decide)
  have y2 := hy 2 (by decide)
  have y3 := hy 3 (by decide)
  have y4 := hy 4 (by decide)
  have y5 := hy 5 (by decide)
  have y6 := hy 6 (by decide)
  simp only [exCells, List.getElem?_cons_zero, List.getElem?_cons_succ, Nat.add_zero] at y0 y1 y2 y3 y4 y5 y6
  obtain ⟨nE, hnE⟩ : ∃ nE, E.length = nE := ⟨_, rfl⟩
  rw [hnE] at c0 hn hE8 hc1
  have hkb : kr < w.heap.size := hR.book.num.st.lt
  have i1 : (n : Int) < (nE : Int) := by omega
  unfold maxLen at hc2
  have k0 : (x.p.k == 0) = false := by simpa using hk0
  have k2 : (x.p.k == 2) = false := by simpa using hk2
  have hb : Below w.heap.size w (w.alloc (.cells #[.int .i64 x.p.k, .int .u64 ((wd x.p.p 0 : Nat) : Int), .int .u64 ((wd x.p.p 1 : Nat) : Int), .int .u64 ((wd x.p.p 2 : Nat) : Int), .int .u64 ((wd x.p.p 3 : Nat) : Int), .int .i64 ((x.a : Nat) : Int), .int .i64 ((x.b : Nat) : Int)] 142)) := (Below.refl _ _).alloc (Nat.le_refl _) _
  have HR := Lib.hid (hR.below hb)
  have HB := Lib.hid hb
  have HT := Lib.hid (And.intro hr (And.intro hd hs))
  have hrl := hr.lt
  have htl := hR.si.tlen
  have hBk : B ≤ kr := hR.book.base
  clear hR hx hr hd hs hk0 hk2 hy hnE hb
  go_enter Try.func59, Try.ntmps59
  go_wp2_with fail
  have hBa : B ≤ (w.alloc (.cells #[.int .i64 x.p.k, .int .u64 ((wd x.p.p 0 : Nat) : Int), .int .u64 ((wd x.p.p 1 : Nat) : Int), .int .u64 ((wd x.p.p 2 : Nat) : Int), .int .u64 ((wd x.p.p 3 : Nat) : Int), .int .i64 ((x.a : Nat) : Int), .int .i64 ((x.b : Nat) : Int)] 142)).heap.size := by simp; omega
  refine (ofT_any _ B 123 kr cur 3 T (some b2) ⟨((n : Nat) : Int), ((rest : Nat) : Int)⟩ ⟨by simp, by simp; omega, by simp, by simp; omega⟩ HR.out.tails hBa hBk (by decide) (by omega)).mono ?_
  rintro e w2 ⟨i, T', cur', bM', rfl, hN, ho, hz, hbm, hB2, hk2, hcase, hrw⟩
  have hpost : ∃ b2', bM' = some b2' ∧ (b2' = b2 ∨ (w.alloc (.cells #[.int .i64 x.p.k, .int .u64 ((wd x.p.p 0 : Nat) : Int), .int .u64 ((wd x.p.p 1 : Nat) : Int), .int .u64 ((wd x.p.p 2 : Nat) : Int), .int .u64 ((wd x.p.p 3 : Nat) : Int), .int .i64 ((x.a : Nat) : Int), .int .i64 ((x.b : Nat) : Int)] 142)).heap.size ≤ b2') := by
    rcases hbm with h | ⟨b, h1, h2⟩
    · exact ⟨b2, h, Or.inl rfl⟩
    · exact ⟨b, h1, Or.inr h2⟩
  obtain ⟨b2', rfl, hb2'⟩ := hpost
  obtain ⟨hr, hd, hs⟩ := HT.out
  have hsi : SI E F T' n0 S ∧ TD E T' i (u :: ρ) ∧ Ext T T' := by
    rcases hcase with ⟨rfl, _, y, hy, hyx⟩ | ⟨rfl, rfl, hnew⟩
    · obtain rfl := tl_inj hyx
      exact ⟨HR.out.si, HR.out.si.known hd hr hy, Ext.refl _⟩
    · obtain ⟨h1, h2⟩ := HR.out.si.tail hd hr hs hnew
      exact ⟨h1, h2, Ext.snoc _ _⟩
  obtain ⟨hA, hF⟩ := HR.out.tail hN (fun j h1 h2 => ho j h1 h2) hb2' hB2 hk2 hrw hsi.1
  have HF := Lib.hid (And.intro hA (And.intro ((RFr.of_below [] cur b1 b2 HB.out hB).trans hF (fun g h => by cases h)) (And.intro hsi.2.1 (And.intro hsi.2.2 (And.intro ho hz)))))
  clear hN ho hz hbm hB2 hk2 hcase hrw hb2' hsi hA hF hr hd hs
  go_wp2_with fail
  go_ret
  obtain ⟨hA, hF, h1, h2, ho, hz⟩ := HF.out
  exact ⟨i, T', cur', b2', rfl, hA, h1, h2, fun j hj => ho j (by omega) (by omega), hz, hF⟩

set_option maxHeartbeats 1000000 in
set_option maxRecDepth 100000 in
/-- The tail that begins with an expression. -/
theorem prepend_any (t : Rx) : ∀ (w : World) (B kr : Nat) (cur : Array Value) (E : List Ex) (F : List Fa) (T : List Tl) (b1 b2 n0 : Nat) (S : List (List Rx)) (n rest : Nat) (ρ : List Rx) (hR : RdAt w B kr cur E F T b1 b2 n0 S) (hB : B ≤ w.heap.size) (hd : Den E n t) (hr : TD E T rest ρ) (hs : pre t ρ ∈ S),
    Calls Try.prog 59 #[.pointer (some ⟨kr, 0, none⟩), .int .i64 n, .int .i64 rest] w (PrePost w B kr cur E F T b1 b2 n0 S (pre t ρ)) := by
  induction t with
  | leaf p =>
    intro w B kr cur E F T b1 b2 n0 S n rest ρ hR hB hd hr hs
    obtain ⟨x, h0, rfl, h1⟩ := hd.leafE
    unfold pre at hs ⊢
    by_cases hk : x.p.k = 0
    · rw [if_pos hk] at hs ⊢
      exact pre_none w B kr cur E F T b1 b2 n0 S n rest x ρ hR hB h0 hk hr
    · rw [if_neg hk] at hs ⊢
      have hk2 : x.p.k ≠ 2 := by have := takesZ_cases x.p.k; omega
      exact pre_cons w B kr cur E F T b1 b2 n0 S n rest x _ ρ hR hB h0 hk hk2 hd hr hs
  | un p a _ =>
    intro w B kr cur E F T b1 b2 n0 S n rest ρ hR hB hd hr hs
    obtain ⟨x, h0, rfl, h1, h3, h4, h5⟩ := hd.unE
    have hk := takesZ_cases x.p.k
    exact pre_cons w B kr cur E F T b1 b2 n0 S n rest x _ ρ hR hB h0 (by omega) (by omega) hd hr hs
  | bin p a c iha ihc =>
    intro w B kr cur E F T b1 b2 n0 S n rest ρ hR hB hd hr hs
    obtain ⟨x, h0, rfl, h1, h5, h6⟩ := hd.binE
    have hk := takesZ_cases x.p.k
    unfold pre at hs ⊢
    by_cases hk2 : x.p.k = 2
    rotate_left
    · rw [if_neg hk2] at hs ⊢
      exact pre_cons w B kr cur E F T b1 b2 n0 S n rest x _ ρ hR hB h0 (by omega) hk2 hd hr hs
    rw [if_pos hk2] at hs ⊢
    have hs2 : pre c ρ ∈ S := pre_tail hR.si.cl a _ hs
    obtain ⟨g, cE, c0, hg, hn, hE8, hc1, hc2, hy⟩ := hR.entry h0
    have y0 := hy 0 (by decide)
    have y1 := hy 1 (by decide)
    have y2 := hy 2 (by decide)
    have y3 := hy 3 (by decide)
    have y4 := hy 4 (by decide)
    have y5 := hy 5 (by decide)
    have y6 := hy 6 (by decide)
    simp only [exCells, List.getElem?_cons_zero, List.getElem?_cons_succ, Nat.add_zero] at y0 y1 y2 y3 y4 y5 y6
    obtain ⟨nE, hnE⟩ : ∃ nE, E.length = nE := ⟨_, rfl⟩
    rw [hnE] at c0 hn hE8 hc1
    have hkb : kr < w.heap.size := hR.book.num.st.lt
    have i1 : (n : Int) < (nE : Int) := by omega
    unfold maxLen at hc2
    have k0 : (x.p.k == 0) = false := by rw [hk2]; rfl
    have k2 : (x.p.k == 2) = true := by rw [hk2]; rfl
    have hb : Below w.heap.size w (w.alloc (.cells #[.int .i64 x.p.k, .int .u64 ((wd x.p.p 0 : Nat) : Int), .int .u64 ((wd x.p.p 1 : Nat) : Int), .int .u64 ((wd x.p.p 2 : Nat) : Int), .int .u64 ((wd x.p.p 3 : Nat) : Int), .int .i64 ((x.a : Nat) : Int), .int .i64 ((x.b : Nat) : Int)] 142)) := (Below.refl _ _).alloc (Nat.le_refl _) _
    have HR := Lib.hid (hR.below hb)
    have HB := Lib.hid hb
    have HT := Lib.hid (And.intro hr (And.intro hs (And.intro hs2 (And.intro h5 h6))))
    have hX := St.new w 142 #[.int .i64 x.p.k, .int .u64 ((wd x.p.p 0 : Nat) : Int), .int .u64 ((wd x.p.p 1 : Nat) : Int), .int .u64 ((wd x.p.p 2 : Nat) : Int), .int .u64 ((wd x.p.p 3 : Nat) : Int), .int .i64 ((x.a : Nat) : Int), .int .i64 ((x.b : Nat) : Int)]
    have HNI := Lib.hid (show w.heap.size ∉ rdBlks kr cur b1 b2 from fun hm => by have := hR.lt _ hm; omega)
    have hBa : B ≤ (w.alloc (.cells #[.int .i64 x.p.k, .int .u64 ((wd x.p.p 0 : Nat) : Int), .int .u64 ((wd x.p.p 1 : Nat) : Int), .int .u64 ((wd x.p.p 2 : Nat) : Int), .int .u64 ((wd x.p.p 3 : Nat) : Int), .int .i64 ((x.a : Nat) : Int), .int .i64 ((x.b : Nat) : Int)] 142)).heap.size := by simp; omega
    clear hR hr hd hs hs2 hk2 hy hnE hb h0 h1 h5 h6 hk
    go_enter Try.func59, Try.ntmps59
    go_wp2_with fail
    generalize w.alloc (.cells #[.int .i64 x.p.k, .int .u64 ((wd x.p.p 0 : Nat) : Int), .int .u64 ((wd x.p.p 1 : Nat) : Int), .int .u64 ((wd x.p.p 2 : Nat) : Int), .int .u64 ((wd x.p.p 3 : Nat) : Int), .int .i64 ((x.a : Nat) : Int), .int .i64 ((x.b : Nat) : Int)] 142) = W at HR HB hX hBa ⊢
    obtain ⟨x0, x1, x2, x3, x4, x5, x6⟩ := row7 hX
    have HX := Lib.hid hX
    clear hX
    go_region_with (first
      | (go_at_call_of 59 (Value.int IntKind.i64 ((x.b : Nat) : Int)); refine (ihc W.drew B kr cur E F T b1 b2 n0 S x.b rest ρ HR.out.drew hBa HT.out.2.2.2.2 HT.out.1 HT.out.2.2.1).mono ?_; rintro e2 w2 ⟨j, T2, cur2, b22, rfl, hR2, hD2, hx2, ho2, hz2, hF2⟩
         have HR2 := Lib.hid (And.intro hR2 (And.intro hD2 (And.intro hx2 (And.intro ho2 (And.intro hz2 hF2)))))
         have hX2 : St w2 142 w.heap.size #[.int .i64 x.p.k, .int .u64 ((wd x.p.p 0 : Nat) : Int), .int .u64 ((wd x.p.p 1 : Nat) : Int), .int .u64 ((wd x.p.p 2 : Nat) : Int), .int .u64 ((wd x.p.p 3 : Nat) : Int), .int .i64 ((x.a : Nat) : Int), .int .i64 ((x.b : Nat) : Int)] := hF2.st (w := W.drew) HX.out HNI.out (by simp)
         have hB2 : B ≤ w2.heap.size := (by have := hF2.below.size; have : W.drew.heap.size = W.heap.size := rfl; omega)
         obtain ⟨x0, x1, x2, x3, x4, x5, x6⟩ := row7 hX2
         clear hR2 hD2 hx2 ho2 hz2 hF2 hX2)
      | (go_at_call_of 59 (Value.int IntKind.i64 ((x.a : Nat) : Int)); refine (iha w2 B kr cur2 E F T2 b1 b22 n0 S x.a j (pre c ρ) HR2.out.1 hB2 HT.out.2.2.2.1 HR2.out.2.1 HT.out.2.1).mono ?_; rintro e3 w3 ⟨i, T3, cur3, b23, rfl, hR3, hD3, hx3, ho3, hz3, hF3⟩
         have HR3 := Lib.hid (And.intro hR3 (And.intro hD3 (And.intro hx3 (And.intro ho3 (And.intro hz3 hF3)))))
         clear hR3 hD3 hx3 ho3 hz3 hF3))
    all_goals
      obtain ⟨hR2, hD2, hx2, ho2, hz2, hF2⟩ := HR2.out
      obtain ⟨hR3, hD3, hx3, ho3, hz3, hF3⟩ := HR3.out
      have HF := Lib.hid (And.intro hR3 (And.intro hD3 (And.intro (hx2.trans hx3) (And.intro (fun j (hj : 5 ≤ j) => (ho3 j hj).trans (ho2 j hj)) (And.intro (hz3.trans hz2) (((RFr.of_below [] cur b1 b2 HB.out (by omega)).trans ((RFr.of_below [] cur b1 b2 (Below.refl _ _).drew hBa).trans hF2 (fun g h => by cases h)) (fun g h => by cases h)).trans hF3 (fun g h => by cases h)))))))
      clear hR2 hD2 hx2 ho2 hz2 hF2 hR3 hD3 hx3 ho3 hz3 hF3
      go_wp2_with fail
      go_ret
      exact ⟨i, T3, cur3, b23, rfl, HF.out⟩
end Go.Proofs.Ytkdhdlokilgccaa
