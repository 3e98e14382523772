import Derived.Test.YtkdhdlokilgccaaZDJoin1
import Derived.Test.YtkdhdlokilgccaaZDJoin2
import Derived.Test.YtkdhdlokilgccaaZDJoin3
import Derived.Deep.RegionLaw
import Derived.Deep.AppendLies
namespace Go.Proofs.Ytkdhdlokilgccaa
open Go.RowKit Go.Maps Go.WideElems Go.ChangeMaps Go.MapKept
set_option linter.unusedVariables false

theorem Try.info_fa : (Try.prog.info? 72).map (fun i => (i.zero, i.size, i.bytes)) = some (some (.agg #[.bool false, .int .u64 0, .int .u64 0, .int .u64 0, .int .u64 0, .int .i64 0]), 6, 48) := by kernel_rfl
/-- May the facts be told of x, and what are they? -/
def joinOk (F : List Fa) (x : Ex) (f : Fa) : Prop := (takesZ x.p.k = 0 ∧ ∀ X Y, f = joinOf x X Y) ∨ ((takesZ x.p.k = 1 ∨ takesZ x.p.k = 2) ∧ ∃ X Y, F[x.a]? = some X ∧ F[x.b]? = some Y ∧ X.n ≤ 1000000 ∧ Y.n ≤ 1000000 ∧ f = joinOf x X Y)
theorem kind3 (k : Int) (h : takesZ k = 1 ∨ takesZ k = 2) : k = 2 ∨ k = 3 ∨ (k = 4 ∨ k = 5 ∨ k = 6) := by
  rcases takesZ_cases k with ⟨e, h1⟩ | ⟨e, h1⟩ | ⟨e, h1⟩ | ⟨e, h1⟩ <;> omega
theorem join_any (x : Ex) (F : List Fa) (f : Fa) (hJ : joinOk F x f) (kb c n : Nat) (aF : Option Addr) (w : World) (hn : F.length = n) (hc : n ≤ c ∧ c ≤ maxLen) (hkb : kb < w.heap.size) (c0 : w.cell? ⟨kb, 2, none⟩ = some (.slice aF n c))
    (hF : 0 < n → ∃ g, aF = some ⟨g, 0, none⟩ ∧ g < w.heap.size ∧ ∀ j, j < n * 6 → w.cell? ⟨g, j, none⟩ = (fas F)[j]?) :
    Calls Try.prog 79 #[.pointer (some ⟨kb, 0, none⟩), .agg #[.int .i64 x.p.k, .int .u64 ((wd x.p.p 0 : Nat) : Int), .int .u64 ((wd x.p.p 1 : Nat) : Int), .int .u64 ((wd x.p.p 2 : Nat) : Int), .int .u64 ((wd x.p.p 3 : Nat) : Int), .int .i64 ((x.a : Nat) : Int), .int .i64 ((x.b : Nat) : Int)]] w fun e w' => e = .returned (.agg #[.bool f.e, .int .u64 ((wd f.s 0 : Nat) : Int), .int .u64 ((wd f.s 1 : Nat) : Int), .int .u64 ((wd f.s 2 : Nat) : Int), .int .u64 ((wd f.s 3 : Nat) : Int), .int .i64 ((f.n : Nat) : Int)]) ∧ Below w.heap.size w w' := by
  rcases hJ with ⟨h0, he⟩ | ⟨ht, X, Y, hX, hY, hXn, hYn, rfl⟩
  · rw [he ⟨false, emp, 0⟩ ⟨false, emp, 0⟩]
    exact join_leaf x _ _ kb w h0
  · obtain ⟨ha, hXe⟩ := List.getElem?_eq_some_iff.1 hX
    obtain ⟨hb, hYe⟩ := List.getElem?_eq_some_iff.1 hY
    obtain ⟨g, rfl, hg, hcell⟩ := hF (by omega)
    have cX : ∀ j, j < 6 → w.cell? ⟨g, x.a * 6 + j, none⟩ = (faCells X)[j]? := fun j hj => by rw [hcell _ (by omega), fas_get F x.a ha j hj, hXe]
    have cY : ∀ j, j < 6 → w.cell? ⟨g, x.b * 6 + j, none⟩ = (faCells Y)[j]? := fun j hj => by rw [hcell _ (by omega), fas_get F x.b hb j hj, hYe]
    rcases kind3 x.p.k ht with h | h | h
    · exact join_cat x X Y kb g n c w h (by omega) (by omega) hc hkb hg c0 cX cY hXn hYn
    · exact join_alt x X Y kb g n c w h (by omega) (by omega) hc hkb hg c0 cX cY hXn hYn
    · exact join_rep x X Y kb g n c w h (by omega) (by omega) hc hkb hg c0 cX cY hXn hYn

/-- A book in the first three cells of a block. -/
structure BookAt (w : World) (B Tk kb : Nat) (cur : Array Value) (E : List Ex) (F : List Fa) (bM : Option Nat) : Prop where
  num : NumE w B Tk kb cur 0 E bM
  fac : ∃ vF, cur[2]? = some vF ∧ w.ownsRow B 72 6 vF F.length (fas F)
  len : E.length = F.length
  base : B ≤ kb
  tag : Tk ≠ 142 ∧ Tk ≠ 72
/-- The blocks that are a book's. -/
def bookBlks (kb : Nat) (cur : Array Value) (bM : Option Nat) : List Nat := kb :: (bM.toList ++ (rowBlk cur 0 ++ rowBlk cur 2))
theorem BookAt.below {w w' : World} {B Tk kb : Nat} {cur : Array Value} {E : List Ex} {F : List Fa} {bM : Option Nat} (h : BookAt w B Tk kb cur E F bM) (k : Below w.heap.size w w') : BookAt w' B Tk kb cur E F bM := by
  obtain ⟨vF, hv, hO⟩ := h.fac
  exact ⟨h.num.below k, ⟨vF, hv, ownsRow_keep hO k⟩, h.len, h.base, h.tag⟩

theorem rowBlk_of {cur : Array Value} {o : Nat} {v : Value} (h : cur[o]? = some v) (g : Nat) : g ∈ rowBlk cur o ↔ v.ownBlock = some g := by
  unfold rowBlk; rw [h]; simp
theorem own_lt {w : World} {B t size n : Nat} {v : Value} {xs : List Value} (h : w.ownsRow B t size v n xs) (g : Nat) (e : v.ownBlock = some g) : g < w.heap.size := by
  obtain ⟨c, fz, hc⟩ := own_kind h g e
  exact (Array.getElem?_eq_some_iff.1 hc).1
theorem BookAt.lt {w : World} {B Tk kb : Nat} {cur : Array Value} {E : List Ex} {F : List Fa} {bM : Option Nat} (h : BookAt w B Tk kb cur E F bM) : ∀ g, g ∈ bookBlks kb cur bM → g < w.heap.size := by
  intro g hg
  obtain ⟨vE, hvE, hOE⟩ := h.num.row
  obtain ⟨vF, hvF, hOF⟩ := h.fac
  simp only [bookBlks, List.mem_cons, List.mem_append, Option.mem_toList] at hg
  rcases hg with rfl | hg | hg | hg
  · exact h.num.st.lt
  · exact (h.num.some_ g hg).2.lt
  · exact own_lt hOE g ((rowBlk_of hvE g).1 hg)
  · exact own_lt hOF g ((rowBlk_of hvF g).1 hg)
/-- The facts' row is no block of the numbers'. -/
theorem BookAt.facOff {w : World} {B Tk kb : Nat} {cur : Array Value} {E : List Ex} {F : List Fa} {bM : Option Nat} (h : BookAt w B Tk kb cur E F bM) {vF : Value} (hv : cur[2]? = some vF) : ∀ g, vF.ownBlock = some g → g ∉ kb :: (bM.toList ++ rowBlk cur 0) := by
  intro g hg hm
  obtain ⟨vE, hvE, hOE⟩ := h.num.row
  obtain ⟨vF', hvF, hOF⟩ := h.fac
  obtain rfl := Option.some.inj (hv.symm.trans hvF)
  obtain ⟨c, fz, hc⟩ := own_kind hOF g hg
  simp only [List.mem_cons, List.mem_append, Option.mem_toList] at hm
  rcases hm with rfl | hm | hm
  · exact own_ne hOF h.num.st (Ne.symm h.tag.2) _ hg rfl
  · obtain ⟨es, clock, hb, _⟩ := (h.num.some_ g hm).2
    rw [hc] at hb
    cases hb
  · obtain ⟨c', fz', hc'⟩ := own_kind hOE g ((rowBlk_of hvE g).1 hm)
    rw [hc] at hc'
    injection hc' with hc'
    injection hc' with _ hc'
    exact absurd hc' (by decide)

def NumPost (w : World) (B Tk kb : Nat) (cur : Array Value) (E : List Ex) (F : List Fa) (bM : Option Nat) (x : Ex) (f : Fa) (e : Ending) (w' : World) : Prop :=
  ∃ (i : Nat) (E' : List Ex) (F' : List Fa) (cur' : Array Value) (bM' : Option Nat), e = .returned (.int .i64 ((i : Nat) : Int)) ∧ BookAt w' B Tk kb cur' E' F' bM' ∧ (∀ j, 3 ≤ j → cur'[j]? = cur[j]?) ∧ cur'.size = cur.size ∧ (bM' = bM ∨ ∃ b, bM' = some b ∧ w.heap.size ≤ b) ∧ Below B w w' ∧ Kept [] (bookBlks kb cur bM) w w' ∧ ((E' = E ∧ F' = F ∧ ∃ y, E[i]? = some y ∧ exCells y = exCells x) ∨ (E' = E ++ [x] ∧ F' = F ++ [f] ∧ i = E.length ∧ ∀ y ∈ E, exCells y ≠ exCells x)) ∧ (∀ g, g ∈ bookBlks kb cur' bM' → g ∈ bookBlks kb cur bM ∨ w.heap.size ≤ g)
theorem book_sub {kb : Nat} {cur : Array Value} {bM : Option Nat} {g : Nat} (hg : g ∈ kb :: (bM.toList ++ rowBlk cur 0)) : g ∈ bookBlks kb cur bM := by
  simp only [bookBlks, List.mem_cons, List.mem_append] at hg ⊢
  rcases hg with h | h | h
  · exact Or.inl h
  · exact Or.inr (Or.inl h)
  · exact Or.inr (Or.inr (Or.inl h))
set_option maxHeartbeats 2000000 in
set_option maxRecDepth 100000 in
theorem number_any (w : World) (B Tk kb : Nat) (cur : Array Value) (E : List Ex) (F : List Fa) (bM : Option Nat) (x : Ex) (f : Fa) (hx : x.ok) (hK : BookAt w B Tk kb cur E F bM) (hB : B ≤ w.heap.size) (hmax : E.length ≤ 1000000) (hJ : joinOk F x f) :
    Calls Try.prog 70 #[.pointer (some ⟨kb, 0, none⟩), .agg #[.int .i64 x.p.k, .int .u64 ((wd x.p.p 0 : Nat) : Int), .int .u64 ((wd x.p.p 1 : Nat) : Int), .int .u64 ((wd x.p.p 2 : Nat) : Int), .int .u64 ((wd x.p.p 3 : Nat) : Int), .int .i64 ((x.a : Nat) : Int), .int .i64 ((x.b : Nat) : Int)]] w (NumPost w B Tk kb cur E F bM x f) := by
  obtain ⟨i0, hi, hz0, hz1, hz2⟩ := info_parts Try.info_fa
  have hw := St.new w 142 #[.int .i64 x.p.k, .int .u64 ((wd x.p.p 0 : Nat) : Int), .int .u64 ((wd x.p.p 1 : Nat) : Int), .int .u64 ((wd x.p.p 2 : Nat) : Int), .int .u64 ((wd x.p.p 3 : Nat) : Int), .int .i64 ((x.a : Nat) : Int), .int .i64 ((x.b : Nat) : Int)]
  have kb0 : Below w.heap.size w (w.alloc (.cells #[.int .i64 x.p.k, .int .u64 ((wd x.p.p 0 : Nat) : Int), .int .u64 ((wd x.p.p 1 : Nat) : Int), .int .u64 ((wd x.p.p 2 : Nat) : Int), .int .u64 ((wd x.p.p 3 : Nat) : Int), .int .i64 ((x.a : Nat) : Int), .int .i64 ((x.b : Nat) : Int)] 142)) := (Below.refl _ _).alloc (Nat.le_refl _) _
  have HB0 := Lib.hid kb0
  have hK0 := hK.below kb0
  have hkblt := hK.num.st.lt
  have HK0 := Lib.hid hK0
  have HX0 := Lib.hid hw
  have HKK := Lib.hid hK
  clear hw kb0 hK hK0
  go_enter Try.func70, Try.ntmps70
  go_wp2_with fail
  generalize w.alloc (.cells #[.int .i64 x.p.k, .int .u64 ((wd x.p.p 0 : Nat) : Int), .int .u64 ((wd x.p.p 1 : Nat) : Int), .int .u64 ((wd x.p.p 2 : Nat) : Int), .int .u64 ((wd x.p.p 3 : Nat) : Int), .int .i64 ((x.a : Nat) : Int), .int .i64 ((x.b : Nat) : Int)] 142) = W at HB0 HK0 HX0 ⊢
  obtain ⟨x0, x1, x2, x3, x4, x5, x6⟩ := row7 HX0.out
  have hBW : B ≤ W.heap.size := by have := HB0.out.size; omega
  go_region_with (first
    | (go_at_call 78; refine (ofE_any W.drew B Tk kb cur 0 E bM x hx (HK0.out.num.below (Below.refl _ _).drew) hBW HK0.out.base HK0.out.tag.1 hmax).mono ?_; rintro e w2 ⟨i, E', cur', bM', rfl, hN2, ho2, hz2', hbm2, hB2, hK2, hcase, hrw2⟩))
  obtain ⟨vF, hvF, hOF⟩ := HK0.out.fac
  obtain ⟨aF, cF, rfl⟩ := ownsRow_slice hOF
  have hvF2 : cur'[2]? = some (.slice aF F.length cF) := by rw [ho2 2 (by decide) (by decide)]; exact hvF
  have hOF2 := own_kept (hOF.drew) hK2 (by simp) (HK0.out.facOff hvF)
  have hlt := HKK.out.lt
  have hEF := HKK.out.len
  have hX2 : St w2 142 w.heap.size #[.int .i64 x.p.k, .int .u64 ((wd x.p.p 0 : Nat) : Int), .int .u64 ((wd x.p.p 1 : Nat) : Int), .int .u64 ((wd x.p.p 2 : Nat) : Int), .int .u64 ((wd x.p.p 3 : Nat) : Int), .int .i64 ((x.a : Nat) : Int), .int .i64 ((x.b : Nat) : Int)] := St.kept (w := W.drew) HX0.out hK2 (by simp) (fun hm => by
    have h1 := hlt w.heap.size (book_sub hm)
    omega)
  have hbW2 : Below B w w2 := (HB0.out.mono hB).trans ((Below.refl _ _).drew.trans hB2)
  have hKw2 : Kept [] (kb :: (bM.toList ++ rowBlk cur 0)) w w2 := ((Kept.refl _ _ _).below HB0.out).drew.trans hK2
  have hbm3 : bM' = bM ∨ ∃ b, bM' = some b ∧ w.heap.size ≤ b := by
    rcases hbm2 with h | ⟨b, h1, h2⟩
    · exact Or.inl h
    · exact Or.inr ⟨b, h1, Nat.le_trans HB0.out.size h2⟩
  have c2 : w2.cell? ⟨kb, 2, none⟩ = some (.slice aF F.length cF) := by rw [hN2.st.cell, hvF2]
  obtain ⟨nF, hnF⟩ : ∃ nF, F.length = nF := ⟨_, rfl⟩
  have hcap : nF ≤ cF ∧ cF ≤ maxLen := by
    rcases hOF.2 with ⟨h1, h2⟩ | ⟨g, cap, cu, h1, _, _, h2, h3, _⟩
    · injection h1 with _ h1 h3
      subst h3
      rw [h1] at hnF
      exact ⟨by omega, by unfold maxLen; omega⟩
    · injection h1 with _ _ h4
      subst h4
      rw [hnF] at h2
      exact ⟨h2, h3⟩
  rw [hnF] at c2 hOF2 hvF2
  have HO2 := Lib.hid ho2
  have hsub : ∀ g, g ∈ kb :: (bM'.toList ++ rowBlk cur' 0) → g ∈ bookBlks kb cur bM ∨ w.heap.size ≤ g := fun g hg => by
    simp only [List.mem_cons, List.mem_append, Option.mem_toList] at hg
    rcases hg with h | h | h
    · exact Or.inl (by rw [h]; simp [bookBlks])
    · rcases hbm3 with e | ⟨b, e1, e2⟩
      · exact Or.inl (by rw [e] at h; simp [bookBlks, Option.mem_def.1 h])
      · rw [e1] at h; injection h with h; exact Or.inr (by omega)
    · rcases hrw2 g h with h | h
      · exact Or.inl (book_sub (by simp [h]))
      · exact Or.inr (Nat.le_trans HB0.out.size h)
  have HSUB := Lib.hid hsub
  clear hsub hrw2
  clear x0 x1 x2 x3 x4 x5 x6 hbm2
  rcases hcase with ⟨rfl, rfl, y, hy, hyx⟩ | ⟨rfl, rfl, hnw⟩
  · have hil : i < nF := by have := (List.getElem?_eq_some_iff.1 hy).1; omega
    have e1 : ((i : Int) == (nF : Int)) = false := by simp; omega
    have e2 : (i == nF) = false := by simp; omega
    have HY : Hid (∃ y, E'[i]? = some y ∧ exCells y = exCells x) := ⟨y, hy, hyx⟩
    clear hy hyx
    go_wp2_with fail
    go_ret
    exact ⟨i, E', F, cur', bM', rfl, ⟨hN2, ⟨_, hvF2, by rw [hnF]; exact hOF2⟩, hEF, HKK.out.base, HKK.out.tag⟩, fun j _ => rfl, rfl, hbm3, hbW2, hKw2.mono (fun _ h => h) (fun g hg => book_sub hg), Or.inl ⟨rfl, rfl, HY.out⟩, fun g hg => by
      simp only [bookBlks, List.mem_cons, List.mem_append] at hg
      rcases hg with h | h | h | h
      · exact HSUB.out g (by simp [h])
      · exact HSUB.out g (by simp only [List.mem_cons, List.mem_append]; exact Or.inr (Or.inl h))
      · exact HSUB.out g (by simp only [List.mem_cons, List.mem_append]; exact Or.inr (Or.inr h))
      · refine Or.inl ?_
        simp only [bookBlks, List.mem_cons, List.mem_append]
        exact Or.inr (Or.inr (Or.inr h))⟩
  · have HNW := Lib.hid hnw
    clear hnw
    have e1 : ((E.length : Int) == (nF : Int)) = true := by simp; omega
    have hlen : E.length = nF := by omega
    rw [hlen]
    have hbook2 : ∀ g, (Value.slice aF nF cF).ownBlock = some g → g ∈ rowBlk cur 2 := fun g e => by rw [← hnF] at e; exact (rowBlk_of hvF g).2 e
    have hBw2 : B ≤ w2.heap.size := by have := hbW2.size; omega
    have hfn := fas_length F
    obtain ⟨x0, x1, x2, x3, x4, x5, x6⟩ := row7 hX2
    have f2 := hN2.st.thaw 2
    have hkb2 := hN2.st.lt
    have hread : 0 < nF → ∃ g, aF = some ⟨g, 0, none⟩ ∧ g < w2.heap.size ∧ ∀ j, j < nF * 6 → w2.cell? ⟨g, j, none⟩ = (fas F)[j]? := fun h0 => by
      obtain ⟨g, h1, _, h3, h4⟩ := ownsRow_read hOF2 h0
      exact ⟨g, h1, h3, fun j hj => (h4 j hj).1⟩
    have HR := Lib.hid hread
    have HS2 := Lib.hid hN2.st
    have HN2 := Lib.hid hN2
    have HE' : Hid (F.length = nF) := hnF
    clear hread hN2 hnF hEF
    go_wp2_with fail
    go_region_law (first
      | (go_simp; go_at_call 79; refine (join_any x F f hJ kb cF nF aF w2.drew HE'.out hcap hkb2 c2 HR.out).mono ?_; rintro e w3 ⟨rfl, b3'⟩; have b3 : Below w2.heap.size w2 w3 := ⟨b3'.os, b3'.tape, b3'.output, b3'.size, b3'.block⟩; have hS3 := HS2.out.keep b3; have hO3 := ownsRow_keep hOF2 b3; have c3 : w3.cell? ⟨kb, 2, none⟩ = some (.slice aF nF cF) := (by rw [hS3.cell, hvF2]); have c4 : (w3.alloc (.cells #[.bool f.e, .int .u64 ((wd f.s 0 : Nat) : Int), .int .u64 ((wd f.s 1 : Nat) : Int), .int .u64 ((wd f.s 2 : Nat) : Int), .int .u64 ((wd f.s 3 : Nat) : Int), .int .i64 ((f.n : Nat) : Int)] 72)).cell? ⟨kb, 2, none⟩ = some (.slice aF nF cF) := (by rw [(hS3.alloc _).cell, hvF2]); have hBw3 : B ≤ w3.heap.size := (by have := b3.size; omega))
      | (refine step_append_lies _ (by rfl) _ _ _ (by rfl) B 72 i0 (.agg #[.bool false, .int .u64 0, .int .u64 0, .int .u64 0, .int .u64 0, .int .i64 0]) 6 48 Try.underlying111 hi hz0 hz1 hz2 (by rfl) (by decide) _ nF (fas F) (by rfl) (hO3.alloc _) ⟨w3.heap.size, 0, none⟩ 1 1 (faCells f) (by rfl) (by rfl) (World.news_of_block (cs := #[.bool f.e, .int .u64 ((wd f.s 0 : Nat) : Int), .int .u64 ((wd f.s 1 : Nat) : Int), .int .u64 ((wd f.s 2 : Nat) : Int), .int .u64 ((wd f.s 3 : Nat) : Int), .int .i64 ((f.n : Nat) : Int)]) (by first | exact heap_alloc_new _ _ | exact St.new _ _ _)) (by intro u hu; simp [faCells] at hu; rcases hu with rfl | rfl | rfl | rfl | rfl | rfl <;> rfl) (by omega) (by unfold maxLen; omega) (by omega) (by simp; omega) _ (by rfl) ?_
         intro gg cap6 w6 hown6 hgrow6 hat6 hlt6
         have hS6 : St w6 Tk kb cur' := (hS3.alloc (.cells #[.bool f.e, .int .u64 ((wd f.s 0 : Nat) : Int), .int .u64 ((wd f.s 1 : Nat) : Int), .int .u64 ((wd f.s 2 : Nat) : Int), .int .u64 ((wd f.s 3 : Nat) : Int), .int .i64 ((f.n : Nat) : Int)] 72)).grown_own (hO3.alloc (.cells #[.bool f.e, .int .u64 ((wd f.s 0 : Nat) : Int), .int .u64 ((wd f.s 1 : Nat) : Int), .int .u64 ((wd f.s 2 : Nat) : Int), .int .u64 ((wd f.s 3 : Nat) : Int), .int .i64 ((f.n : Nat) : Int)] 72)) (Ne.symm HKK.out.tag.2) hgrow6
         have f6 := hS6.thaw 2
         have c6 : w6.cell? ⟨kb, 2, none⟩ = some (.slice aF nF cF) := (by rw [hS6.cell, hvF2])))
    all_goals
      have hN3 := HN2.out.below b3
      have hN3a := hN3.below ((Below.refl _ _).alloc (Nat.le_refl _) (.cells #[.bool f.e, .int .u64 ((wd f.s 0 : Nat) : Int), .int .u64 ((wd f.s 1 : Nat) : Int), .int .u64 ((wd f.s 2 : Nat) : Int), .int .u64 ((wd f.s 3 : Nat) : Int), .int .i64 ((f.n : Nat) : Int)] 72))
      have hO3a := hO3.alloc (.cells #[.bool f.e, .int .u64 ((wd f.s 0 : Nat) : Int), .int .u64 ((wd f.s 1 : Nat) : Int), .int .u64 ((wd f.s 2 : Nat) : Int), .int .u64 ((wd f.s 3 : Nat) : Int), .int .i64 ((f.n : Nat) : Int)] 72)
      obtain ⟨vE, hvE, hOE⟩ := hN3a.row
      have hO7 := own_set hown6 hS6 (Ne.symm HKK.out.tag.2) 2 (.slice (some ⟨gg, 0, none⟩) (nF + 1) cap6)
      have hOE6 := own_grown_own hOE hO3a (by decide) hgrow6
      have hOE7 := own_set hOE6 hS6 (Ne.symm HKK.out.tag.1) 2 (.slice (some ⟨gg, 0, none⟩) (nF + 1) cap6)
      have hS7 := hS6.set 2 (.slice (some ⟨gg, 0, none⟩) (nF + 1) cap6)
      have h2s : 2 < cur'.size := (Array.getElem?_eq_some_iff.1 hvF2).1
      have hl : (F ++ [f]).length = nF + 1 := by simp [HE'.out]
      have hNum : NumE (w6.setCell ⟨kb, 2, none⟩ (.slice (some ⟨gg, 0, none⟩) (nF + 1) cap6)) B Tk kb (cur'.setIfInBounds 2 (.slice (some ⟨gg, 0, none⟩) (nF + 1) cap6)) 0 (E ++ [x]) bM' := by
        refine ⟨hS7, ⟨vE, ?_, hOE7⟩, ?_, HN2.out.none_, fun b e => ?_⟩
        · rw [Array.getElem?_setIfInBounds_ne (by decide)]; exact hvE
        · rw [Array.getElem?_setIfInBounds_ne (by decide)]; exact HN2.out.map
        · obtain ⟨h1, h2⟩ := hN3a.some_ b e
          exact ⟨h1, (h2.grown_own hO3a hgrow6).set hS6⟩
      have hB7 : Below B w (w6.setCell ⟨kb, 2, none⟩ (.slice (some ⟨gg, 0, none⟩) (nF + 1) cap6)) :=
        (below_grown_own ((hbW2.trans (b3.mono hBw2)).alloc hBw3 (.cells #[.bool f.e, .int .u64 ((wd f.s 0 : Nat) : Int), .int .u64 ((wd f.s 1 : Nat) : Int), .int .u64 ((wd f.s 2 : Nat) : Int), .int .u64 ((wd f.s 3 : Nat) : Int), .int .i64 ((f.n : Nat) : Int)] 72)) hO3a (by simp; omega) hgrow6).setCell (p := ⟨kb, 2, none⟩) HKK.out.base _
      have hK7 : Kept [] (bookBlks kb cur bM) w (w6.setCell ⟨kb, 2, none⟩ (.slice (some ⟨gg, 0, none⟩) (nF + 1) cap6)) :=
        ((((hKw2.mono (fun _ h => h) (fun g hg => book_sub hg)).below b3).alloc (.cells #[.bool f.e, .int .u64 ((wd f.s 0 : Nat) : Int), .int .u64 ((wd f.s 1 : Nat) : Int), .int .u64 ((wd f.s 2 : Nat) : Int), .int .u64 ((wd f.s 3 : Nat) : Int), .int .i64 ((f.n : Nat) : Int)] 72)).grown hgrow6 (fun g e => Or.inl (by
          simp only [bookBlks, List.mem_cons, List.mem_append]
          exact Or.inr (Or.inr (Or.inr (hbook2 g e)))))).setCell _ _ (Or.inl (by simp [bookBlks]))
      have hgg : gg ∈ rowBlk cur 2 ∨ w.heap.size ≤ gg := by
        rcases hat6 with h | h
        · exact Or.inl (hbook2 gg h)
        · have e4 := hbW2.size
          have e5 := b3.size
          have e6 : w.heap.size ≤ w2.heap.size := Nat.le_trans HB0.out.size hB2.size
          have e7 : (w3.alloc (.cells #[.bool f.e, .int .u64 ((wd f.s 0 : Nat) : Int), .int .u64 ((wd f.s 1 : Nat) : Int), .int .u64 ((wd f.s 2 : Nat) : Int), .int .u64 ((wd f.s 3 : Nat) : Int), .int .i64 ((f.n : Nat) : Int)] 72)).heap.size = w3.heap.size + 1 := by simp
          exact Or.inr (by rw [h, e7]; omega)
      have HGG := Lib.hid hgg
      clear hgg
      clear c6 f6 hgrow6 hat6 hlt6 hown6 hO3 hO3a hOE hOE6 hN3 hN3a c3 c4 b3' hS6
      go_wp2_with fail
      go_ret
      refine ⟨nF, E ++ [x], F ++ [f], _, bM', rfl, ⟨hNum, ⟨.slice (some ⟨gg, 0, none⟩) (nF + 1) cap6, ?_, ?_⟩, by simp [HE'.out, hlen], HKK.out.base, HKK.out.tag⟩, fun j hj => ?_, ?_, hbm3, hB7, hK7, Or.inr ⟨rfl, rfl, hlen.symm, HNW.out⟩, fun g hg => ?_⟩
      · rw [Array.getElem?_setIfInBounds_self, if_pos h2s]
      · rw [hl, fas_snoc]; exact hO7
      · rw [Array.getElem?_setIfInBounds_ne (by omega), HO2.out j (by omega) (by omega)]
      · rw [Array.size_setIfInBounds]; exact hz2'
      · have e0 : rowBlk (cur'.setIfInBounds 2 (.slice (some ⟨gg, 0, none⟩) (nF + 1) cap6)) 0 = rowBlk cur' 0 := by unfold rowBlk; rw [Array.getElem?_setIfInBounds_ne (by decide)]
        have e1 : rowBlk (cur'.setIfInBounds 2 (.slice (some ⟨gg, 0, none⟩) (nF + 1) cap6)) 2 = [gg] := by
          unfold rowBlk
          rw [Array.getElem?_setIfInBounds_self, if_pos h2s]
          rfl
        simp only [bookBlks, List.mem_cons, List.mem_append, e0, e1, List.not_mem_nil, or_false] at hg
        rcases hg with h | h | h | h
        · exact HSUB.out g (by simp [h])
        · exact HSUB.out g (by simp only [List.mem_cons, List.mem_append]; exact Or.inr (Or.inl h))
        · exact HSUB.out g (by simp only [List.mem_cons, List.mem_append]; exact Or.inr (Or.inr h))
        · rw [h]
          rcases HGG.out with h | h
          · refine Or.inl ?_
            simp only [bookBlks, List.mem_cons, List.mem_append]
            exact Or.inr (Or.inr (Or.inr h))
          · exact Or.inr h
end Go.Proofs.Ytkdhdlokilgccaa
