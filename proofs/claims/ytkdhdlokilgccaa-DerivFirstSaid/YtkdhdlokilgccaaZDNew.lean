import Derived.Test.YtkdhdlokilgccaaZDBehindA
namespace Go.Proofs.Ytkdhdlokilgccaa
open Go.RowKit Go.Maps Go.WideElems Go.ChangeMaps Go.MapKept
set_option linter.unusedVariables false

/-- A reader of a tree, and what there is to read. -/
def NewPost (t : Rx) (w : World) (e : Ending) (w' : World) : Prop :=
  ∃ (u : Rx) (kr bl : Nat) (cur : Array Value) (E : List Ex) (F : List Fa) (T : List Tl) (b1 b2 n0 bD i m : Nat) (l : List Nat) (vA vI : Value), e = .returned (.tuple #[.pointer (some ⟨kr, 0, none⟩), .pointer (some ⟨bl, 0, none⟩)]) ∧ RP w' w.heap.size kr cur E F T b1 b2 n0 (allTails u) bl l m vA vI ∧ (∀ j, j ∈ l ↔ j = i) ∧ DnAt w' w.heap.size cur E T bD 0 [] ∧ bD ∉ rdBlks kr cur b1 b2 ∧
    (∀ g, g ∈ pileBlks bl vA vI → g ≠ bD) ∧ TD E T i (pre u []) ∧ u.wf ∧ (∀ s, Lan u s ↔ Lan t s) ∧ u.flat.length ≤ t.flat.length ∧ Below w.heap.size w w'
theorem num_new (w : World) (B kr bD : Nat) (hB : B ≤ kr) (hst : St w 123 kr #[.slice none 0 0, .map none, .slice none 0 0, .slice none 0 0, .map none, .map (some bD)]) :
    NumT w B 123 kr #[.slice none 0 0, .map none, .slice none 0 0, .slice none 0 0, .map none, .map (some bD)] 3 [] none ∧ BookAt w B 123 kr #[.slice none 0 0, .map none, .slice none 0 0, .slice none 0 0, .map none, .map (some bD)] [] [] none :=
  ⟨⟨hst, ⟨_, rfl, World.ownsRow_nil _ _ _ _⟩, rfl, fun _ => rfl, fun b e => by cases e⟩, ⟨⟨hst, ⟨_, rfl, World.ownsRow_nil _ _ _ _⟩, rfl, fun _ => rfl, fun b e => by cases e⟩, ⟨_, rfl, World.ownsRow_nil _ _ _ _⟩, rfl, hB, by decide, by decide⟩⟩
theorem si_new {E : List Ex} {F : List Fa} {i : Nat} {u : Rx} (hI : Inv E F) (hd : Den E i u) (hl : E.length ≤ 400) (hu : u.flat.length ≤ 400) : SI E F [⟨-1, -1⟩] E.length (allTails u) := by
  refine ⟨hI, fun i x hx hi => ?_, ⟨hl, Nat.le_refl _⟩, rfl, by simp, fun i hi => ?_, allTails_closed u hu⟩
  · have := (List.getElem?_eq_some_iff.1 hx).1; omega
  · have e : i = 0 := by simp at hi; omega
    subst e
    exact ⟨[], .nil (by simp), allTails_nil u⟩

set_option maxHeartbeats 2000000 in
set_option maxRecDepth 100000 in
theorem new_any (t : Rx) (hen : EnterOk t) (a : Option Addr) (n c : Nat) (w : World) (hL : RxAt w a t.flat) (hn : t.flat.length = n) (hmax : n ≤ 400) (hcap : n ≤ c ∧ c ≤ maxLen) :
    Calls Try.prog 35 #[.slice a n c] w (NewPost t w) := by
  have hmm := @run_makeMap Try.prog
  have hA : Below w.heap.size w ((w.alloc (.map #[] 0)).alloc (.cells #[.slice none 0 0, .map none, .slice none 0 0, .slice none 0 0, .map none, .map (some w.heap.size)] 123)) := ((Below.refl _ _).alloc (Nat.le_refl _) _).alloc (by simp) _
  have hst := St.new (w.alloc (.map #[] 0)) 123 #[.slice none 0 0, .map none, .slice none 0 0, .slice none 0 0, .map none, .map (some w.heap.size)]
  have hs1 : (w.alloc (.map #[] 0)).heap.size = w.heap.size + 1 := by simp
  rw [hs1] at hst
  have hM0 : MapOf ((w.alloc (.map #[] 0)).alloc (.cells #[.slice none 0 0, .map none, .slice none 0 0, .slice none 0 0, .map none, .map (some w.heap.size)] 123)) 130 w.heap.size 0 (fun _ _ => False) :=
    (MapOf.made w 130 (fun _ _ => False)).same (Below.heap_alloc _ _ _ (by rw [hs1]; omega))
  have hsz : ((w.alloc (.map #[] 0)).alloc (.cells #[.slice none 0 0, .map none, .slice none 0 0, .slice none 0 0, .map none, .map (some w.heap.size)] 123)).heap.size = w.heap.size + 2 := by simp
  obtain ⟨hNT, hBK⟩ := num_new _ w.heap.size (w.heap.size + 1) w.heap.size (by omega) hst
  have H0 := Lib.hid (And.intro hA (And.intro hM0 (And.intro hNT (And.intro hBK (And.intro hL (And.intro hn (And.intro hmax hcap)))))))
  have HSZ := Lib.hid hsz
  have HEN := Lib.hid hen
  clear hA hst hs1 hM0 hNT hBK hL hn hcap hen hsz
  go_enter Try.func35, Try.ntmps35
  go_wp2_with fail
  generalize (w.alloc (.map #[] 0)).alloc (.cells #[.slice none 0 0, .map none, .slice none 0 0, .slice none 0 0, .map none, .map (some w.heap.size)] 123) = A at H0 HSZ ⊢
  have hBA : w.heap.size ≤ A.heap.size := by have := HSZ.out; omega
  refine (ofT_any A w.heap.size 123 (w.heap.size + 1) _ 3 [] none ⟨-1, -1⟩ ⟨by decide, by decide, by decide, by decide⟩ H0.out.2.2.1 hBA (by omega) (by decide) (by simp)).mono ?_
  rintro e w2 ⟨i2, T2, cur2, bM2, rfl, hN2, ho2, hz2, hbm2, hB2, hk2, hcase2, hrw2⟩
  have h2 : T2 = [⟨-1, -1⟩] := by
    rcases hcase2 with ⟨_, _, y, hy, _⟩ | ⟨h, _⟩
    · simp at hy
    · simpa using h
  subst h2
  obtain ⟨b2, rfl, hb2⟩ : ∃ b, bM2 = some b ∧ A.heap.size ≤ b := by
    rcases hbm2 with h | h
    · subst h; have := hN2.none_ rfl; simp at this
    · exact h
  have hBK2 : BookAt w2 w.heap.size 123 (w.heap.size + 1) cur2 [] [] none :=
    H0.out.2.2.2.1.over hk2 hN2.st (fun j hj => ho2 j (by omega) (by omega)) (fun b e => by cases e) (fun g hg => by simp [rowBlk, Value.ownBlock] at hg) (fun g hg => by simp [rowBlk, Value.ownBlock] at hg)
  have hbw2 : Below w.heap.size w w2 := H0.out.1.trans hB2
  have hMw2 := H0.out.2.1.kept hk2 (by simp [rowBlk, Value.ownBlock])
  have hc5 : cur2[5]? = some (.map (some w.heap.size)) := by rw [ho2 5 (by decide) (by decide)]; rfl
  have hBw2 : w.heap.size ≤ w2.heap.size := hbw2.size
  have HC := Lib.hid (HEN.out w w2 w.heap.size 123 (w.heap.size + 1) cur2 a n c hBK2 hBw2 H0.out.2.2.2.2.1 (Nat.le_refl _) hbw2 H0.out.2.2.2.2.2.1 H0.out.2.2.2.2.2.2.1 H0.out.2.2.2.2.2.2.2)
  have H2 := Lib.hid (And.intro hN2 (And.intro hbw2 (And.intro hMw2 (And.intro hc5 hb2))))
  clear hN2 ho2 hz2 hbm2 hB2 hk2 hcase2 hrw2 hBK2 hbw2 hMw2 hc5 hb2
  go_wp2_with fail
  refine HC.out.mono ?_
  rintro e w3 ⟨i3, E, F, cur3, bM3, u, rfl, hK3, hI3, hD3, hLan, hlen, hB3, hk3, ho3, hz3, hnb3, hEl⟩
  obtain ⟨b1, rfl⟩ : ∃ b, bM3 = some b := by
    cases bM3 with
    | none => have h1 := hK3.num.none_ rfl; have h2 := hD3.lt; rw [h1] at h2; simp at h2
    | some b => exact ⟨b, rfl⟩
  have hb1 := hnb3 b1 rfl
  have hm2 := (H2.out.1.some_ b2 rfl).2
  have hm2l := hm2.lt
  have hst2 := H2.out.1.st
  have hbn : b2 ≠ w.heap.size + 1 := st_ne_map hst2 hm2
  have hNT3 : NumT w3 w.heap.size 123 (w.heap.size + 1) cur3 3 [⟨-1, -1⟩] (some b2) := by
    obtain ⟨vT, hvT, hOT⟩ := H2.out.1.row
    refine ⟨hK3.num.st, ⟨vT, by rw [ho3 3 (by decide)]; exact hvT, own_kept hOT hk3 (by decide) (fun g e => ?_)⟩, by rw [ho3 4 (by decide)]; exact H2.out.1.map, H2.out.1.none_, fun b e => ?_⟩
    · simp only [List.mem_singleton]
      exact own_ne hOT hst2 (by decide) g e
    · injection e with e
      subst e
      exact ⟨(H2.out.1.some_ _ rfl).1, hm2.kept hk3 (by simpa using hbn)⟩
  have hu4 : u.flat.length ≤ 400 := by have := H0.out.2.2.2.2.2.1; omega
  have hsi := si_new hI3 hD3 (by have := H0.out.2.2.2.2.2.1; omega) hu4
  have hRd3 : RdAt w3 w.heap.size (w.heap.size + 1) cur3 E F [⟨-1, -1⟩] b1 b2 E.length (allTails u) := ⟨hK3, hNT3, hsi, by omega⟩
  have hbw3 : Below w.heap.size w w3 := H2.out.2.1.trans hB3
  have hDl : w.heap.size < w2.heap.size := H2.out.2.2.1.lt
  have hMw3 := H2.out.2.2.1.kept hk3 (by simp)
  have hc53 : cur3[5]? = some (.map (some w.heap.size)) := (ho3 5 (by decide)).trans H2.out.2.2.2.1
  have hDn3 : DnAt w3 w.heap.size cur3 E [⟨-1, -1⟩] w.heap.size 0 [] := ⟨hc53, hMw3.mono (Nat.le_refl _) (fun _ _ h => h.elim), Nat.le_refl _⟩
  have hnD : w.heap.size ∉ rdBlks (w.heap.size + 1) cur3 b1 b2 := fun hm => by
    have hA2 := H2.out.2.2.2.2
    have hA3 := HSZ.out
    obtain ⟨es, clock, hbm, _⟩ := hMw3
    have hrow : ∀ (t : TypeId) (size n : Nat) (v : Value) (xs : List Value), w3.ownsRow w.heap.size t size v n xs → v.ownBlock ≠ some w.heap.size := fun t size n v xs ho e => by
      obtain ⟨c', fz, hc'⟩ := own_kind ho _ e
      rw [hbm] at hc'
      cases hc'
    obtain ⟨vE, hvE, hOE⟩ := hRd3.book.num.row
    obtain ⟨vF, hvF, hOF⟩ := hRd3.book.fac
    obtain ⟨vT, hvT, hOT⟩ := hRd3.tails.row
    rcases mem_rdBlks.1 hm with e | e | e | e | e | e
    · omega
    · omega
    · omega
    · exact hrow _ _ _ _ _ hOE ((rowBlk_of hvE _).1 e)
    · exact hrow _ _ _ _ _ hOF ((rowBlk_of hvF _).1 e)
    · exact hrow _ _ _ _ _ hOT ((rowBlk_of hvT _).1 e)
  have hal3 : Below w3.heap.size w3 (w3.alloc (.cells #[.slice none 0 0, .slice none 0 0] 84)) := (Below.refl _ _).alloc (Nat.le_refl _) _
  have hB3w : w.heap.size ≤ w3.heap.size := hbw3.size
  have hB4w : w.heap.size ≤ (w3.alloc (.cells #[.slice none 0 0, .slice none 0 0] 84)).heap.size := by simp; omega
  have H3 := Lib.hid (And.intro hRd3 (And.intro hDn3 (And.intro hnD (And.intro hD3 (And.intro hLan (And.intro hlen (And.intro hbw3 hal3)))))))
  have hDl3 : w.heap.size < w3.heap.size := by have := hB3.size; omega
  clear hK3 hI3 hD3 hLan hlen hB3 hk3 ho3 hz3 hnb3 hEl hb1 hm2 hm2l hst2 hbn hNT3 hu4 hsi hRd3 hbw3 hDl hMw3 hc53 hDn3 hnD hal3
  go_wp2_with fail
  refine (prepend_any u _ w.heap.size (w.heap.size + 1) cur3 E F [⟨-1, -1⟩] b1 b2 E.length (allTails u) i3 0 [] (H3.out.1.below H3.out.2.2.2.2.2.2.2) hB4w H3.out.2.2.2.1 (.nil (by simp)) (allTails_start u)).mono ?_
  rintro e w5 ⟨i5, T5, cur5, b25, rfl, hR5, hD5, hx5, ho5, hz5, hF5⟩
  have hP0 := pile_new w3 w.heap.size hB3w
  have hRP0 : RP (w3.alloc (.cells #[.slice none 0 0, .slice none 0 0] 84)) w.heap.size (w.heap.size + 1) cur3 E F [⟨-1, -1⟩] b1 b2 E.length (allTails u) w3.heap.size [] 0 (.slice none 0 0) (.slice none 0 0) :=
    ⟨H3.out.1.below H3.out.2.2.2.2.2.2.2, hP0, fun g hg hm => by
      have h1 := H3.out.1.lt g hm
      have h2 : g = w3.heap.size := by simpa [pileBlks, Value.ownBlock] using hg
      omega⟩
  obtain ⟨hRP5, hCF5⟩ := hRP0.reader hR5 hF5
  have hi5 : i5 < 1000000 := by have := hD5.lt; have := hR5.si.tlen; omega
  have hB5w : w.heap.size ≤ w5.heap.size := by have := hF5.below.size; omega
  have hk5 : Kept [] (rdBlks (w.heap.size + 1) cur3 b1 b2) w3 w5 := ((Kept.refl _ _ _).below H3.out.2.2.2.2.2.2.2).trans (hF5.kept.mono (fun _ h => h) (fun g hg => by simpa using hg))
  have hDn5 := H3.out.2.1.step (X' := []) hk5 (ho5 5 (by decide)) (Ext.refl _) hx5 H3.out.2.2.1 (fun g c fz hc _ => H3.out.1.noint g c fz hc) (fun g h => by cases h)
  have hnD5 : w.heap.size ∉ rdBlks (w.heap.size + 1) cur5 b1 b25 := fun hm => by
    rcases hF5.sub _ hm with h | h
    · exact H3.out.2.2.1 h
    · simp at h; omega
  have H5 := Lib.hid (And.intro hRP5 (And.intro hCF5 (And.intro hDn5 (And.intro hnD5 (And.intro hD5 (H3.out.2.2.2.2.2.2.1.trans ((H3.out.2.2.2.2.2.2.2.mono hB3w).trans hF5.below)))))))
  clear hR5 hD5 hx5 ho5 hz5 hF5 hP0 hRP0 hRP5 hCF5 hk5 hDn5 hnD5
  go_wp2_with fail
  refine (pile_add w5 w.heap.size w3.heap.size [] 0 _ _ H5.out.1.pl hB5w i5 hi5).mono ?_
  rintro e w6 ⟨l6, m6, vA6, vI6, rfl, hP6, hl6, hF6⟩
  have H6 := Lib.hid (And.intro hP6 (And.intro hl6 hF6))
  clear hP6 hl6 hF6
  go_wp2_with fail
  go_ret2
  obtain ⟨hRP5, hCF5, hDn5, hnD5, hD5, hbw5⟩ := H5.out
  obtain ⟨hP6, hl6, hF6⟩ := H6.out
  obtain ⟨hRP6, hCF6⟩ := hRP5.pile hP6 hF6
  have hpb : ∀ g, g ∈ pileBlks w3.heap.size (.slice none 0 0) (.slice none 0 0) → g = w3.heap.size := fun g hg => by simpa [pileBlks, Value.ownBlock] using hg
  have hint : ∀ g c fz, w5.heap[g]? = some (.cells c 3 fz) → g ∉ ([] : List Nat) → g ∉ pileBlks w3.heap.size (.slice none 0 0) (.slice none 0 0) := fun g c fz hc _ hg => by
    rw [hpb g hg] at hc
    have h1 : w5.heap[w3.heap.size]? = _ := hRP5.pl.st
    rw [h1] at hc
    injection hc with hc
    injection hc with _ hc
    exact absurd hc (by decide)
  have hDn6 := hDn5.step (X' := []) hF6.kept rfl (Ext.refl _) (Ext.refl _) (fun hm => by have := hpb _ hm; omega) hint (fun g h => by cases h)
  exact ⟨u, w.heap.size + 1, w3.heap.size, cur5, E, F, T5, b1, b25, E.length, w.heap.size, i5, m6, l6, vA6, vI6, rfl, hRP6, fun j => by rw [hl6 j]; simp, hDn6, hnD5, fun g hg => by
    rcases hF6.sub g hg with h | h
    · have := hpb g h; omega
    · have := hRP5.pl.st.lt; omega, hD5, H3.out.2.2.2.1.wf, H3.out.2.2.2.2.1, H3.out.2.2.2.2.2.1, hbw5.trans hF6.below⟩
end Go.Proofs.Ytkdhdlokilgccaa
