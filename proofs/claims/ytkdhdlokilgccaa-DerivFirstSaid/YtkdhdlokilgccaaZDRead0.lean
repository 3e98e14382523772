import Derived.Test.YtkdhdlokilgccaaZDAdd
import Derived.Test.YtkdhdlokilgccaaZDPre
import Derived.Deep.RegionLaw
import Derived.Deep.QuietTactic
import Derived.BigQuiet
namespace Go.Proofs.Ytkdhdlokilgccaa
open Go.RowKit Go.Maps Go.WideElems Go.ChangeMaps Go.MapKept
set_option linter.unusedVariables false

theorem PileAt.kept {w w' : World} {B b : Nat} {l : List Nat} {m : Nat} {vA vI : Value} {bs : List Nat} (h : PileAt w B b l m vA vI) (k : Kept [] bs w w') (hd : ∀ g, g ∈ pileBlks b vA vI → g ∉ bs) : PileAt w' B b l m vA vI :=
  ⟨h.st.kept k (by simp) (hd b (mem_pileBlks.2 (Or.inl rfl))), own_kept h.all k (by simp) (fun g e => hd g (mem_pileBlks.2 (Or.inr (Or.inl e)))), own_kept h.tin k (by simp) (fun g e => hd g (mem_pileBlks.2 (Or.inr (Or.inr e)))), h.lt, h.big, h.nd, h.base⟩
theorem PileAt.mem_lt {w : World} {B b : Nat} {l : List Nat} {m : Nat} {vA vI : Value} (h : PileAt w B b l m vA vI) : ∀ g, g ∈ pileBlks b vA vI → g < w.heap.size := by
  intro g hg
  rcases mem_pileBlks.1 hg with e | e | e
  · rw [e]; exact h.st.lt
  · exact own_lt h.all g e
  · exact own_lt h.tin g e
theorem RdAt.kept {w w' : World} {B kr : Nat} {cur : Array Value} {E : List Ex} {F : List Fa} {T : List Tl} {b1 b2 n0 : Nat} {S : List (List Rx)} {bs : List Nat} (h : RdAt w B kr cur E F T b1 b2 n0 S) (k : Kept [] bs w w') (hd : ∀ g, g ∈ rdBlks kr cur b1 b2 → g ∉ bs) : RdAt w' B kr cur E F T b1 b2 n0 S := by
  refine ⟨h.book.kept k (fun g hg => hd g ?_), h.tails.kept k (hd kr (mem_rdBlks.2 (Or.inl rfl))) (fun b e => ?_) (fun g e => hd g (mem_rdBlks.2 (Or.inr (Or.inr (Or.inr (Or.inr (Or.inr e))))))), h.si, h.ne⟩
  · simp only [bookBlks, List.mem_cons, List.mem_append, Option.mem_toList, Option.some.injEq] at hg
    rw [mem_rdBlks]
    rcases hg with e | e | e | e
    · exact Or.inl e
    · exact Or.inr (Or.inl e.symm)
    · exact Or.inr (Or.inr (Or.inr (Or.inl e)))
    · exact Or.inr (Or.inr (Or.inr (Or.inr (Or.inl e))))
  · injection e with e
    exact hd b (mem_rdBlks.2 (Or.inr (Or.inr (Or.inl e.symm))))
/-- A reader and a pile beside it. -/
structure RP (w : World) (B kr : Nat) (cur : Array Value) (E : List Ex) (F : List Fa) (T : List Tl) (b1 b2 n0 : Nat) (S : List (List Rx)) (bp : Nat) (l : List Nat) (m : Nat) (vA vI : Value) : Prop where
  rd : RdAt w B kr cur E F T b1 b2 n0 S
  pl : PileAt w B bp l m vA vI
  dis : ∀ g, g ∈ pileBlks bp vA vI → g ∉ rdBlks kr cur b1 b2
structure CFr (B kr bp : Nat) (w : World) (cur : Array Value) (b1 b2 : Nat) (vA vI : Value) (w' : World) (cur' : Array Value) (b1' b2' : Nat) (vA' vI' : Value) : Prop where
  below : Below B w w'
  kept : Kept [] (rdBlks kr cur b1 b2 ++ pileBlks bp vA vI) w w'
  subR : ∀ g, g ∈ rdBlks kr cur' b1' b2' → g ∈ rdBlks kr cur b1 b2 ∨ w.heap.size ≤ g
  subP : ∀ g, g ∈ pileBlks bp vA' vI' → g ∈ pileBlks bp vA vI ∨ w.heap.size ≤ g
theorem CFr.trans {B kr bp : Nat} {w w' w'' : World} {cur cur' cur'' : Array Value} {b1 b2 b1' b2' b1'' b2'' : Nat} {vA vI vA' vI' vA'' vI'' : Value} (h : CFr B kr bp w cur b1 b2 vA vI w' cur' b1' b2' vA' vI') (k : CFr B kr bp w' cur' b1' b2' vA' vI' w'' cur'' b1'' b2'' vA'' vI'') : CFr B kr bp w cur b1 b2 vA vI w'' cur'' b1'' b2'' vA'' vI'' := by
  have hs := h.below.size
  refine ⟨h.below.trans k.below, fun i o hi ho hb => ?_, fun g hg => ?_, fun g hg => ?_⟩
  · have hlt := (Array.getElem?_eq_some_iff.1 hi).1
    refine k.kept i o (h.kept i o hi ho hb) ho (fun hm => ?_)
    rcases List.mem_append.1 hm with hm | hm
    · rcases h.subR i hm with h1 | h1
      · exact hb (List.mem_append_left _ h1)
      · omega
    · rcases h.subP i hm with h1 | h1
      · exact hb (List.mem_append_right _ h1)
      · omega
  · rcases k.subR g hg with h1 | h1
    · exact h.subR g h1
    · exact Or.inr (by omega)
  · rcases k.subP g hg with h1 | h1
    · exact h.subP g h1
    · exact Or.inr (by omega)
theorem CFr.of_below {B kr bp : Nat} {w w' : World} (cur : Array Value) (b1 b2 : Nat) (vA vI : Value) (h : Below w.heap.size w w') (hB : B ≤ w.heap.size) : CFr B kr bp w cur b1 b2 vA vI w' cur b1 b2 vA vI := ⟨h.mono hB, (Kept.refl _ _ _).below h, fun _ h => Or.inl h, fun _ h => Or.inl h⟩
/-- A block that is none of theirs stays. -/
theorem CFr.st {B kr bp : Nat} {w w' : World} {cur cur' : Array Value} {b1 b2 b1' b2' : Nat} {vA vI vA' vI' : Value} (h : CFr B kr bp w cur b1 b2 vA vI w' cur' b1' b2' vA' vI') {t g : Nat} {cs : Array Value} (hg : St w t g cs) (hn : g ∉ rdBlks kr cur b1 b2) (hx : g ∉ pileBlks bp vA vI) : St w' t g cs :=
  hg.kept h.kept (by simp) (fun hm => (List.mem_append.1 hm).elim hn hx)
theorem RP.below {w w' : World} {B kr : Nat} {cur : Array Value} {E : List Ex} {F : List Fa} {T : List Tl} {b1 b2 n0 : Nat} {S : List (List Rx)} {bp : Nat} {l : List Nat} {m : Nat} {vA vI : Value} (h : RP w B kr cur E F T b1 b2 n0 S bp l m vA vI) (k : Below w.heap.size w w') : RP w' B kr cur E F T b1 b2 n0 S bp l m vA vI :=
  ⟨h.rd.below k, h.pl.kept (bs := []) ((Kept.refl _ _ _).below k) (by simp), h.dis⟩
/-- .. behind a call of the reader's alone. -/
theorem RP.reader {w w' : World} {B kr : Nat} {cur cur' : Array Value} {E E' : List Ex} {F F' : List Fa} {T T' : List Tl} {b1 b2 b1' b2' n0 : Nat} {S : List (List Rx)} {bp : Nat} {l : List Nat} {m : Nat} {vA vI : Value} (h : RP w B kr cur E F T b1 b2 n0 S bp l m vA vI)
    (hR : RdAt w' B kr cur' E' F' T' b1' b2' n0 S) (hF : RFr B kr [] w cur b1 b2 w' cur' b1' b2') : RP w' B kr cur' E' F' T' b1' b2' n0 S bp l m vA vI ∧ CFr B kr bp w cur b1 b2 vA vI w' cur' b1' b2' vA vI := by
  refine ⟨⟨hR, h.pl.kept hF.kept (fun g hg hm => h.dis g hg (by simpa using hm)), fun g hg hm => ?_⟩, ⟨hF.below, hF.kept.mono (fun _ h => h) (fun g hg => List.mem_append_left _ (by simpa using hg)), hF.sub, fun _ h => Or.inl h⟩⟩
  · rcases hF.sub g hm with h1 | h1
    · exact h.dis g hg h1
    · have := h.pl.mem_lt g hg; omega
/-- .. behind a call of the pile's. -/
theorem RP.pile {w w' : World} {B kr : Nat} {cur : Array Value} {E : List Ex} {F : List Fa} {T : List Tl} {b1 b2 n0 : Nat} {S : List (List Rx)} {bp : Nat} {l l' : List Nat} {m m' : Nat} {vA vI vA' vI' : Value} (h : RP w B kr cur E F T b1 b2 n0 S bp l m vA vI)
    (hP : PileAt w' B bp l' m' vA' vI') (hF : PFr B bp w vA vI w' vA' vI') : RP w' B kr cur E F T b1 b2 n0 S bp l' m' vA' vI' ∧ CFr B kr bp w cur b1 b2 vA vI w' cur b1 b2 vA' vI' := by
  refine ⟨⟨h.rd.kept hF.kept (fun g hg hm => h.dis g hm hg), hP, fun g hg hm => ?_⟩, ⟨hF.below, hF.kept.mono (fun _ h => h) (fun g hg => List.mem_append_right _ hg), fun _ h => Or.inl h, hF.sub⟩⟩
  · rcases hF.sub g hg with h1 | h1
    · exact h.dis g h1 hm
    · have := h.rd.lt g hm; omega
/-- What read leaves: the pile has got just the tails of D. -/
def ReadPost (w : World) (B kr : Nat) (cur : Array Value) (E : List Ex) (F : List Fa) (T : List Tl) (b1 b2 n0 : Nat) (S : List (List Rx)) (bp : Nat) (l : List Nat) (vA vI : Value) (D : List Rx → Prop) (e : Ending) (w' : World) : Prop :=
  ∃ (cur' : Array Value) (E' : List Ex) (F' : List Fa) (T' : List Tl) (b1' b2' : Nat) (l' : List Nat) (m' : Nat) (vA' vI' : Value), e = .returned (.tuple #[]) ∧ RP w' B kr cur' E' F' T' b1' b2' n0 S bp l' m' vA' vI' ∧ Ext E E' ∧ Ext T T' ∧
    (∀ i, i ∈ l → i ∈ l') ∧ (∀ i, i ∈ l' → i ∈ l ∨ ∃ σ, D σ ∧ TD E' T' i σ) ∧ (∀ σ, D σ → ∃ i, i ∈ l' ∧ TD E' T' i σ) ∧ (∀ j, 5 ≤ j → cur'[j]? = cur[j]?) ∧ cur'.size = cur.size ∧ CFr B kr bp w cur b1 b2 vA vI w' cur' b1' b2' vA' vI'
def ReadOk (t : Rx) : Prop := ∀ (w : World) (B kr : Nat) (cur : Array Value) (E : List Ex) (F : List Fa) (T : List Tl) (b1 b2 n0 : Nat) (S : List (List Rx)) (bp : Nat) (l : List Nat) (m : Nat) (vA vI : Value) (n b rest : Nat) (ρ : List Rx),
  RP w B kr cur E F T b1 b2 n0 S bp l m vA vI → B ≤ w.heap.size → Den E n t → b < 256 → TD E T rest ρ → (∀ σ, σ ∈ Kt t ρ → σ ∈ S) →
  Calls Try.prog 72 #[.pointer (some ⟨kr, 0, none⟩), .int .i64 n, .int .u8 b, .int .i64 rest, .pointer (some ⟨bp, 0, none⟩)] w (ReadPost w B kr cur E F T b1 b2 n0 S bp l vA vI (Rd t b ρ))
theorem below_drewN (w : World) (n : Nat) : Below w.heap.size w (w.drewN n) := ⟨rfl, rfl, rfl, by simp, fun i _ => by simp⟩
/-- One part behind another. -/
theorem read_seq {w w' w'' : World} {B kr : Nat} {cur cur' : Array Value} {E E' : List Ex} {F F' : List Fa} {T T' : List Tl} {b1 b2 b1' b2' n0 : Nat} {S : List (List Rx)} {bp : Nat} {l l' : List Nat} {vA vI vA' vI' : Value} {D1 D2 D : List Rx → Prop} {e : Ending}
    (hx1 : Ext E E') (hx2 : Ext T T') (hl : ∀ i, i ∈ l → i ∈ l') (hA : ∀ i, i ∈ l' → i ∈ l ∨ ∃ σ, D1 σ ∧ TD E' T' i σ) (hC : ∀ σ, D1 σ → ∃ i, i ∈ l' ∧ TD E' T' i σ) (ho : ∀ j, 5 ≤ j → cur'[j]? = cur[j]?) (hz : cur'.size = cur.size) (hF : CFr B kr bp w cur b1 b2 vA vI w' cur' b1' b2' vA' vI')
    (h2 : ReadPost w' B kr cur' E' F' T' b1' b2' n0 S bp l' vA' vI' D2 e w'') (hD : ∀ σ, D σ ↔ D1 σ ∨ D2 σ) : ReadPost w B kr cur E F T b1 b2 n0 S bp l vA vI D e w'' := by
  obtain ⟨cur2, E2, F2, T2, b12, b22, l2, m2, vA2, vI2, he, hRP, hy1, hy2, hl2, hA2, hC2, ho2, hz2, hF2⟩ := h2
  refine ⟨cur2, E2, F2, T2, b12, b22, l2, m2, vA2, vI2, he, hRP, hx1.trans hy1, hx2.trans hy2, fun i hi => hl2 i (hl i hi), fun i hi => ?_, fun σ hσ => ?_, fun j hj => (ho2 j hj).trans (ho j hj), hz2.trans hz, hF.trans hF2⟩
  · rcases hA2 i hi with h | ⟨σ, h1, h2⟩
    · rcases hA i h with h | ⟨σ, h1, h2⟩
      · exact Or.inl h
      · exact Or.inr ⟨σ, (hD σ).2 (Or.inl h1), h2.ext hy1 hy2⟩
    · exact Or.inr ⟨σ, (hD σ).2 (Or.inr h1), h2⟩
  · rcases (hD σ).1 hσ with h | h
    · obtain ⟨i, h1, h2⟩ := hC σ h
      exact ⟨i, hl2 i h1, h2.ext hy1 hy2⟩
    · exact hC2 σ h
/-- .. where the first adds nothing. -/
theorem read_pre {w w' w'' : World} {B kr : Nat} {cur cur' : Array Value} {E E' : List Ex} {F F' : List Fa} {T T' : List Tl} {b1 b2 b1' b2' n0 : Nat} {S : List (List Rx)} {bp : Nat} {l : List Nat} {vA vI : Value} {D : List Rx → Prop} {e : Ending}
    (hx1 : Ext E E') (hx2 : Ext T T') (ho : ∀ j, 5 ≤ j → cur'[j]? = cur[j]?) (hz : cur'.size = cur.size) (hF : CFr B kr bp w cur b1 b2 vA vI w' cur' b1' b2' vA vI)
    (h2 : ReadPost w' B kr cur' E' F' T' b1' b2' n0 S bp l vA vI D e w'') : ReadPost w B kr cur E F T b1 b2 n0 S bp l vA vI D e w'' :=
  read_seq (D1 := fun _ => False) hx1 hx2 (fun _ h => h) (fun _ h => Or.inl h) (fun _ h => h.elim) ho hz hF h2 (fun σ => by simp)
theorem read_end {w : World} {B kr : Nat} {cur : Array Value} {E : List Ex} {F : List Fa} {T : List Tl} {b1 b2 n0 : Nat} {S : List (List Rx)} {bp : Nat} {l : List Nat} {m : Nat} {vA vI : Value} {e : Ending} (he : e = .returned (.tuple #[])) (h : RP w B kr cur E F T b1 b2 n0 S bp l m vA vI) :
    ReadPost w B kr cur E F T b1 b2 n0 S bp l vA vI (fun _ => False) e w :=
  ⟨cur, E, F, T, b1, b2, l, m, vA, vI, he, h, Ext.refl _, Ext.refl _, fun _ h => h, fun _ h => Or.inl h, fun _ h => h.elim, fun _ _ => rfl, rfl, ⟨Below.refl _ _, Kept.refl _ _ _, fun _ h => Or.inl h, fun _ h => Or.inl h⟩⟩
end Go.Proofs.Ytkdhdlokilgccaa

namespace Go.Proofs.Ytkdhdlokilgccaa
open Go.RowKit Go.Maps Go.WideElems Go.ChangeMaps Go.MapKept
set_option linter.unusedVariables false

set_option maxHeartbeats 1000000 in
set_option maxRecDepth 100000 in
/-- No string of the expression starts with the byte. -/
theorem read_no (w : World) (B kr : Nat) (cur : Array Value) (E : List Ex) (F : List Fa) (T : List Tl) (b1 b2 n0 : Nat) (S : List (List Rx)) (bp : Nat) (l : List Nat) (m : Nat) (vA vI : Value) (n b rest : Nat) (ρ : List Rx) (t : Rx) (hRP : RP w B kr cur E F T b1 b2 n0 S bp l m vA vI) (hB : B ≤ w.heap.size) (hd : Den E n t) (hb : b < 256) (hr : TD E T rest ρ) (hno : ¬ ∃ s, Lan t (b :: s)) :
    Calls Try.prog 72 #[.pointer (some ⟨kr, 0, none⟩), .int .i64 n, .int .u8 b, .int .i64 rest, .pointer (some ⟨bp, 0, none⟩)] w (ReadPost w B kr cur E F T b1 b2 n0 S bp l vA vI (Rd t b ρ)) := by
  obtain ⟨gF, cF, f, c2, hgF, hnF, hF8, hcF1, hcF2, hfo, hz⟩ := hRP.rd.fact hd
  have z1 := hz 1 (by decide)
  have z2 := hz 2 (by decide)
  have z3 := hz 3 (by decide)
  have z4 := hz 4 (by decide)
  simp only [faCells, List.getElem?_cons_zero, List.getElem?_cons_succ] at z1 z2 z3 z4
  obtain ⟨nF, hnF'⟩ : ∃ nF, F.length = nF := ⟨_, rfl⟩
  rw [hnF'] at c2 hnF hF8 hcF1
  have hkb : kr < w.heap.size := hRP.rd.book.num.st.lt
  have iF : (n : Int) < (nF : Int) := by omega
  unfold maxLen at hcF2
  have HFO := Lib.hid hfo
  have hfb : f.s b = false := by
    cases h : f.s b with
    | false => rfl
    | true => exact absurd ((hfo.2.1 b hb).1 h) hno
  have HD := Lib.hid (And.intro hRP (And.intro hd (And.intro hr hno)))
  clear hRP hd hr hz hnF' hfo hno
  go_enter Try.func72, Try.ntmps72
  go_wp2_with fail
  refine (has_any f.s b hb _).mono ?_
  rintro e w1 ⟨rfl, hb1⟩
  rw [hfb]
  have HB := Lib.hid hb1
  clear hb1 hfb
  go_wp2_with fail
  refine bodyPost_ret (results_none rfl _ _ _) rfl ?_
  obtain ⟨hRP, hd, hr, hno⟩ := HD.out
  exact ⟨cur, E, F, T, b1, b2, l, m, vA, vI, rfl, hRP.below HB.out, Ext.refl _, Ext.refl _, fun _ h => h, fun _ h => Or.inl h, fun σ h => absurd (rd_first t hd.wf b hb ρ σ h) hno, fun _ _ => rfl, rfl, CFr.of_below _ _ _ _ _ HB.out hB⟩
set_option maxHeartbeats 1000000 in
set_option maxRecDepth 100000 in
theorem read_leaf (w : World) (B kr : Nat) (cur : Array Value) (E : List Ex) (F : List Fa) (T : List Tl) (b1 b2 n0 : Nat) (S : List (List Rx)) (bp : Nat) (l : List Nat) (m : Nat) (vA vI : Value) (n b rest : Nat) (ρ : List Rx) (t : Rx) (hRP : RP w B kr cur E F T b1 b2 n0 S bp l m vA vI) (hB : B ≤ w.heap.size) (hd : Den E n t) (hb : b < 256) (hr : TD E T rest ρ) (x : Ex) (hx : E[n]? = some x) (hyes : ∃ s, Lan t (b :: s)) (hk : x.p.k = 1) (ht : t = .leaf x.p) :
    Calls Try.prog 72 #[.pointer (some ⟨kr, 0, none⟩), .int .i64 n, .int .u8 b, .int .i64 rest, .pointer (some ⟨bp, 0, none⟩)] w (ReadPost w B kr cur E F T b1 b2 n0 S bp l vA vI (Rd t b ρ)) := by
  have k1 : (x.p.k == 1) = true := by rw [hk]; rfl
  have HK := Lib.hid hk
  clear hk
  have HT := Lib.hid ht
  clear ht
  obtain ⟨gF, cF, f, c2, hgF, hnF, hF8, hcF1, hcF2, hfo, hz⟩ := hRP.rd.fact hd
  have z1 := hz 1 (by decide)
  have z2 := hz 2 (by decide)
  have z3 := hz 3 (by decide)
  have z4 := hz 4 (by decide)
  simp only [faCells, List.getElem?_cons_zero, List.getElem?_cons_succ] at z1 z2 z3 z4
  obtain ⟨nF, hnF'⟩ : ∃ nF, F.length = nF := ⟨_, rfl⟩
  rw [hnF'] at c2 hnF hF8 hcF1
  have hkb : kr < w.heap.size := hRP.rd.book.num.st.lt
  have iF : (n : Int) < (nF : Int) := by omega
  unfold maxLen at hcF2
  have HFO := Lib.hid hfo
  obtain ⟨gE, cE, c0, hgE, hnE, hE8, hcE1, hcE2, hy⟩ := hRP.rd.entry hx
  have y0 := hy 0 (by decide)
  have y1 := hy 1 (by decide)
  have y2 := hy 2 (by decide)
  have y3 := hy 3 (by decide)
  have y4 := hy 4 (by decide)
  have y5 := hy 5 (by decide)
  have y6 := hy 6 (by decide)
  simp only [exCells, List.getElem?_cons_zero, List.getElem?_cons_succ, Nat.add_zero] at y0 y1 y2 y3 y4 y5 y6
  obtain ⟨nE, hnE'⟩ : ∃ nE, E.length = nE := ⟨_, rfl⟩
  rw [hnE'] at c0 hnE hE8 hcE1
  have iE : (n : Int) < (nE : Int) := by omega
  unfold maxLen at hcE2
  have hfb : f.s b = true := (hfo.2.1 b hb).2 hyes
  have HY := Lib.hid hyes
  have HRP := Lib.hid hRP
  have HX := Lib.hid hx
  have HD := Lib.hid (And.intro hd hr)
  clear hRP hd hr hz hy hnF' hnE' hfo hyes hx
  go_enter Try.func72, Try.ntmps72
  go_wp2_with fail
  refine (has_any f.s b hb _).mono ?_
  rintro e w1 ⟨rfl, hb1⟩
  rw [hfb]
  have hkb1 : kr < w1.heap.size := by have := hb1.size; omega
  have hgE1 : gE < w1.heap.size := by have := hb1.size; omega
  have c01 : w1.cell? ⟨kr, 0, none⟩ = some (.slice (some ⟨gE, 0, none⟩) nE cE) := by rw [hb1.cell (p := ⟨kr, 0, none⟩) hkb]; exact c0
  have hcl : ∀ j, w1.cell? ⟨gE, j, none⟩ = w.cell? ⟨gE, j, none⟩ := fun j => hb1.cell (p := ⟨gE, j, none⟩) hgE
  rw [← hcl] at y0 y1 y2 y3 y4 y5 y6
  have HB := Lib.hid hb1
  have hbx : Below w1.heap.size w1 (w1.alloc (.cells #[.int .i64 x.p.k, .int .u64 ((wd x.p.p 0 : Nat) : Int), .int .u64 ((wd x.p.p 1 : Nat) : Int), .int .u64 ((wd x.p.p 2 : Nat) : Int), .int .u64 ((wd x.p.p 3 : Nat) : Int), .int .i64 ((x.a : Nat) : Int), .int .i64 ((x.b : Nat) : Int)] 142)) := (Below.refl _ _).alloc (Nat.le_refl _) _
  have hX := St.new w1 142 #[.int .i64 x.p.k, .int .u64 ((wd x.p.p 0 : Nat) : Int), .int .u64 ((wd x.p.p 1 : Nat) : Int), .int .u64 ((wd x.p.p 2 : Nat) : Int), .int .u64 ((wd x.p.p 3 : Nat) : Int), .int .i64 ((x.a : Nat) : Int), .int .i64 ((x.b : Nat) : Int)]
  have hB1 : B ≤ w1.heap.size := by have := hb1.size; omega
  have HR1 := Lib.hid ((HRP.out.below hb1).below hbx)
  have HF1 := Lib.hid ((CFr.of_below (kr := kr) (bp := bp) cur b1 b2 vA vI hb1 hB).trans (CFr.of_below cur b1 b2 vA vI hbx hB1))
  have hB2 : B ≤ (w1.alloc (.cells #[.int .i64 x.p.k, .int .u64 ((wd x.p.p 0 : Nat) : Int), .int .u64 ((wd x.p.p 1 : Nat) : Int), .int .u64 ((wd x.p.p 2 : Nat) : Int), .int .u64 ((wd x.p.p 3 : Nat) : Int), .int .i64 ((x.a : Nat) : Int), .int .i64 ((x.b : Nat) : Int)] 142)).heap.size := by simp; omega
  clear hb1 hfb c2 z1 z2 z3 z4 hcl c0
  go_upto_region 2 with (fail)
  clear c01 y0 y1 y2 y3 y4 y5 y6
  generalize w1.alloc (.cells #[.int .i64 x.p.k, .int .u64 ((wd x.p.p 0 : Nat) : Int), .int .u64 ((wd x.p.p 1 : Nat) : Int), .int .u64 ((wd x.p.p 2 : Nat) : Int), .int .u64 ((wd x.p.p 3 : Nat) : Int), .int .i64 ((x.a : Nat) : Int), .int .i64 ((x.b : Nat) : Int)] 142) = W at HR1 HF1 hX hB2 ⊢
  clear hbx
  obtain ⟨x0, x1, x2, x3, x4, x5, x6⟩ := row7 hX
  go_quiet (fail)
  have hRd := HR1.out.below (below_drewN W nq)
  have hFd := HF1.out.trans (CFr.of_below cur b1 b2 vA vI (below_drewN W nq) hB2)
  have hBd : B ≤ (W.drewN nq).heap.size := by simpa using hB2
  have hXd : St (W.drewN nq) 142 w1.heap.size #[.int .i64 x.p.k, .int .u64 ((wd x.p.p 0 : Nat) : Int), .int .u64 ((wd x.p.p 1 : Nat) : Int), .int .u64 ((wd x.p.p 2 : Nat) : Int), .int .u64 ((wd x.p.p 3 : Nat) : Int), .int .i64 ((x.a : Nat) : Int), .int .i64 ((x.b : Nat) : Int)] := hX.kept (ts := []) (bs := []) ((Kept.refl _ _ _).below (below_drewN W nq)) (by simp) (by simp)
  have hxn : w1.heap.size ∉ rdBlks kr cur b1 b2 := fun hm => by have := HRP.out.rd.lt _ hm; have := HB.out.size; omega
  have hxp : w1.heap.size ∉ pileBlks bp vA vI := fun hm => by have := HRP.out.pl.mem_lt _ hm; have := HB.out.size; omega
  have HXN := Lib.hid (And.intro hxn hxp)
  clear x0 x1 x2 x3 x4 x5 x6 hxn hxp hX
  generalize W.drewN nq = V at hRd hFd hBd hXd ⊢
  obtain ⟨x0, x1, x2, x3, x4, x5, x6⟩ := row7 hXd
  have HV := Lib.hid (And.intro hRd (And.intro hFd hXd))
  clear hRd hFd hXd
  go_wp2_with fail
  refine (pile_add V B bp l m vA vI HV.out.1.pl hBd rest (by have := HD.out.2.lt; have := HV.out.1.rd.si.tlen; omega)).mono ?_
  rintro e w4 ⟨l', m', vA', vI', rfl, hP, hl, hF⟩
  have HE := Lib.hid (And.intro hP (And.intro hl hF))
  clear hP hl hF
  go_wp2_with fail
  go_end0
  obtain ⟨hP, hl, hF⟩ := HE.out
  obtain ⟨hRP, hCF⟩ := HV.out.1.pile hP hF
  refine read_pre (F' := F) (Ext.refl _) (Ext.refl _) (fun _ _ => rfl) rfl HV.out.2.1 ⟨cur, E, F, T, b1, b2, l', m', vA', vI', rfl, hRP, Ext.refl _, Ext.refl _, fun i hi => (hl i).2 (Or.inl hi), fun i hi => ?_, fun σ hσ => ?_, fun _ _ => rfl, rfl, hCF⟩
  · rcases (hl i).1 hi with h | h
    · exact Or.inl h
    · rw [HT.out]
      refine Or.inr ⟨ρ, ⟨HK.out, ?_, rfl⟩, by rw [h]; exact HD.out.2⟩
      obtain ⟨s, hs⟩ := HY.out
      rw [HT.out, lan_leaf, if_pos HK.out] at hs
      obtain ⟨c, hc, _, hp⟩ := hs
      injection hc with hc _
      rw [hc]; exact hp
  · rw [HT.out] at hσ
    exact ⟨rest, (hl rest).2 (Or.inr rfl), by rw [hσ.2.2]; exact HD.out.2⟩
set_option maxHeartbeats 1000000 in
set_option maxRecDepth 100000 in
theorem read_opt (w : World) (B kr : Nat) (cur : Array Value) (E : List Ex) (F : List Fa) (T : List Tl) (b1 b2 n0 : Nat) (S : List (List Rx)) (bp : Nat) (l : List Nat) (m : Nat) (vA vI : Value) (n b rest : Nat) (ρ : List Rx) (t : Rx) (hRP : RP w B kr cur E F T b1 b2 n0 S bp l m vA vI) (hB : B ≤ w.heap.size) (hd : Den E n t) (hb : b < 256) (hr : TD E T rest ρ) (x : Ex) (hx : E[n]? = some x) (hyes : ∃ s, Lan t (b :: s)) (a : Rx) (iha : ReadOk a) (hda : Den E x.a a) (hk : x.p.k = 6) (hK : ∀ σ, σ ∈ Kt a ρ → σ ∈ S) (ht : t = .un x.p a) :
    Calls Try.prog 72 #[.pointer (some ⟨kr, 0, none⟩), .int .i64 n, .int .u8 b, .int .i64 rest, .pointer (some ⟨bp, 0, none⟩)] w (ReadPost w B kr cur E F T b1 b2 n0 S bp l vA vI (Rd t b ρ)) := by
  have k1 : (x.p.k == 1) = false := by rw [hk]; rfl
  have k2 : (x.p.k == 2) = false := by rw [hk]; rfl
  have k3 : (x.p.k == 3) = false := by rw [hk]; rfl
  have k6 : (x.p.k == 6) = true := by rw [hk]; rfl
  have HK := Lib.hid (And.intro hk (And.intro hda hK))
  clear hk hda hK
  have HT := Lib.hid ht
  clear ht
  obtain ⟨gF, cF, f, c2, hgF, hnF, hF8, hcF1, hcF2, hfo, hz⟩ := hRP.rd.fact hd
  have z1 := hz 1 (by decide)
  have z2 := hz 2 (by decide)
  have z3 := hz 3 (by decide)
  have z4 := hz 4 (by decide)
  simp only [faCells, List.getElem?_cons_zero, List.getElem?_cons_succ] at z1 z2 z3 z4
  obtain ⟨nF, hnF'⟩ : ∃ nF, F.length = nF := ⟨_, rfl⟩
  rw [hnF'] at c2 hnF hF8 hcF1
  have hkb : kr < w.heap.size := hRP.rd.book.num.st.lt
  have iF : (n : Int) < (nF : Int) := by omega
  unfold maxLen at hcF2
  have HFO := Lib.hid hfo
  obtain ⟨gE, cE, c0, hgE, hnE, hE8, hcE1, hcE2, hy⟩ := hRP.rd.entry hx
  have y0 := hy 0 (by decide)
  have y1 := hy 1 (by decide)
  have y2 := hy 2 (by decide)
  have y3 := hy 3 (by decide)
  have y4 := hy 4 (by decide)
  have y5 := hy 5 (by decide)
  have y6 := hy 6 (by decide)
  simp only [exCells, List.getElem?_cons_zero, List.getElem?_cons_succ, Nat.add_zero] at y0 y1 y2 y3 y4 y5 y6
  obtain ⟨nE, hnE'⟩ : ∃ nE, E.length = nE := ⟨_, rfl⟩
  rw [hnE'] at c0 hnE hE8 hcE1
  have iE : (n : Int) < (nE : Int) := by omega
  unfold maxLen at hcE2
  have hfb : f.s b = true := (hfo.2.1 b hb).2 hyes
  have HY := Lib.hid hyes
  have HRP := Lib.hid hRP
  have HX := Lib.hid hx
  have HD := Lib.hid (And.intro hd hr)
  clear hRP hd hr hz hy hnF' hnE' hfo hyes hx
  go_enter Try.func72, Try.ntmps72
  go_wp2_with fail
  refine (has_any f.s b hb _).mono ?_
  rintro e w1 ⟨rfl, hb1⟩
  rw [hfb]
  have hkb1 : kr < w1.heap.size := by have := hb1.size; omega
  have hgE1 : gE < w1.heap.size := by have := hb1.size; omega
  have c01 : w1.cell? ⟨kr, 0, none⟩ = some (.slice (some ⟨gE, 0, none⟩) nE cE) := by rw [hb1.cell (p := ⟨kr, 0, none⟩) hkb]; exact c0
  have hcl : ∀ j, w1.cell? ⟨gE, j, none⟩ = w.cell? ⟨gE, j, none⟩ := fun j => hb1.cell (p := ⟨gE, j, none⟩) hgE
  rw [← hcl] at y0 y1 y2 y3 y4 y5 y6
  have HB := Lib.hid hb1
  have hbx : Below w1.heap.size w1 (w1.alloc (.cells #[.int .i64 x.p.k, .int .u64 ((wd x.p.p 0 : Nat) : Int), .int .u64 ((wd x.p.p 1 : Nat) : Int), .int .u64 ((wd x.p.p 2 : Nat) : Int), .int .u64 ((wd x.p.p 3 : Nat) : Int), .int .i64 ((x.a : Nat) : Int), .int .i64 ((x.b : Nat) : Int)] 142)) := (Below.refl _ _).alloc (Nat.le_refl _) _
  have hX := St.new w1 142 #[.int .i64 x.p.k, .int .u64 ((wd x.p.p 0 : Nat) : Int), .int .u64 ((wd x.p.p 1 : Nat) : Int), .int .u64 ((wd x.p.p 2 : Nat) : Int), .int .u64 ((wd x.p.p 3 : Nat) : Int), .int .i64 ((x.a : Nat) : Int), .int .i64 ((x.b : Nat) : Int)]
  have hB1 : B ≤ w1.heap.size := by have := hb1.size; omega
  have HR1 := Lib.hid ((HRP.out.below hb1).below hbx)
  have HF1 := Lib.hid ((CFr.of_below (kr := kr) (bp := bp) cur b1 b2 vA vI hb1 hB).trans (CFr.of_below cur b1 b2 vA vI hbx hB1))
  have hB2 : B ≤ (w1.alloc (.cells #[.int .i64 x.p.k, .int .u64 ((wd x.p.p 0 : Nat) : Int), .int .u64 ((wd x.p.p 1 : Nat) : Int), .int .u64 ((wd x.p.p 2 : Nat) : Int), .int .u64 ((wd x.p.p 3 : Nat) : Int), .int .i64 ((x.a : Nat) : Int), .int .i64 ((x.b : Nat) : Int)] 142)).heap.size := by simp; omega
  clear hb1 hfb c2 z1 z2 z3 z4 hcl c0
  go_upto_region 2 with (fail)
  clear c01 y0 y1 y2 y3 y4 y5 y6
  generalize w1.alloc (.cells #[.int .i64 x.p.k, .int .u64 ((wd x.p.p 0 : Nat) : Int), .int .u64 ((wd x.p.p 1 : Nat) : Int), .int .u64 ((wd x.p.p 2 : Nat) : Int), .int .u64 ((wd x.p.p 3 : Nat) : Int), .int .i64 ((x.a : Nat) : Int), .int .i64 ((x.b : Nat) : Int)] 142) = W at HR1 HF1 hX hB2 ⊢
  clear hbx
  obtain ⟨x0, x1, x2, x3, x4, x5, x6⟩ := row7 hX
  go_quiet (fail)
  have hRd := HR1.out.below (below_drewN W nq)
  have hFd := HF1.out.trans (CFr.of_below cur b1 b2 vA vI (below_drewN W nq) hB2)
  have hBd : B ≤ (W.drewN nq).heap.size := by simpa using hB2
  have hXd : St (W.drewN nq) 142 w1.heap.size #[.int .i64 x.p.k, .int .u64 ((wd x.p.p 0 : Nat) : Int), .int .u64 ((wd x.p.p 1 : Nat) : Int), .int .u64 ((wd x.p.p 2 : Nat) : Int), .int .u64 ((wd x.p.p 3 : Nat) : Int), .int .i64 ((x.a : Nat) : Int), .int .i64 ((x.b : Nat) : Int)] := hX.kept (ts := []) (bs := []) ((Kept.refl _ _ _).below (below_drewN W nq)) (by simp) (by simp)
  have hxn : w1.heap.size ∉ rdBlks kr cur b1 b2 := fun hm => by have := HRP.out.rd.lt _ hm; have := HB.out.size; omega
  have hxp : w1.heap.size ∉ pileBlks bp vA vI := fun hm => by have := HRP.out.pl.mem_lt _ hm; have := HB.out.size; omega
  have HXN := Lib.hid (And.intro hxn hxp)
  clear x0 x1 x2 x3 x4 x5 x6 hxn hxp hX
  generalize W.drewN nq = V at hRd hFd hBd hXd ⊢
  obtain ⟨x0, x1, x2, x3, x4, x5, x6⟩ := row7 hXd
  have HV := Lib.hid (And.intro hRd (And.intro hFd hXd))
  clear hRd hFd hXd
  go_wp2_with fail
  refine (iha V B kr cur E F T b1 b2 n0 S bp l m vA vI x.a b rest ρ HV.out.1 hBd HK.out.2.1 hb HD.out.2 HK.out.2.2).mono ?_
  rintro e2 V2 ⟨cur2, E2, F2, T2, p2, q2, l2, m2, vA2, vI2, rfl, hRP, hx1, hx2, hl, hA, hC, ho, hz, hF⟩
  have H2 := Lib.hid (And.intro hRP (And.intro hx1 (And.intro hx2 (And.intro hl (And.intro hA (And.intro hC (And.intro ho (And.intro hz hF))))))))
  have hB_2 : B ≤ V2.heap.size := by have := hF.below.size; omega
  clear hRP hx1 hx2 hl hA hC ho hz hF
  go_wp2_with fail
  go_end0
  rw [HT.out]
  have hD : ∀ σ, Rd (.un x.p a) b ρ σ ↔ Rd a b ρ σ ∨ False := fun σ => by show (if x.p.k = 6 then _ else _) ↔ _; rw [if_pos HK.out.1]; simp
  exact read_pre (F' := F) (Ext.refl _) (Ext.refl _) (fun _ _ => rfl) rfl HV.out.2.1 (read_seq (F' := F2) H2.out.2.1 H2.out.2.2.1 H2.out.2.2.2.1 H2.out.2.2.2.2.1 H2.out.2.2.2.2.2.1 H2.out.2.2.2.2.2.2.1 H2.out.2.2.2.2.2.2.2.1 H2.out.2.2.2.2.2.2.2.2 (read_end rfl H2.out.1) hD)
end Go.Proofs.Ytkdhdlokilgccaa
