import Derived.Test.YtkdhdlokilgccaaZDRead0
import Derived.Deep.RegionLaw
import Derived.Deep.QuietTactic
import Derived.BigQuiet
import Derived.Deep.RegionWith
namespace Go.Proofs.Ytkdhdlokilgccaa
open Go.RowKit Go.Maps Go.WideElems Go.ChangeMaps Go.MapKept
set_option linter.unusedVariables false

set_option maxHeartbeats 1000000 in
set_option maxRecDepth 100000 in
theorem read_cat_not (w : World) (B kr : Nat) (cur : Array Value) (E : List Ex) (F : List Fa) (T : List Tl) (b1 b2 n0 : Nat) (S : List (List Rx)) (bp : Nat) (l : List Nat) (m : Nat) (vA vI : Value) (n b rest : Nat) (ρ : List Rx) (t : Rx) (hRP : RP w B kr cur E F T b1 b2 n0 S bp l m vA vI) (hB : B ≤ w.heap.size) (hd : Den E n t) (hb : b < 256) (hr : TD E T rest ρ) (x : Ex) (hx : E[n]? = some x) (hyes : ∃ s, Lan t (b :: s)) (a c : Rx) (iha : ReadOk a) (ihc : ReadOk c) (hda : Den E x.a a) (hdc : Den E x.b c) (hk : x.p.k = 2) (hKa : ∀ σ, σ ∈ Kt a (pre c ρ) → σ ∈ S) (hKc : ∀ σ, σ ∈ Kt c ρ → σ ∈ S) (hs : pre c ρ ∈ S) (hn : ¬ Lan a []) (ht : t = .bin x.p a c) :
    Calls Try.prog 72 #[.pointer (some ⟨kr, 0, none⟩), .int .i64 n, .int .u8 b, .int .i64 rest, .pointer (some ⟨bp, 0, none⟩)] w (ReadPost w B kr cur E F T b1 b2 n0 S bp l vA vI (Rd t b ρ)) := by
  have k1 : (x.p.k == 1) = false := by rw [hk]; rfl
  have k2 : (x.p.k == 2) = true := by rw [hk]; rfl
  have HK := Lib.hid (And.intro hk (And.intro hda (And.intro hdc (And.intro hKa (And.intro hKc (And.intro hs hn))))))
  clear hk hda hdc hKa hKc hs hn
  have HT := Lib.hid ht
  clear ht
  obtain ⟨gF, cF, f, c2, hgF, hnF, hF8, hcF1, hcF2, hfo, hz⟩ := hRP.rd.fact hd
  have z1 := hz 1 (by decide)
  have z2 := hz 2 (by decide)
  have z3 := hz 3 (by decide)
  have z4 := hz 4 (by decide)
  simp only [faCells, List.getElem?_cons_zero, List.getElem?_cons_succ] at z1 z2 z3 z4
  obtain ⟨nF, hnF'⟩ : ∃ nF, F.length = nF := ⟨_, rfl⟩
  rw [hnF'] at c2 hnF hF8 hcF1
  have hkb : kr < w.heap.size := hRP.rd.book.num.st.lt
  have iF : (n : Int) < (nF : Int) := by omega
  unfold maxLen at hcF2
  have HFO := Lib.hid hfo
  obtain ⟨gE, cE, c0, hgE, hnE, hE8, hcE1, hcE2, hy⟩ := hRP.rd.entry hx
  have y0 := hy 0 (by decide)
  have y1 := hy 1 (by decide)
  have y2 := hy 2 (by decide)
  have y3 := hy 3 (by decide)
  have y4 := hy 4 (by decide)
  have y5 := hy 5 (by decide)
  have y6 := hy 6 (by decide)
  simp only [exCells, List.getElem?_cons_zero, List.getElem?_cons_succ, Nat.add_zero] at y0 y1 y2 y3 y4 y5 y6
  obtain ⟨nE, hnE'⟩ : ∃ nE, E.length = nE := ⟨_, rfl⟩
  rw [hnE'] at c0 hnE hE8 hcE1
  have iE : (n : Int) < (nE : Int) := by omega
  unfold maxLen at hcE2
  have hfb : f.s b = true := (hfo.2.1 b hb).2 hyes
  have HY := Lib.hid hyes
  have HRP := Lib.hid hRP
  have HX := Lib.hid hx
  have HD := Lib.hid (And.intro hd hr)
  clear hRP hd hr hz hy hnF' hnE' hfo hyes hx
  go_enter Try.func72, Try.ntmps72
  go_wp2_with fail
  refine (has_any f.s b hb _).mono ?_
  rintro e w1 ⟨rfl, hb1⟩
  rw [hfb]
  have hkb1 : kr < w1.heap.size := by have := hb1.size; omega
  have hgE1 : gE < w1.heap.size := by have := hb1.size; omega
  have c01 : w1.cell? ⟨kr, 0, none⟩ = some (.slice (some ⟨gE, 0, none⟩) nE cE) := by rw [hb1.cell (p := ⟨kr, 0, none⟩) hkb]; exact c0
  have hcl : ∀ j, w1.cell? ⟨gE, j, none⟩ = w.cell? ⟨gE, j, none⟩ := fun j => hb1.cell (p := ⟨gE, j, none⟩) hgE
  rw [← hcl] at y0 y1 y2 y3 y4 y5 y6
  have HB := Lib.hid hb1
  have hbx : Below w1.heap.size w1 (w1.alloc (.cells #[.int .i64 x.p.k, .int .u64 ((wd x.p.p 0 : Nat) : Int), .int .u64 ((wd x.p.p 1 : Nat) : Int), .int .u64 ((wd x.p.p 2 : Nat) : Int), .int .u64 ((wd x.p.p 3 : Nat) : Int), .int .i64 ((x.a : Nat) : Int), .int .i64 ((x.b : Nat) : Int)] 142)) := (Below.refl _ _).alloc (Nat.le_refl _) _
  have hX := St.new w1 142 #[.int .i64 x.p.k, .int .u64 ((wd x.p.p 0 : Nat) : Int), .int .u64 ((wd x.p.p 1 : Nat) : Int), .int .u64 ((wd x.p.p 2 : Nat) : Int), .int .u64 ((wd x.p.p 3 : Nat) : Int), .int .i64 ((x.a : Nat) : Int), .int .i64 ((x.b : Nat) : Int)]
  have hB1 : B ≤ w1.heap.size := by have := hb1.size; omega
  have HR1 := Lib.hid ((HRP.out.below hb1).below hbx)
  have HF1 := Lib.hid ((CFr.of_below (kr := kr) (bp := bp) cur b1 b2 vA vI hb1 hB).trans (CFr.of_below cur b1 b2 vA vI hbx hB1))
  have hB2 : B ≤ (w1.alloc (.cells #[.int .i64 x.p.k, .int .u64 ((wd x.p.p 0 : Nat) : Int), .int .u64 ((wd x.p.p 1 : Nat) : Int), .int .u64 ((wd x.p.p 2 : Nat) : Int), .int .u64 ((wd x.p.p 3 : Nat) : Int), .int .i64 ((x.a : Nat) : Int), .int .i64 ((x.b : Nat) : Int)] 142)).heap.size := by simp; omega
  clear hb1 hfb c2 z1 z2 z3 z4 hcl c0
  go_upto_region 2 with (fail)
  clear c01 y0 y1 y2 y3 y4 y5 y6
  generalize w1.alloc (.cells #[.int .i64 x.p.k, .int .u64 ((wd x.p.p 0 : Nat) : Int), .int .u64 ((wd x.p.p 1 : Nat) : Int), .int .u64 ((wd x.p.p 2 : Nat) : Int), .int .u64 ((wd x.p.p 3 : Nat) : Int), .int .i64 ((x.a : Nat) : Int), .int .i64 ((x.b : Nat) : Int)] 142) = W at HR1 HF1 hX hB2 ⊢
  clear hbx
  obtain ⟨x0, x1, x2, x3, x4, x5, x6⟩ := row7 hX
  go_quiet (fail)
  have hRd := HR1.out.below (below_drewN W nq)
  have hFd := HF1.out.trans (CFr.of_below cur b1 b2 vA vI (below_drewN W nq) hB2)
  have hBd : B ≤ (W.drewN nq).heap.size := by simpa using hB2
  have hXd : St (W.drewN nq) 142 w1.heap.size #[.int .i64 x.p.k, .int .u64 ((wd x.p.p 0 : Nat) : Int), .int .u64 ((wd x.p.p 1 : Nat) : Int), .int .u64 ((wd x.p.p 2 : Nat) : Int), .int .u64 ((wd x.p.p 3 : Nat) : Int), .int .i64 ((x.a : Nat) : Int), .int .i64 ((x.b : Nat) : Int)] := hX.kept (ts := []) (bs := []) ((Kept.refl _ _ _).below (below_drewN W nq)) (by simp) (by simp)
  have hxn : w1.heap.size ∉ rdBlks kr cur b1 b2 := fun hm => by have := HRP.out.rd.lt _ hm; have := HB.out.size; omega
  have hxp : w1.heap.size ∉ pileBlks bp vA vI := fun hm => by have := HRP.out.pl.mem_lt _ hm; have := HB.out.size; omega
  have HXN := Lib.hid (And.intro hxn hxp)
  clear x0 x1 x2 x3 x4 x5 x6 hxn hxp hX
  generalize W.drewN nq = V at hRd hFd hBd hXd ⊢
  obtain ⟨x0, x1, x2, x3, x4, x5, x6⟩ := row7 hXd
  have HV := Lib.hid (And.intro hRd (And.intro hFd hXd))
  clear hRd hFd hXd
  go_wp2_with fail
  refine (prepend_any c V B kr cur E F T b1 b2 n0 S x.b rest ρ HV.out.1.rd hBd HK.out.2.2.1 HD.out.2 HK.out.2.2.2.2.2.1).mono ?_
  rintro e2 V2 ⟨j2, T2, cur2, q2, rfl, hR, hD, hx, ho, hz, hF⟩
  obtain ⟨hRP, hCF⟩ := HV.out.1.reader hR hF
  have H2 := Lib.hid (And.intro hRP (And.intro hD (And.intro hx (And.intro ho (And.intro hz hCF)))))
  have hB_2 : B ≤ V2.heap.size := by have := hF.below.size; omega
  clear hR hD hx ho hz hF hRP hCF
  go_wp2_with fail
  refine (iha V2 B kr cur2 E F T2 b1 q2 n0 S bp l m vA vI x.a b j2 (pre c ρ) H2.out.1 hB_2 HK.out.2.1 hb H2.out.2.1 HK.out.2.2.2.1).mono ?_
  rintro e3 V3 ⟨cur3, E3, F3, T3, p3, q3, l3, m3, vA3, vI3, rfl, hRP, hx1, hx2, hl, hA, hC, ho, hz, hF⟩
  have H3 := Lib.hid (And.intro hRP (And.intro hx1 (And.intro hx2 (And.intro hl (And.intro hA (And.intro hC (And.intro ho (And.intro hz hF))))))))
  have hB_3 : B ≤ V3.heap.size := by have := hF.below.size; omega
  clear hRP hx1 hx2 hl hA hC ho hz hF
  obtain ⟨gF3, cF3, f3, d3, hgF3, hnF3, hF83, hcF13, hcF23, hfo3, hz3⟩ := H3.out.1.rd.fact (HK.out.2.1.ext H3.out.2.1)
  have z30 := hz3 0 (by decide)
  simp only [faCells, List.getElem?_cons_zero, Nat.add_zero] at z30
  obtain ⟨nF3, hnF3'⟩ : ∃ nF3, F3.length = nF3 := ⟨_, rfl⟩
  rw [hnF3'] at d3 hnF3 hF83 hcF13
  have hkb3 : kr < V3.heap.size := H3.out.1.rd.book.num.st.lt
  have iF3 : (x.a : Int) < (nF3 : Int) := by omega
  unfold maxLen at hcF23
  have hfe : f3.e = false := by
    cases h : f3.e with
    | false => rfl
    | true => exact absurd (hfo3.1.1 h) HK.out.2.2.2.2.2.2
  rw [hfe] at z30
  clear hz3 hnF3' hfo3 hfe
  go_wp2_with fail
  go_end0
  rw [HT.out]
  have hD : ∀ σ, Rd (.bin x.p a c) b ρ σ ↔ Rd a b (pre c ρ) σ ∨ False := fun σ => by
    show (if x.p.k = 2 then _ else _) ↔ _
    rw [if_pos HK.out.1]
    simp [HK.out.2.2.2.2.2.2]
  exact read_pre (F' := F) (Ext.refl _) (Ext.refl _) (fun _ _ => rfl) rfl HV.out.2.1 (read_pre (F' := F) (Ext.refl _) H2.out.2.2.1 H2.out.2.2.2.1 H2.out.2.2.2.2.1 H2.out.2.2.2.2.2 (read_seq (F' := F3) H3.out.2.1 H3.out.2.2.1 H3.out.2.2.2.1 H3.out.2.2.2.2.1 H3.out.2.2.2.2.2.1 H3.out.2.2.2.2.2.2.1 H3.out.2.2.2.2.2.2.2.1 H3.out.2.2.2.2.2.2.2.2 (read_end rfl H3.out.1) hD))
end Go.Proofs.Ytkdhdlokilgccaa

namespace Go.Proofs.Ytkdhdlokilgccaa
open Go.RowKit Go.Maps Go.WideElems Go.ChangeMaps Go.MapKept
set_option linter.unusedVariables false

theorem star_some (x : Ex) (w : World) :
    Calls Try.prog 80 #[.agg #[.int .i64 x.p.k, .int .u64 ((wd x.p.p 0 : Nat) : Int), .int .u64 ((wd x.p.p 1 : Nat) : Int), .int .u64 ((wd x.p.p 2 : Nat) : Int), .int .u64 ((wd x.p.p 3 : Nat) : Int), .int .i64 ((x.a : Nat) : Int), .int .i64 ((x.b : Nat) : Int)]] w fun e w' => ∃ y : Ex, e = .returned (.agg #[.int .i64 y.p.k, .int .u64 ((wd y.p.p 0 : Nat) : Int), .int .u64 ((wd y.p.p 1 : Nat) : Int), .int .u64 ((wd y.p.p 2 : Nat) : Int), .int .u64 ((wd y.p.p 3 : Nat) : Int), .int .i64 ((y.a : Nat) : Int), .int .i64 ((y.b : Nat) : Int)]) ∧ Hid (y = starX x) ∧ Below w.heap.size w w' :=
  (star_any x w).mono fun e w' ⟨h1, h2⟩ => ⟨starX x, h1, Lib.hid rfl, h2⟩
theorem starX_fine {x : Ex} (h : x.fine) (hk : takesZ x.p.k = 1) : (starX x).fine := ⟨fun _ _ => rfl, fun h' => absurd h' (show takesZ 4 ≠ 0 by decide), fun _ => h.2.2 hk⟩
theorem starX_den {E : List Ex} {F : List Fa} (hI : Inv E F) {x : Ex} {a : Rx} (hx : x ∈ E) (hk : takesZ x.p.k = 1) (hda : Den E x.a a) : DenX E (starX x) (.un starP a) :=
  Or.inr (Or.inl ⟨show takesZ 4 = 1 by decide, show okSet ⟨4, emp⟩ = true by decide +kernel, by show x.b < _; rw [(hI.fine x hx).2.2 hk]; have := hda.lt; omega, a, hda, rfl⟩)
set_option maxHeartbeats 1000000 in
set_option maxRecDepth 100000 in
theorem read_rep (w : World) (B kr : Nat) (cur : Array Value) (E : List Ex) (F : List Fa) (T : List Tl) (b1 b2 n0 : Nat) (S : List (List Rx)) (bp : Nat) (l : List Nat) (m : Nat) (vA vI : Value) (n b rest : Nat) (ρ : List Rx) (t : Rx) (hRP : RP w B kr cur E F T b1 b2 n0 S bp l m vA vI) (hB : B ≤ w.heap.size) (hd : Den E n t) (hb : b < 256) (hr : TD E T rest ρ) (x : Ex) (hx : E[n]? = some x) (hyes : ∃ s, Lan t (b :: s)) (a : Rx) (iha : ReadOk a) (hda : Den E x.a a) (hk : x.p.k = 4 ∨ x.p.k = 5) (hK : ∀ σ, σ ∈ Kt a (.un starP a :: ρ) → σ ∈ S) (hs : (Rx.un starP a :: ρ) ∈ S) (ht : t = .un x.p a) :
    Calls Try.prog 72 #[.pointer (some ⟨kr, 0, none⟩), .int .i64 n, .int .u8 b, .int .i64 rest, .pointer (some ⟨bp, 0, none⟩)] w (ReadPost w B kr cur E F T b1 b2 n0 S bp l vA vI (Rd t b ρ)) := by
  have k1 : (x.p.k == 1) = false := by rcases hk with h | h <;> rw [h] <;> rfl
  have k2 : (x.p.k == 2) = false := by rcases hk with h | h <;> rw [h] <;> rfl
  have k3 : (x.p.k == 3) = false := by rcases hk with h | h <;> rw [h] <;> rfl
  have k6 : (x.p.k == 6) = false := by rcases hk with h | h <;> rw [h] <;> rfl
  have HK := Lib.hid (And.intro hk (And.intro hda (And.intro hK hs)))
  clear hk hda hK hs
  have HT := Lib.hid ht
  clear ht
  obtain ⟨gF, cF, f, c2, hgF, hnF, hF8, hcF1, hcF2, hfo, hz⟩ := hRP.rd.fact hd
  have z1 := hz 1 (by decide)
  have z2 := hz 2 (by decide)
  have z3 := hz 3 (by decide)
  have z4 := hz 4 (by decide)
  simp only [faCells, List.getElem?_cons_zero, List.getElem?_cons_succ] at z1 z2 z3 z4
  obtain ⟨nF, hnF'⟩ : ∃ nF, F.length = nF := ⟨_, rfl⟩
  rw [hnF'] at c2 hnF hF8 hcF1
  have hkb : kr < w.heap.size := hRP.rd.book.num.st.lt
  have iF : (n : Int) < (nF : Int) := by omega
  unfold maxLen at hcF2
  have HFO := Lib.hid hfo
  obtain ⟨gE, cE, c0, hgE, hnE, hE8, hcE1, hcE2, hy⟩ := hRP.rd.entry hx
  have y0 := hy 0 (by decide)
  have y1 := hy 1 (by decide)
  have y2 := hy 2 (by decide)
  have y3 := hy 3 (by decide)
  have y4 := hy 4 (by decide)
  have y5 := hy 5 (by decide)
  have y6 := hy 6 (by decide)
  simp only [exCells, List.getElem?_cons_zero, List.getElem?_cons_succ, Nat.add_zero] at y0 y1 y2 y3 y4 y5 y6
  obtain ⟨nE, hnE'⟩ : ∃ nE, E.length = nE := ⟨_, rfl⟩
  rw [hnE'] at c0 hnE hE8 hcE1
  have iE : (n : Int) < (nE : Int) := by omega
  unfold maxLen at hcE2
  have hfb : f.s b = true := (hfo.2.1 b hb).2 hyes
  have HY := Lib.hid hyes
  have HRP := Lib.hid hRP
  have HX := Lib.hid hx
  have HD := Lib.hid (And.intro hd hr)
  clear hRP hd hr hz hy hnF' hnE' hfo hyes hx
  go_enter Try.func72, Try.ntmps72
  go_wp2_with fail
  refine (has_any f.s b hb _).mono ?_
  rintro e w1 ⟨rfl, hb1⟩
  rw [hfb]
  have hkb1 : kr < w1.heap.size := by have := hb1.size; omega
  have hgE1 : gE < w1.heap.size := by have := hb1.size; omega
  have c01 : w1.cell? ⟨kr, 0, none⟩ = some (.slice (some ⟨gE, 0, none⟩) nE cE) := by rw [hb1.cell (p := ⟨kr, 0, none⟩) hkb]; exact c0
  have hcl : ∀ j, w1.cell? ⟨gE, j, none⟩ = w.cell? ⟨gE, j, none⟩ := fun j => hb1.cell (p := ⟨gE, j, none⟩) hgE
  rw [← hcl] at y0 y1 y2 y3 y4 y5 y6
  have HB := Lib.hid hb1
  have hbx : Below w1.heap.size w1 (w1.alloc (.cells #[.int .i64 x.p.k, .int .u64 ((wd x.p.p 0 : Nat) : Int), .int .u64 ((wd x.p.p 1 : Nat) : Int), .int .u64 ((wd x.p.p 2 : Nat) : Int), .int .u64 ((wd x.p.p 3 : Nat) : Int), .int .i64 ((x.a : Nat) : Int), .int .i64 ((x.b : Nat) : Int)] 142)) := (Below.refl _ _).alloc (Nat.le_refl _) _
  have hX := St.new w1 142 #[.int .i64 x.p.k, .int .u64 ((wd x.p.p 0 : Nat) : Int), .int .u64 ((wd x.p.p 1 : Nat) : Int), .int .u64 ((wd x.p.p 2 : Nat) : Int), .int .u64 ((wd x.p.p 3 : Nat) : Int), .int .i64 ((x.a : Nat) : Int), .int .i64 ((x.b : Nat) : Int)]
  have hB1 : B ≤ w1.heap.size := by have := hb1.size; omega
  have HR1 := Lib.hid ((HRP.out.below hb1).below hbx)
  have HF1 := Lib.hid ((CFr.of_below (kr := kr) (bp := bp) cur b1 b2 vA vI hb1 hB).trans (CFr.of_below cur b1 b2 vA vI hbx hB1))
  have hB2 : B ≤ (w1.alloc (.cells #[.int .i64 x.p.k, .int .u64 ((wd x.p.p 0 : Nat) : Int), .int .u64 ((wd x.p.p 1 : Nat) : Int), .int .u64 ((wd x.p.p 2 : Nat) : Int), .int .u64 ((wd x.p.p 3 : Nat) : Int), .int .i64 ((x.a : Nat) : Int), .int .i64 ((x.b : Nat) : Int)] 142)).heap.size := by simp; omega
  clear hb1 hfb c2 z1 z2 z3 z4 hcl c0
  go_upto_region 2 with (fail)
  clear c01 y0 y1 y2 y3 y4 y5 y6
  generalize w1.alloc (.cells #[.int .i64 x.p.k, .int .u64 ((wd x.p.p 0 : Nat) : Int), .int .u64 ((wd x.p.p 1 : Nat) : Int), .int .u64 ((wd x.p.p 2 : Nat) : Int), .int .u64 ((wd x.p.p 3 : Nat) : Int), .int .i64 ((x.a : Nat) : Int), .int .i64 ((x.b : Nat) : Int)] 142) = W at HR1 HF1 hX hB2 ⊢
  clear hbx
  obtain ⟨x0, x1, x2, x3, x4, x5, x6⟩ := row7 hX
  go_quiet (fail)
  have hRd := HR1.out.below (below_drewN W nq)
  have hFd := HF1.out.trans (CFr.of_below cur b1 b2 vA vI (below_drewN W nq) hB2)
  have hBd : B ≤ (W.drewN nq).heap.size := by simpa using hB2
  have hXd : St (W.drewN nq) 142 w1.heap.size #[.int .i64 x.p.k, .int .u64 ((wd x.p.p 0 : Nat) : Int), .int .u64 ((wd x.p.p 1 : Nat) : Int), .int .u64 ((wd x.p.p 2 : Nat) : Int), .int .u64 ((wd x.p.p 3 : Nat) : Int), .int .i64 ((x.a : Nat) : Int), .int .i64 ((x.b : Nat) : Int)] := hX.kept (ts := []) (bs := []) ((Kept.refl _ _ _).below (below_drewN W nq)) (by simp) (by simp)
  have hxn : w1.heap.size ∉ rdBlks kr cur b1 b2 := fun hm => by have := HRP.out.rd.lt _ hm; have := HB.out.size; omega
  have hxp : w1.heap.size ∉ pileBlks bp vA vI := fun hm => by have := HRP.out.pl.mem_lt _ hm; have := HB.out.size; omega
  have HXN := Lib.hid (And.intro hxn hxp)
  clear x0 x1 x2 x3 x4 x5 x6 hxn hxp hX
  generalize W.drewN nq = V at hRd hFd hBd hXd ⊢
  obtain ⟨x0, x1, x2, x3, x4, x5, x6⟩ := row7 hXd
  have HV := Lib.hid (And.intro hRd (And.intro hFd hXd))
  clear hRd hFd hXd
  have hxE := List.mem_of_getElem? HX.out
  have htk : takesZ x.p.k = 1 := by rcases HK.out.1 with h | h <;> rw [h] <;> decide
  have hfx := HV.out.1.rd.si.inv.fine x hxE
  have HSF := Lib.hid (starX_fine hfx htk)
  have HSD := Lib.hid (starX_den HV.out.1.rd.si.inv hxE htk HK.out.2.1)
  have hal := HK.out.2.1.lt
  have hE8' := HV.out.1.rd.si.elen
  have hxb : x.b = 0 := hfx.2.2 htk
  have HSO : Hid ((starX x).ok) := Lib.hid ⟨by show (-9223372036854775808 : Int) ≤ 4; decide, by show (4 : Int) ≤ 9223372036854775807; decide, by show x.a ≤ _; omega, by show x.b ≤ _; omega⟩
  have hfl : (Rx.un starP a).flat.length ≤ 400 := by
    obtain ⟨_, _, _, h⟩ := HV.out.1.rd.si.inv.get HD.out.1
    rw [HT.out] at h
    simpa [Rx.flat] using h
  have HFL := Lib.hid hfl
  clear hxE htk hfx hfl hxb
  go_wp2_with fail
  go_region_with (first
    | (go_at_call 80; refine (star_some x V.drew).mono ?_; rintro e2 w2 ⟨y, rfl, hy, hb2'⟩
       have hb2 : Below V.heap.size V w2 := (Below.refl _ _).drew.trans ⟨hb2'.os, hb2'.tape, hb2'.output, hb2'.size, hb2'.block⟩
       have HR2 := Lib.hid (HV.out.1.below hb2)
       have hB2w : B ≤ w2.heap.size := (by have := hb2.size; omega)
       have HB2 := Lib.hid hb2
       clear hb2' hb2)
    | (go_at_call 70; refine (put_any w2 B 123 kr cur E F (some b1) y (.un starP a) (by rw [hy.out]; exact HSO.out) (by rw [hy.out]; exact HSF.out) HR2.out.rd.book HR2.out.rd.si.inv hB2w (by rw [hy.out]; exact HSD.out) HFL.out (by omega)).mono ?_; rintro e3 w3 ⟨i3, E3, F3, cur3, bM3, rfl, hK3, hI3, hD3, _, hE3, ho3, hz3, hbm3, hB3, hk3, hrw3⟩
       obtain ⟨p3, rfl, hp3⟩ : ∃ p3, bM3 = some p3 ∧ (p3 = b1 ∨ w2.heap.size ≤ p3) := (by rcases hbm3 with h | ⟨q, h1, h2⟩; exact ⟨b1, h, Or.inl rfl⟩; exact ⟨q, h1, Or.inr h2⟩)
       obtain ⟨hsi3, hx3⟩ := HR2.out.rd.si.put HX.out hI3 (by rw [← hy.out]; exact hE3)
       obtain ⟨hR3, hF3⟩ := HR2.out.rd.expr hK3 ho3 hp3 hB3 hk3 hrw3 hsi3
       obtain ⟨hRP3, hCF3⟩ := HR2.out.reader hR3 hF3
       have H3 := Lib.hid (And.intro hRP3 (And.intro hD3 (And.intro hx3 (And.intro (fun j (hj : 5 ≤ j) => ho3 j (by omega)) (And.intro hz3 hCF3)))))
       have hB3w : B ≤ w3.heap.size := (by have := hB3.size; omega)
       clear hK3 hI3 hD3 hE3 ho3 hz3 hbm3 hB3 hk3 hrw3 hp3 hsi3 hx3 hR3 hF3 hRP3 hCF3)
    | (go_at_call 59; refine (prepend_any (.un starP a) w3 B kr cur3 E3 F3 T p3 b2 n0 S i3 rest ρ H3.out.1.rd hB3w H3.out.2.1 (HD.out.2.ext H3.out.2.2.1 (Ext.refl _)) HK.out.2.2.2).mono ?_; rintro e4 w4 ⟨j4, T4, cur4, q4, rfl, hR4, hD4, hx4, ho4, hz4, hF4⟩
       obtain ⟨hRP4, hCF4⟩ := H3.out.1.reader hR4 hF4
       have H4 := Lib.hid (And.intro hRP4 (And.intro hD4 (And.intro hx4 (And.intro ho4 (And.intro hz4 hCF4)))))
       have hB4w : B ≤ w4.heap.size := (by have := hF4.below.size; omega)
       clear hR4 hD4 hx4 ho4 hz4 hF4 hRP4 hCF4)
    | (go_at_call 72; refine (iha w4 B kr cur4 E3 F3 T4 p3 q4 n0 S bp l m vA vI x.a b j4 (.un starP a :: ρ) H4.out.1 hB4w (HK.out.2.1.ext H3.out.2.2.1) hb H4.out.2.1 HK.out.2.2.1).mono ?_; rintro e5 w5 h5
       have H5 := Lib.hid h5
       obtain ⟨cur5, E5, F5, T5, p5, q5, l5, m5, vA5, vI5, rfl, _⟩ := h5))
  all_goals
    go_wp2_with fail
    go_end0
    rw [HT.out]
    have hD : ∀ σ, Rd (.un x.p a) b ρ σ ↔ Rd a b (.un starP a :: ρ) σ := fun σ => by show (if x.p.k = 6 then _ else _) ↔ _; rw [if_neg (by rcases HK.out.1 with h | h <;> rw [h] <;> decide)]
    have e0 : Rd (.un x.p a) b ρ = Rd a b (.un starP a :: ρ) := funext fun σ => propext (hD σ)
    rw [e0]
    exact read_pre (F' := F) (Ext.refl _) (Ext.refl _) (fun _ _ => rfl) rfl HV.out.2.1 (read_pre (F' := F) (Ext.refl _) (Ext.refl _) (fun _ _ => rfl) rfl (CFr.of_below cur b1 b2 vA vI HB2.out hBd) (read_pre (F' := F3) H3.out.2.2.1 (Ext.refl _) H3.out.2.2.2.1 H3.out.2.2.2.2.1 H3.out.2.2.2.2.2 (read_pre (F' := F3) (Ext.refl _) H4.out.2.2.1 H4.out.2.2.2.1 H4.out.2.2.2.2.1 H4.out.2.2.2.2.2 H5.out)))
end Go.Proofs.Ytkdhdlokilgccaa
