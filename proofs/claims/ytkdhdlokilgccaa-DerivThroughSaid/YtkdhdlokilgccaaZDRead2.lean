import Derived.Test.YtkdhdlokilgccaaZDRead0
import Derived.Deep.RegionLaw
import Derived.Deep.QuietTactic
import Derived.BigQuiet
namespace Go.Proofs.Ytkdhdlokilgccaa
open Go.RowKit Go.Maps Go.WideElems Go.ChangeMaps Go.MapKept
set_option linter.unusedVariables false

set_option maxHeartbeats 1000000 in
set_option maxRecDepth 100000 in
theorem read_alt (w : World) (B kr : Nat) (cur : Array Value) (E : List Ex) (F : List Fa) (T : List Tl) (b1 b2 n0 : Nat) (S : List (List Rx)) (bp : Nat) (l : List Nat) (m : Nat) (vA vI : Value) (n b rest : Nat) (ρ : List Rx) (t : Rx) (hRP : RP w B kr cur E F T b1 b2 n0 S bp l m vA vI) (hB : B ≤ w.heap.size) (hd : Den E n t) (hb : b < 256) (hr : TD E T rest ρ) (x : Ex) (hx : E[n]? = some x) (hyes : ∃ s, Lan t (b :: s)) (a c : Rx) (iha : ReadOk a) (ihc : ReadOk c) (hda : Den E x.a a) (hdc : Den E x.b c) (hk : x.p.k = 3) (hKa : ∀ σ, σ ∈ Kt a ρ → σ ∈ S) (hKc : ∀ σ, σ ∈ Kt c ρ → σ ∈ S) (ht : t = .bin x.p a c) :
    Calls Try.prog 72 #[.pointer (some ⟨kr, 0, none⟩), .int .i64 n, .int .u8 b, .int .i64 rest, .pointer (some ⟨bp, 0, none⟩)] w (ReadPost w B kr cur E F T b1 b2 n0 S bp l vA vI (Rd t b ρ)) := by
  have k1 : (x.p.k == 1) = false := by rw [hk]; rfl
  have k2 : (x.p.k == 2) = false := by rw [hk]; rfl
  have k3 : (x.p.k == 3) = true := by rw [hk]; rfl
  have HK := Lib.hid (And.intro hk (And.intro hda (And.intro hdc (And.intro hKa hKc))))
  clear hk hda hdc hKa hKc
  have HT := Lib.hid ht
  clear ht
  obtain ⟨gF, cF, f, c2, hgF, hnF, hF8, hcF1, hcF2, hfo, hz⟩ := hRP.rd.fact hd
  have z1 := hz 1 (by decide)
  have z2 := hz 2 (by decide)
  have z3 := hz 3 (by decide)
  have z4 := hz 4 (by decide)
  simp only [faCells, List.getElem?_cons_zero, List.getElem?_cons_succ] at z1 z2 z3 z4
  obtain ⟨nF, hnF'⟩ : ∃ nF, F.length = nF := ⟨_, rfl⟩
  rw [hnF'] at c2 hnF hF8 hcF1
  have hkb : kr < w.heap.size := hRP.rd.book.num.st.lt
  have iF : (n : Int) < (nF : Int) := by omega
  unfold maxLen at hcF2
  have HFO := Lib.hid hfo
  obtain ⟨gE, cE, c0, hgE, hnE, hE8, hcE1, hcE2, hy⟩ := hRP.rd.entry hx
  have y0 := hy 0 (by decide)
  have y1 := hy 1 (by decide)
  have y2 := hy 2 (by decide)
  have y3 := hy 3 (by decide)
  have y4 := hy 4 (by decide)
  have y5 := hy 5 (by decide)
  have y6 := hy 6 (by decide)
  simp only [exCells, List.getElem?_cons_zero, List.getElem?_cons_succ, Nat.add_zero] at y0 y1 y2 y3 y4 y5 y6
  obtain ⟨nE, hnE'⟩ : ∃ nE, E.length = nE := ⟨_, rfl⟩
  rw [hnE'] at c0 hnE hE8 hcE1
  have iE : (n : Int) < (nE : Int) := by omega
  unfold maxLen at hcE2
  have hfb : f.s b = true := (hfo.2.1 b hb).2 hyes
  have HY := Lib.hid hyes
  have HRP := Lib.hid hRP
  have HX := Lib.hid hx
  have HD := Lib.hid (And.intro hd hr)
  clear hRP hd hr hz hy hnF' hnE' hfo hyes hx
  go_enter Try.func72, Try.ntmps72
  go_wp2_with fail
  refine (has_any f.s b hb _).mono ?_
  rintro e w1 ⟨rfl, hb1⟩
  rw [hfb]
  have hkb1 : kr < w1.heap.size := by have := hb1.size; omega
  have hgE1 : gE < w1.heap.size := by have := hb1.size; omega
  have c01 : w1.cell? ⟨kr, 0, none⟩ = some (.slice (some ⟨gE, 0, none⟩) nE cE) := by rw [hb1.cell (p := ⟨kr, 0, none⟩) hkb]; exact c0
  have hcl : ∀ j, w1.cell? ⟨gE, j, none⟩ = w.cell? ⟨gE, j, none⟩ := fun j => hb1.cell (p := ⟨gE, j, none⟩) hgE
  rw [← hcl] at y0 y1 y2 y3 y4 y5 y6
  have HB := Lib.hid hb1
  have hbx : Below w1.heap.size w1 (w1.alloc (.cells #[.int .i64 x.p.k, .int .u64 ((wd x.p.p 0 : Nat) : Int), .int .u64 ((wd x.p.p 1 : Nat) : Int), .int .u64 ((wd x.p.p 2 : Nat) : Int), .int .u64 ((wd x.p.p 3 : Nat) : Int), .int .i64 ((x.a : Nat) : Int), .int .i64 ((x.b : Nat) : Int)] 142)) := (Below.refl _ _).alloc (Nat.le_refl _) _
  have hX := St.new w1 142 #[.int .i64 x.p.k, .int .u64 ((wd x.p.p 0 : Nat) : Int), .int .u64 ((wd x.p.p 1 : Nat) : Int), .int .u64 ((wd x.p.p 2 : Nat) : Int), .int .u64 ((wd x.p.p 3 : Nat) : Int), .int .i64 ((x.a : Nat) : Int), .int .i64 ((x.b : Nat) : Int)]
  have hB1 : B ≤ w1.heap.size := by have := hb1.size; omega
  have HR1 := Lib.hid ((HRP.out.below hb1).below hbx)
  have HF1 := Lib.hid ((CFr.of_below (kr := kr) (bp := bp) cur b1 b2 vA vI hb1 hB).trans (CFr.of_below cur b1 b2 vA vI hbx hB1))
  have hB2 : B ≤ (w1.alloc (.cells #[.int .i64 x.p.k, .int .u64 ((wd x.p.p 0 : Nat) : Int), .int .u64 ((wd x.p.p 1 : Nat) : Int), .int .u64 ((wd x.p.p 2 : Nat) : Int), .int .u64 ((wd x.p.p 3 : Nat) : Int), .int .i64 ((x.a : Nat) : Int), .int .i64 ((x.b : Nat) : Int)] 142)).heap.size := by simp; omega
  clear hb1 hfb c2 z1 z2 z3 z4 hcl c0
  go_upto_region 2 with (fail)
  clear c01 y0 y1 y2 y3 y4 y5 y6
  generalize w1.alloc (.cells #[.int .i64 x.p.k, .int .u64 ((wd x.p.p 0 : Nat) : Int), .int .u64 ((wd x.p.p 1 : Nat) : Int), .int .u64 ((wd x.p.p 2 : Nat) : Int), .int .u64 ((wd x.p.p 3 : Nat) : Int), .int .i64 ((x.a : Nat) : Int), .int .i64 ((x.b : Nat) : Int)] 142) = W at HR1 HF1 hX hB2 ⊢
  clear hbx
  obtain ⟨x0, x1, x2, x3, x4, x5, x6⟩ := row7 hX
  go_quiet (fail)
  have hRd := HR1.out.below (below_drewN W nq)
  have hFd := HF1.out.trans (CFr.of_below cur b1 b2 vA vI (below_drewN W nq) hB2)
  have hBd : B ≤ (W.drewN nq).heap.size := by simpa using hB2
  have hXd : St (W.drewN nq) 142 w1.heap.size #[.int .i64 x.p.k, .int .u64 ((wd x.p.p 0 : Nat) : Int), .int .u64 ((wd x.p.p 1 : Nat) : Int), .int .u64 ((wd x.p.p 2 : Nat) : Int), .int .u64 ((wd x.p.p 3 : Nat) : Int), .int .i64 ((x.a : Nat) : Int), .int .i64 ((x.b : Nat) : Int)] := hX.kept (ts := []) (bs := []) ((Kept.refl _ _ _).below (below_drewN W nq)) (by simp) (by simp)
  have hxn : w1.heap.size ∉ rdBlks kr cur b1 b2 := fun hm => by have := HRP.out.rd.lt _ hm; have := HB.out.size; omega
  have hxp : w1.heap.size ∉ pileBlks bp vA vI := fun hm => by have := HRP.out.pl.mem_lt _ hm; have := HB.out.size; omega
  have HXN := Lib.hid (And.intro hxn hxp)
  clear x0 x1 x2 x3 x4 x5 x6 hxn hxp hX
  generalize W.drewN nq = V at hRd hFd hBd hXd ⊢
  obtain ⟨x0, x1, x2, x3, x4, x5, x6⟩ := row7 hXd
  have HV := Lib.hid (And.intro hRd (And.intro hFd hXd))
  clear hRd hFd hXd
  go_wp2_with fail
  refine (iha V B kr cur E F T b1 b2 n0 S bp l m vA vI x.a b rest ρ HV.out.1 hBd HK.out.2.1 hb HD.out.2 HK.out.2.2.2.1).mono ?_
  rintro e2 V2 ⟨cur2, E2, F2, T2, p2, q2, l2, m2, vA2, vI2, rfl, hRP, hx1, hx2, hl, hA, hC, ho, hz, hF⟩
  have H2 := Lib.hid (And.intro hRP (And.intro hx1 (And.intro hx2 (And.intro hl (And.intro hA (And.intro hC (And.intro ho (And.intro hz hF))))))))
  have hB_2 : B ≤ V2.heap.size := by have := hF.below.size; omega
  clear hRP hx1 hx2 hl hA hC ho hz hF
  go_wp2_with fail
  refine (ihc V2 B kr cur2 E2 F2 T2 p2 q2 n0 S bp l2 m2 vA2 vI2 x.b b rest ρ H2.out.1 hB_2 (HK.out.2.2.1.ext H2.out.2.1) hb (HD.out.2.ext H2.out.2.1 H2.out.2.2.1) HK.out.2.2.2.2).mono ?_
  rintro e3 V3 ⟨cur3, E3, F3, T3, p3, q3, l3, m3, vA3, vI3, rfl, hRP, hx1, hx2, hl, hA, hC, ho, hz, hF⟩
  have H3 := Lib.hid (And.intro hRP (And.intro hx1 (And.intro hx2 (And.intro hl (And.intro hA (And.intro hC (And.intro ho (And.intro hz hF))))))))
  have hB_3 : B ≤ V3.heap.size := by have := hF.below.size; omega
  clear hRP hx1 hx2 hl hA hC ho hz hF
  go_wp2_with fail
  go_end0
  rw [HT.out]
  have hD : ∀ σ, Rd (.bin x.p a c) b ρ σ ↔ Rd a b ρ σ ∨ (Rd c b ρ σ ∨ False) := fun σ => by show (if x.p.k = 2 then _ else _) ↔ _; rw [if_neg (by rw [HK.out.1]; decide)]; simp
  exact read_pre (F' := F) (Ext.refl _) (Ext.refl _) (fun _ _ => rfl) rfl HV.out.2.1 (read_seq (F' := F2) H2.out.2.1 H2.out.2.2.1 H2.out.2.2.2.1 H2.out.2.2.2.2.1 H2.out.2.2.2.2.2.1 H2.out.2.2.2.2.2.2.1 H2.out.2.2.2.2.2.2.2.1 H2.out.2.2.2.2.2.2.2.2 (read_seq (F' := F3) H3.out.2.1 H3.out.2.2.1 H3.out.2.2.2.1 H3.out.2.2.2.2.1 H3.out.2.2.2.2.2.1 H3.out.2.2.2.2.2.2.1 H3.out.2.2.2.2.2.2.2.1 H3.out.2.2.2.2.2.2.2.2 (read_end rfl H3.out.1) (fun σ => Iff.rfl)) hD)
end Go.Proofs.Ytkdhdlokilgccaa

namespace Go.Proofs.Ytkdhdlokilgccaa
open Go.RowKit Go.Maps Go.WideElems Go.ChangeMaps Go.MapKept
set_option linter.unusedVariables false

set_option maxHeartbeats 1000000 in
set_option maxRecDepth 100000 in
theorem read_cat_null (w : World) (B kr : Nat) (cur : Array Value) (E : List Ex) (F : List Fa) (T : List Tl) (b1 b2 n0 : Nat) (S : List (List Rx)) (bp : Nat) (l : List Nat) (m : Nat) (vA vI : Value) (n b rest : Nat) (ρ : List Rx) (t : Rx) (hRP : RP w B kr cur E F T b1 b2 n0 S bp l m vA vI) (hB : B ≤ w.heap.size) (hd : Den E n t) (hb : b < 256) (hr : TD E T rest ρ) (x : Ex) (hx : E[n]? = some x) (hyes : ∃ s, Lan t (b :: s)) (a c : Rx) (iha : ReadOk a) (ihc : ReadOk c) (hda : Den E x.a a) (hdc : Den E x.b c) (hk : x.p.k = 2) (hKa : ∀ σ, σ ∈ Kt a (pre c ρ) → σ ∈ S) (hKc : ∀ σ, σ ∈ Kt c ρ → σ ∈ S) (hs : pre c ρ ∈ S) (hn : Lan a []) (ht : t = .bin x.p a c) :
    Calls Try.prog 72 #[.pointer (some ⟨kr, 0, none⟩), .int .i64 n, .int .u8 b, .int .i64 rest, .pointer (some ⟨bp, 0, none⟩)] w (ReadPost w B kr cur E F T b1 b2 n0 S bp l vA vI (Rd t b ρ)) := by
  have k1 : (x.p.k == 1) = false := by rw [hk]; rfl
  have k2 : (x.p.k == 2) = true := by rw [hk]; rfl
  have HK := Lib.hid (And.intro hk (And.intro hda (And.intro hdc (And.intro hKa (And.intro hKc (And.intro hs hn))))))
  clear hk hda hdc hKa hKc hs hn
  have HT := Lib.hid ht
  clear ht
  obtain ⟨gF, cF, f, c2, hgF, hnF, hF8, hcF1, hcF2, hfo, hz⟩ := hRP.rd.fact hd
  have z1 := hz 1 (by decide)
  have z2 := hz 2 (by decide)
  have z3 := hz 3 (by decide)
  have z4 := hz 4 (by decide)
  simp only [faCells, List.getElem?_cons_zero, List.getElem?_cons_succ] at z1 z2 z3 z4
  obtain ⟨nF, hnF'⟩ : ∃ nF, F.length = nF := ⟨_, rfl⟩
  rw [hnF'] at c2 hnF hF8 hcF1
  have hkb : kr < w.heap.size := hRP.rd.book.num.st.lt
  have iF : (n : Int) < (nF : Int) := by omega
  unfold maxLen at hcF2
  have HFO := Lib.hid hfo
  obtain ⟨gE, cE, c0, hgE, hnE, hE8, hcE1, hcE2, hy⟩ := hRP.rd.entry hx
  have y0 := hy 0 (by decide)
  have y1 := hy 1 (by decide)
  have y2 := hy 2 (by decide)
  have y3 := hy 3 (by decide)
  have y4 := hy 4 (by decide)
  have y5 := hy 5 (by decide)
  have y6 := hy 6 (by decide)
  simp only [exCells, List.getElem?_cons_zero, List.getElem?_cons_succ, Nat.add_zero] at y0 y1 y2 y3 y4 y5 y6
  obtain ⟨nE, hnE'⟩ : ∃ nE, E.length = nE := ⟨_, rfl⟩
  rw [hnE'] at c0 hnE hE8 hcE1
  have iE : (n : Int) < (nE : Int) := by omega
  unfold maxLen at hcE2
  have hfb : f.s b = true := (hfo.2.1 b hb).2 hyes
  have HY := Lib.hid hyes
  have HRP := Lib.hid hRP
  have HX := Lib.hid hx
  have HD := Lib.hid (And.intro hd hr)
  clear hRP hd hr hz hy hnF' hnE' hfo hyes hx
  go_enter Try.func72, Try.ntmps72
  go_wp2_with fail
  refine (has_any f.s b hb _).mono ?_
  rintro e w1 ⟨rfl, hb1⟩
  rw [hfb]
  have hkb1 : kr < w1.heap.size := by have := hb1.size; omega
  have hgE1 : gE < w1.heap.size := by have := hb1.size; omega
  have c01 : w1.cell? ⟨kr, 0, none⟩ = some (.slice (some ⟨gE, 0, none⟩) nE cE) := by rw [hb1.cell (p := ⟨kr, 0, none⟩) hkb]; exact c0
  have hcl : ∀ j, w1.cell? ⟨gE, j, none⟩ = w.cell? ⟨gE, j, none⟩ := fun j => hb1.cell (p := ⟨gE, j, none⟩) hgE
  rw [← hcl] at y0 y1 y2 y3 y4 y5 y6
  have HB := Lib.hid hb1
  have hbx : Below w1.heap.size w1 (w1.alloc (.cells #[.int .i64 x.p.k, .int .u64 ((wd x.p.p 0 : Nat) : Int), .int .u64 ((wd x.p.p 1 : Nat) : Int), .int .u64 ((wd x.p.p 2 : Nat) : Int), .int .u64 ((wd x.p.p 3 : Nat) : Int), .int .i64 ((x.a : Nat) : Int), .int .i64 ((x.b : Nat) : Int)] 142)) := (Below.refl _ _).alloc (Nat.le_refl _) _
  have hX := St.new w1 142 #[.int .i64 x.p.k, .int .u64 ((wd x.p.p 0 : Nat) : Int), .int .u64 ((wd x.p.p 1 : Nat) : Int), .int .u64 ((wd x.p.p 2 : Nat) : Int), .int .u64 ((wd x.p.p 3 : Nat) : Int), .int .i64 ((x.a : Nat) : Int), .int .i64 ((x.b : Nat) : Int)]
  have hB1 : B ≤ w1.heap.size := by have := hb1.size; omega
  have HR1 := Lib.hid ((HRP.out.below hb1).below hbx)
  have HF1 := Lib.hid ((CFr.of_below (kr := kr) (bp := bp) cur b1 b2 vA vI hb1 hB).trans (CFr.of_below cur b1 b2 vA vI hbx hB1))
  have hB2 : B ≤ (w1.alloc (.cells #[.int .i64 x.p.k, .int .u64 ((wd x.p.p 0 : Nat) : Int), .int .u64 ((wd x.p.p 1 : Nat) : Int), .int .u64 ((wd x.p.p 2 : Nat) : Int), .int .u64 ((wd x.p.p 3 : Nat) : Int), .int .i64 ((x.a : Nat) : Int), .int .i64 ((x.b : Nat) : Int)] 142)).heap.size := by simp; omega
  clear hb1 hfb c2 z1 z2 z3 z4 hcl c0
  go_upto_region 2 with (fail)
  clear c01 y0 y1 y2 y3 y4 y5 y6
  generalize w1.alloc (.cells #[.int .i64 x.p.k, .int .u64 ((wd x.p.p 0 : Nat) : Int), .int .u64 ((wd x.p.p 1 : Nat) : Int), .int .u64 ((wd x.p.p 2 : Nat) : Int), .int .u64 ((wd x.p.p 3 : Nat) : Int), .int .i64 ((x.a : Nat) : Int), .int .i64 ((x.b : Nat) : Int)] 142) = W at HR1 HF1 hX hB2 ⊢
  clear hbx
  obtain ⟨x0, x1, x2, x3, x4, x5, x6⟩ := row7 hX
  go_quiet (fail)
  have hRd := HR1.out.below (below_drewN W nq)
  have hFd := HF1.out.trans (CFr.of_below cur b1 b2 vA vI (below_drewN W nq) hB2)
  have hBd : B ≤ (W.drewN nq).heap.size := by simpa using hB2
  have hXd : St (W.drewN nq) 142 w1.heap.size #[.int .i64 x.p.k, .int .u64 ((wd x.p.p 0 : Nat) : Int), .int .u64 ((wd x.p.p 1 : Nat) : Int), .int .u64 ((wd x.p.p 2 : Nat) : Int), .int .u64 ((wd x.p.p 3 : Nat) : Int), .int .i64 ((x.a : Nat) : Int), .int .i64 ((x.b : Nat) : Int)] := hX.kept (ts := []) (bs := []) ((Kept.refl _ _ _).below (below_drewN W nq)) (by simp) (by simp)
  have hxn : w1.heap.size ∉ rdBlks kr cur b1 b2 := fun hm => by have := HRP.out.rd.lt _ hm; have := HB.out.size; omega
  have hxp : w1.heap.size ∉ pileBlks bp vA vI := fun hm => by have := HRP.out.pl.mem_lt _ hm; have := HB.out.size; omega
  have HXN := Lib.hid (And.intro hxn hxp)
  clear x0 x1 x2 x3 x4 x5 x6 hxn hxp hX
  generalize W.drewN nq = V at hRd hFd hBd hXd ⊢
  obtain ⟨x0, x1, x2, x3, x4, x5, x6⟩ := row7 hXd
  have HV := Lib.hid (And.intro hRd (And.intro hFd hXd))
  clear hRd hFd hXd
  go_wp2_with fail
  refine (prepend_any c V B kr cur E F T b1 b2 n0 S x.b rest ρ HV.out.1.rd hBd HK.out.2.2.1 HD.out.2 HK.out.2.2.2.2.2.1).mono ?_
  rintro e2 V2 ⟨j2, T2, cur2, q2, rfl, hR, hD, hx, ho, hz, hF⟩
  obtain ⟨hRP, hCF⟩ := HV.out.1.reader hR hF
  have H2 := Lib.hid (And.intro hRP (And.intro hD (And.intro hx (And.intro ho (And.intro hz hCF)))))
  have hB_2 : B ≤ V2.heap.size := by have := hF.below.size; omega
  clear hR hD hx ho hz hF hRP hCF
  go_wp2_with fail
  refine (iha V2 B kr cur2 E F T2 b1 q2 n0 S bp l m vA vI x.a b j2 (pre c ρ) H2.out.1 hB_2 HK.out.2.1 hb H2.out.2.1 HK.out.2.2.2.1).mono ?_
  rintro e3 V3 ⟨cur3, E3, F3, T3, p3, q3, l3, m3, vA3, vI3, rfl, hRP, hx1, hx2, hl, hA, hC, ho, hz, hF⟩
  have H3 := Lib.hid (And.intro hRP (And.intro hx1 (And.intro hx2 (And.intro hl (And.intro hA (And.intro hC (And.intro ho (And.intro hz hF))))))))
  have hB_3 : B ≤ V3.heap.size := by have := hF.below.size; omega
  clear hRP hx1 hx2 hl hA hC ho hz hF
  obtain ⟨gF3, cF3, f3, d3, hgF3, hnF3, hF83, hcF13, hcF23, hfo3, hz3⟩ := H3.out.1.rd.fact (HK.out.2.1.ext H3.out.2.1)
  have z30 := hz3 0 (by decide)
  simp only [faCells, List.getElem?_cons_zero, Nat.add_zero] at z30
  obtain ⟨nF3, hnF3'⟩ : ∃ nF3, F3.length = nF3 := ⟨_, rfl⟩
  rw [hnF3'] at d3 hnF3 hF83 hcF13
  have hkb3 : kr < V3.heap.size := H3.out.1.rd.book.num.st.lt
  have iF3 : (x.a : Int) < (nF3 : Int) := by omega
  unfold maxLen at hcF23
  have hfe : f3.e = true := hfo3.1.2 HK.out.2.2.2.2.2.2
  rw [hfe] at z30
  clear hz3 hnF3' hfo3 hfe
  go_wp2_with fail
  clear z30 d3
  refine (ihc V3 B kr cur3 E3 F3 T3 p3 q3 n0 S bp l3 m3 vA3 vI3 x.b b rest ρ H3.out.1 hB_3 (HK.out.2.2.1.ext H3.out.2.1) hb (HD.out.2.ext H3.out.2.1 (H2.out.2.2.1.trans H3.out.2.2.1)) HK.out.2.2.2.2.1).mono ?_
  rintro e4 V4 ⟨cur4, E4, F4, T4, p4, q4, l4, m4, vA4, vI4, rfl, hRP, hx1, hx2, hl, hA, hC, ho, hz, hF⟩
  have H4 := Lib.hid (And.intro hRP (And.intro hx1 (And.intro hx2 (And.intro hl (And.intro hA (And.intro hC (And.intro ho (And.intro hz hF))))))))
  have hB_4 : B ≤ V4.heap.size := by have := hF.below.size; omega
  clear hRP hx1 hx2 hl hA hC ho hz hF
  go_wp2_with fail
  go_end0
  rw [HT.out]
  have hD : ∀ σ, Rd (.bin x.p a c) b ρ σ ↔ Rd a b (pre c ρ) σ ∨ (Rd c b ρ σ ∨ False) := fun σ => by
    show (if x.p.k = 2 then _ else _) ↔ _
    rw [if_pos HK.out.1]
    simp [HK.out.2.2.2.2.2.2]
  exact read_pre (F' := F) (Ext.refl _) (Ext.refl _) (fun _ _ => rfl) rfl HV.out.2.1 (read_pre (F' := F) (Ext.refl _) H2.out.2.2.1 H2.out.2.2.2.1 H2.out.2.2.2.2.1 H2.out.2.2.2.2.2 (read_seq (F' := F3) H3.out.2.1 H3.out.2.2.1 H3.out.2.2.2.1 H3.out.2.2.2.2.1 H3.out.2.2.2.2.2.1 H3.out.2.2.2.2.2.2.1 H3.out.2.2.2.2.2.2.2.1 H3.out.2.2.2.2.2.2.2.2 (read_seq (F' := F4) H4.out.2.1 H4.out.2.2.1 H4.out.2.2.2.1 H4.out.2.2.2.2.1 H4.out.2.2.2.2.2.1 H4.out.2.2.2.2.2.2.1 H4.out.2.2.2.2.2.2.2.1 H4.out.2.2.2.2.2.2.2.2 (read_end rfl H4.out.1) (fun σ => Iff.rfl)) hD))
end Go.Proofs.Ytkdhdlokilgccaa
