import Derived.Test.YthidhkaeebakjaaNNum
import Derived.Deep.RegionWith
import Derived.Deep.AppendLies
namespace Go.Proofs.Ythidhkaeebakjaa
open Go.RowKit Go.Maps Go.WideElems Go.ChangeMaps Go.MapKept
set_option linter.unusedVariables false

theorem NumAt.start (w : World) (B : Nat) (hB : B ≤ w.heap.size) : NumAt (((w.alloc (.cells #[.slice none 0 0] 43)).alloc (.map #[] 0)).alloc (.cells #[.map (some (w.heap.size + 1))] 89)) B (w.heap.size + 2) w.heap.size (w.heap.size + 1) (.slice none 0 0) [] := by
  refine ⟨?_, ?_, World.ownsRow_nil _ _ _ _, ?_, List.nodup_nil, by simp, by omega, by omega⟩
  · have := St.new ((w.alloc (.cells #[.slice none 0 0] 43)).alloc (.map #[] 0)) 89 #[.map (some (w.heap.size + 1))]
    simpa using this
  · exact ((St.new w _ _).alloc _).alloc _
  · have h1 : MapEx ((w.alloc (.cells #[.slice none 0 0] 43)).alloc (.map #[] 0)) 3 (w.heap.size + 1) 0 (NmQ []) := by
      have := MapEx.made (w.alloc (.cells #[.slice none 0 0] 43)) 3 (NmQ []) (fun x y ⟨k, s, h, _⟩ => by simp at h)
      simpa using this
    exact h1.same (Below.heap_alloc _ _ _ h1.lt)

/-- Before the edges. -/
structure Nar0 (w : World) (b0 b1 bMv bN bM : Nat) (cs : Array Value) (vN : Value) (nm : List Nat) (wr : World) : Prop where
  s0 : St wr 24 b0 cs
  s1 : St wr 24 b1 #[.int .i64 0, .slice none 0 0, .int .i64 0, .int .i64 0]
  num : NumAt wr w.heap.size bMv bN bM vN nm
  below : Below w.heap.size w wr
theorem Nar0.keep {w wr w1 : World} {b0 b1 bMv bN bM : Nat} {cs : Array Value} {vN : Value} {nm : List Nat} (h : Nar0 w b0 b1 bMv bN bM cs vN nm wr) (b : Below wr.heap.size wr w1) : Nar0 w b0 b1 bMv bN bM cs vN nm w1 :=
  ⟨h.s0.keep b, h.s1.keep b, h.num.keep b, h.below.trans (b.mono h.below.size)⟩
theorem num_far {w wr : World} {B bMv bN bM : Nat} {vN : Value} {nm : List Nat} (h : NumAt wr B bMv bN bM vN nm) {t b : Nat} {cs : Array Value} (hs : St wr t b cs) (ht : t ≠ 43) : b ∉ [bM, bN] := by
  intro hm
  simp only [List.mem_cons, List.not_mem_nil, or_false] at hm
  rcases hm with rfl | rfl
  · obtain ⟨es, clock, he, _⟩ := h.map
    have h2 : wr.heap[_]? = _ := hs
    rw [h2] at he
    cases he
  · exact absurd rfl (hs.ne h.sN ht)
theorem St.num {w wr w1 : World} {B bMv bN bM : Nat} {vN : Value} {nm : List Nat} {t b : Nat} {cs : Array Value} (hs : St wr t b cs) (h : NumAt wr B bMv bN bM vN nm) (hk : Kept [3] [bM, bN] wr w1) (ht : t ≠ 43) (ht2 : t ≠ 3) : St w1 t b cs :=
  hs.kept hk (by simpa using ht2) (num_far h (w := w) hs ht)
theorem Nar0.call {w wr w1 : World} {b0 b1 bMv bN bM : Nat} {cs : Array Value} {vN vN' : Value} {nm nm' : List Nat} (h : Nar0 w b0 b1 bMv bN bM cs vN nm wr) (hn : NumAt w1 w.heap.size bMv bN bM vN' nm') (hb : Below w.heap.size wr w1) (hk : Kept [3] [bM, bN] wr w1) : Nar0 w b0 b1 bMv bN bM cs vN' nm' w1 :=
  ⟨h.s0.num (w := w) h.num hk (by decide) (by decide), h.s1.num (w := w) h.num hk (by decide) (by decide), hn, h.below.trans hb⟩
theorem Nar0.start (w : World) (cs : Array Value) : Nar0 w w.heap.size (w.heap.size + 1) (w.heap.size + 1 + 1 + 1 + 1) (w.heap.size + 1 + 1) (w.heap.size + 1 + 1 + 1) cs (.slice none 0 0) []
    (((((w.alloc (.cells cs 24)).alloc (.cells #[.int .i64 0, .slice none 0 0, .int .i64 0, .int .i64 0] 24)).alloc (.cells #[.slice none 0 0] 43)).alloc (.map #[] 0)).alloc (.cells #[.map (some (w.heap.size + 1 + 1 + 1))] 89)) := by
  have hN := NumAt.start ((w.alloc (.cells cs 24)).alloc (.cells #[.int .i64 0, .slice none 0 0, .int .i64 0, .int .i64 0] 24)) w.heap.size (by simp; omega)
  have h1 := (St.new (w.alloc (.cells cs 24)) 24 #[.int .i64 0, .slice none 0 0, .int .i64 0, .int .i64 0])
  refine ⟨((((St.new w _ _).alloc _).alloc _).alloc _).alloc _, ?_, ?_, (((((Below.refl _ _).alloc (Nat.le_refl _) _).alloc (by simp) _).alloc (by simp; omega) _).alloc (by simp; omega) _).alloc (by simp; omega) _⟩
  · have := ((h1.alloc (.cells #[.slice none 0 0] 43)).alloc (.map #[] 0)).alloc (.cells #[.map (some (w.heap.size + 1 + 1 + 1))] 89)
    simpa using this
  · simpa using hN

theorem NumAt.set {wr : World} {B bMv bN bM : Nat} {vN : Value} {nm : List Nat} (h : NumAt wr B bMv bN bM vN nm) {t b : Nat} {cs : Array Value} (hs : St wr t b cs) (h1 : t ≠ 43) (h2 : t ≠ 3) (h3 : t ≠ 89) (i : Nat) (u : Value) : NumAt (wr.setCell ⟨b, i, none⟩ u) B bMv bN bM vN nm :=
  ⟨h.sM.set_far hs (Ne.symm h3) i u, h.sN.set_far hs (Ne.symm h1) i u, own_set h.own hs (Ne.symm h2) i u, h.map.set hs, h.nd, h.le, h.bM, h.bN⟩
theorem Nar0.set {w wr : World} {b0 b1 bMv bN bM b : Nat} {cs cs' : Array Value} {vN : Value} {nm : List Nat} (h : Nar0 w b0 b1 bMv bN bM cs vN nm wr) {t : Nat} (hs : St wr t b cs') (h0 : b0 ≠ b) (h1 : b1 ≠ b) (g1 : t ≠ 43) (g2 : t ≠ 3) (g3 : t ≠ 89) (hB : w.heap.size ≤ b) (i : Nat) (u : Value) : Nar0 w b0 b1 bMv bN bM cs vN nm (wr.setCell ⟨b, i, none⟩ u) :=
  ⟨h.s0.far (p := ⟨b, i, none⟩) h0 u, h.s1.far (p := ⟨b, i, none⟩) h1 u, h.num.set hs g1 g2 g3 i u, h.below.setCell (p := ⟨b, i, none⟩) hB u⟩
theorem Nar0.set4 {w wr : World} {b0 b1 bMv bN bM b : Nat} {cs : Array Value} {vN : Value} {nm : List Nat} (h : Nar0 w b0 b1 bMv bN bM cs vN nm wr) {c0 c1 c2 c3 : Value} (hs : St wr 24 b #[c0, c1, c2, c3]) (h0 : b0 ≠ b) (h1 : b1 ≠ b) (hB : w.heap.size ≤ b) (d0 d1 d2 d3 : Value) :
    Nar0 w b0 b1 bMv bN bM cs vN nm ((((wr.setCell ⟨b, 0, none⟩ d0).setCell ⟨b, 1, none⟩ d1).setCell ⟨b, 2, none⟩ d2).setCell ⟨b, 3, none⟩ d3) :=
  (((h.set hs h0 h1 (by decide) (by decide) (by decide) hB 0 d0).set (hs.set 0 d0) h0 h1 (by decide) (by decide) (by decide) hB 1 d1).set ((hs.set 0 d0).set 1 d1) h0 h1 (by decide) (by decide) (by decide) hB 2 d2).set (((hs.set 0 d0).set 1 d1).set 2 d2) h0 h1 (by decide) (by decide) (by decide) hB 3 d3
theorem Try.info_edge : (Try.prog.info? 35).map (fun i => (i.zero, i.size, i.bytes)) = some (some (.agg #[.int .i64 0, .int .i64 0, .int .u64 0, .int .u64 0, .int .u64 0, .int .u64 0, .bool false]), 7, 56) := by kernel_rfl
theorem row7e {w : World} {g t : Nat} {c0 c1 c2 c3 c4 c5 c6 : Value} (h : St w t g #[c0, c1, c2, c3, c4, c5, c6]) : w.cell? ⟨g, 0, none⟩ = some c0 ∧ w.cell? ⟨g, 1, none⟩ = some c1 ∧ w.cell? ⟨g, 2, none⟩ = some c2 ∧ w.cell? ⟨g, 3, none⟩ = some c3 ∧ w.cell? ⟨g, 4, none⟩ = some c4 ∧ w.cell? ⟨g, 5, none⟩ = some c5 ∧ w.cell? ⟨g, 6, none⟩ = some c6 :=
  ⟨h.at_ 0, h.at_ 1, h.at_ 2, h.at_ 3, h.at_ 4, h.at_ 5, h.at_ 6⟩
theorem own_set4n {w : World} {B t t' g size n : Nat} {v : Value} {xs : List Value} {c0 c1 c2 c3 : Value} (h : w.ownsRow B t size v n xs) (hs : St w t' g #[c0, c1, c2, c3]) (ht : t ≠ t') (d0 d1 d2 d3 : Value) :
    ((((w.setCell ⟨g, 0, none⟩ d0).setCell ⟨g, 1, none⟩ d1).setCell ⟨g, 2, none⟩ d2).setCell ⟨g, 3, none⟩ d3).ownsRow B t size v n xs :=
  own_set (own_set (own_set (own_set h hs ht 0 d0) (hs.set 0 d0) ht 1 d1) ((hs.set 0 d0).set 1 d1) ht 2 d2) (((hs.set 0 d0).set 1 d1).set 2 d2) ht 3 d3
/-- A state that is named. -/
def Src (L : List En) (F T x : Nat) : Prop := x = F ∨ x = T ∨ ∃ e ∈ L, e.f = x ∨ e.t = x
/-- After k edges: small is in block bs. -/
structure NarL (w : World) (b0 b1 bs bMv bN bM : Nat) (cs : Array Value) (F T f l : Nat) (L : List En) (k m : Nat) (vN vE : Value) (nm : List Nat) (L' : List En) (wr : World) : Prop where
  n0 : Nar0 w b0 b1 bMv bN bM cs vN nm wr
  ss : St wr 24 bs #[.int .i64 0, vE, .int .i64 ((f : Nat) : Int), .int .i64 ((l : Nat) : Int)]
  oe : wr.ownsRow w.heap.size 35 7 vE k (egs (L'.map En.z))
  ne : b0 ≠ bs ∧ b1 ≠ bs ∧ w.heap.size ≤ bs
  rel : L.take k = L'.map (En.ren nm)
  bd : ∀ e ∈ L', e.f < nm.length ∧ e.t < nm.length
  hf : nm[f]? = some F
  hl : nm[l]? = some T
  len : nm.length ≤ m
  src : ∀ x ∈ nm, Src L F T x
theorem ext_at {nm nm' : List Nat} {s k x : Nat} (h : nm' = nm ∨ nm' = nm ++ [s]) (hk : nm[k]? = some x) : nm'[k]? = some x := by
  rcases h with rfl | rfl
  · exact hk
  · rw [List.getElem?_append_left (List.getElem?_eq_some_iff.1 hk).1]; exact hk
theorem ext_src {L : List En} {F T s : Nat} {nm nm' : List Nat} (h : nm' = nm ∨ nm' = nm ++ [s]) (hs : Src L F T s) (hn : ∀ x ∈ nm, Src L F T x) : ∀ x ∈ nm', Src L F T x := by
  rcases h with rfl | rfl
  · exact hn
  · intro x hx
    rcases List.mem_append.1 hx with hx | hx
    · exact hn x hx
    · rw [List.mem_singleton.1 hx]; exact hs
theorem ext_len {nm nm' : List Nat} {s : Nat} (h : nm' = nm ∨ nm' = nm ++ [s]) : nm.length ≤ nm'.length ∧ nm'.length ≤ nm.length + 1 := by
  rcases h with rfl | rfl <;> simp
theorem ext_ren {nm nm' : List Nat} {s : Nat} (h : nm' = nm ∨ nm' = nm ++ [s]) {L' : List En} (hb : ∀ e ∈ L', e.f < nm.length ∧ e.t < nm.length) : L'.map (En.ren nm') = L'.map (En.ren nm) := by
  refine List.map_congr_left fun e he => ?_
  obtain ⟨h1, h2⟩ := hb e he
  have g : ∀ i, i < nm.length → nm'.getD i 0 = nm.getD i 0 := fun i hi => by
    rw [List.getD_eq_getElem?_getD, List.getD_eq_getElem?_getD, List.getElem?_eq_getElem hi, ext_at h (List.getElem?_eq_getElem hi)]
  simp only [En.ren, g _ h1, g _ h2]
theorem NarL.keep {w wr : World} {b0 b1 bs bMv bN bM : Nat} {cs : Array Value} {F T f l : Nat} {L : List En} {k m : Nat} {vN vE : Value} {nm : List Nat} {L' : List En} {w1 : World} (h : NarL w b0 b1 bs bMv bN bM cs F T f l L k m vN vE nm L' wr) (b : Below wr.heap.size wr w1) : NarL w b0 b1 bs bMv bN bM cs F T f l L k m vN vE nm L' w1 :=
  ⟨h.n0.keep b, h.ss.keep b, ownsRow_keep h.oe b, h.ne, h.rel, h.bd, h.hf, h.hl, h.len, h.src⟩
theorem NarL.call {w wr : World} {b0 b1 bs bMv bN bM : Nat} {cs : Array Value} {F T f l : Nat} {L : List En} {k m : Nat} {vN vE : Value} {nm : List Nat} {L' : List En} {w1 : World} {vN' : Value} {nm' : List Nat} {s : Nat} (h : NarL w b0 b1 bs bMv bN bM cs F T f l L k m vN vE nm L' wr) (hn : NumAt w1 w.heap.size bMv bN bM vN' nm') (hb : Below w.heap.size wr w1) (hk : Kept [3] [bM, bN] wr w1) (hor : nm' = nm ∨ nm' = nm ++ [s]) (hs : Src L F T s) : NarL w b0 b1 bs bMv bN bM cs F T f l L k (m + 1) vN' vE nm' L' w1 := by
  have hl := ext_len hor
  refine ⟨h.n0.call hn hb hk, h.ss.num (w := w) h.n0.num hk (by decide) (by decide), own_kept h.oe hk (by decide) (fun g hg => ?_), h.ne, by rw [ext_ren hor h.bd]; exact h.rel, fun e he => ?_, ext_at hor h.hf, ext_at hor h.hl, by have := h.len; omega, ext_src hor hs h.src⟩
  · obtain ⟨c, fz, hc⟩ := own_kind h.oe g hg
    intro hm
    simp only [List.mem_cons, List.not_mem_nil, or_false] at hm
    rcases hm with rfl | rfl
    · obtain ⟨es, clock, he, _⟩ := h.n0.num.map
      rw [hc] at he
      cases he
    · have h2 : wr.heap[_]? = _ := h.n0.num.sN
      rw [hc] at h2
      cases h2
  · have := h.bd e he
    omega
theorem NarL.set {w wr : World} {b0 b1 bs bMv bN bM : Nat} {cs : Array Value} {F T f l : Nat} {L : List En} {k m : Nat} {vN vE : Value} {nm : List Nat} {L' : List En} {be : Nat} {cs' : Array Value} (h : NarL w b0 b1 bs bMv bN bM cs F T f l L k m vN vE nm L' wr) (hs : St wr 35 be cs') (hB : w.heap.size ≤ be) (hn : ∀ g, vE.ownBlock = some g → g ≠ be) (i : Nat) (u : Value) : NarL w b0 b1 bs bMv bN bM cs F T f l L k m vN vE nm L' (wr.setCell ⟨be, i, none⟩ u) :=
  ⟨h.n0.set hs (h.n0.s0.ne hs (by decide)) (h.n0.s1.ne hs (by decide)) (by decide) (by decide) (by decide) hB i u, h.ss.set_far hs (by decide) i u,
    own_kept (ts := []) (bs := [be]) h.oe ((Kept.refl _ _ _).setCell _ _ (Or.inl (by simp))) (by simp) (fun g hg => by have := hn g hg; simpa using this), h.ne, h.rel, h.bd, h.hf, h.hl, h.len, h.src⟩
theorem NumAt.grownE {wr w1 : World} {B B' bMv bN bM : Nat} {vN vE : Value} {nm : List Nat} {k : Nat} {xs : List Value} (h : NumAt wr B bMv bN bM vN nm) (ho : wr.ownsRow B' 35 7 vE k xs) (hg : wr.grownBy w1 vE.ownBlock) : NumAt w1 B bMv bN bM vN nm :=
  ⟨h.sM.grown_own ho (by decide) hg, h.sN.grown_own ho (by decide) hg, own_grown_own h.own ho (by decide) hg, h.map.grown_own ho hg, h.nd, h.le, h.bM, h.bN⟩
theorem NarL.app {w wr : World} {b0 b1 bs bMv bN bM : Nat} {cs : Array Value} {F T f l : Nat} {L : List En} {k m : Nat} {vN vE : Value} {nm : List Nat} {L' : List En} {w1 : World} {vE' : Value} {x : En} (h : NarL w b0 b1 bs bMv bN bM cs F T f l L k m vN vE nm L' wr) (ho : w1.ownsRow w.heap.size 35 7 vE' (k + 1) (egs (L'.map En.z) ++ egCells x.z)) (hg : wr.grownBy w1 vE.ownBlock) (hx : x.f < nm.length ∧ x.t < nm.length) (hr : L.take (k + 1) = L.take k ++ [x.ren nm]) :
    NarL w b0 b1 bs bMv bN bM cs F T f l L (k + 1) m vN vE' nm (L' ++ [x]) (w1.setCell ⟨bs, 1, none⟩ vE') := by
  have hs1 := h.n0.s0.grown_own h.oe (by decide) hg
  have hs2 := h.n0.s1.grown_own h.oe (by decide) hg
  have hn := h.n0.num.grownE h.oe hg
  have hss := h.ss.grown_own h.oe (by decide) hg
  have hb := below_grown_own h.n0.below h.oe h.n0.below.size hg
  have h0 : Nar0 w b0 b1 bMv bN bM cs vN nm w1 := ⟨hs1, hs2, hn, hb⟩
  refine ⟨h0.set hss h.ne.1 h.ne.2.1 (by decide) (by decide) (by decide) h.ne.2.2 1 vE', ?_, ?_, h.ne, ?_, ?_, h.hf, h.hl, h.len, h.src⟩
  · have := hss.set 1 vE'
    simpa using this
  · have := own_set ho hss (by decide) 1 vE'
    rw [List.map_append, egs_append]
    simpa [egs] using this
  · rw [hr, h.rel, List.map_append]; rfl
  · intro e he
    rcases List.mem_append.1 he with he | he
    · exact h.bd e he
    · rw [List.mem_singleton.1 he]; exact hx
def NarPost (w : World) (L : List En) (F T n : Nat) (e : Ending) (w' : World) : Prop :=
  ∃ (nm : List Nat) (L' : List En) (f l : Nat) (aE : Option Addr) (cE : Nat) (aN : Option Addr) (cN : Nat),
    e = .returned (.tuple #[.agg #[.int .i64 ((nm.length : Nat) : Int), .slice aE n cE, .int .i64 ((f : Nat) : Int), .int .i64 ((l : Nat) : Int)], .slice aN nm.length cN]) ∧
    w'.ownsRow w.heap.size 35 7 (.slice aE n cE) n (egs (L'.map En.z)) ∧ w'.ownsRow w.heap.size 3 1 (.slice aN nm.length cN) nm.length (nums64 nm) ∧ nm.Nodup ∧ L = L'.map (En.ren nm) ∧
    (∀ e ∈ L', e.f < nm.length ∧ e.t < nm.length) ∧ nm[f]? = some F ∧ nm[l]? = some T ∧ nm.length ≤ 2 * n + 2 ∧ (∀ x ∈ nm, Src L F T x) ∧ Below w.heap.size w w'

set_option maxHeartbeats 4000000 in
set_option maxRecDepth 100000 in
theorem narrow_any (L : List En) (N F T : Nat) (hO : Ok L N F T) (hN : N ≤ 1000000) (a : Option Addr) (n c : Nat) (w : World) (hL : EdAt w a (L.map En.z)) (hn : L.length = n) (hmax : n ≤ 1000) :
    Calls Try.prog 31 #[.agg #[.int .i64 ((N : Nat) : Int), .slice a n c, .int .i64 ((F : Nat) : Int), .int .i64 ((T : Nat) : Int)]] w (NarPost w L F T n) := by
  have hmm := @run_makeMap Try.prog
  have hmf : ∀ (fn : Fn) (first cap : Array Value) (w : World), (Instr.makeFunc fn first cap).run Try.prog w = .ok (.func fn first cap) w := fun _ _ _ _ => rfl
  have HR := Lib.hid (Nar0.start w #[.int .i64 ((N : Nat) : Int), .slice a n c, .int .i64 ((F : Nat) : Int), .int .i64 ((T : Nat) : Int)])
  have HL := Lib.hid (And.intro hL (And.intro hn hO))
  have hF := hO.f
  have hT := hO.t
  clear hL hn hO
  go_enter Try.func31, Try.ntmps31
  go_wp2_with fail
  clear hmm hmf
  generalize ((((w.alloc (.cells #[.int .i64 ((N : Nat) : Int), .slice a n c, .int .i64 ((F : Nat) : Int), .int .i64 ((T : Nat) : Int)] 24)).alloc (.cells #[.int .i64 0, .slice none 0 0, .int .i64 0, .int .i64 0] 24)).alloc (.cells #[.slice none 0 0] 43)).alloc (.map #[] 0)).alloc (.cells #[.map (some (w.heap.size + 1 + 1 + 1))] 89) = W0 at HR ⊢
  generalize w.heap.size + 1 + 1 + 1 + 1 = bMv at HR ⊢
  generalize w.heap.size + 1 + 1 + 1 = bM at HR ⊢
  generalize w.heap.size + 1 + 1 = bN at HR ⊢
  obtain ⟨r0, r1, r2, r3⟩ := HR.out.s0.cells4
  have hlt0 := HR.out.s0.lt
  have HD := Lib.hid (HR.out.keep (Below.refl _ _).drew)
  have HDa := Lib.hid (HR.out.keep (((Below.refl _ _).alloc (Nat.le_refl _) (.cells #[.int .i64 0, .slice none 0 0, .int .i64 0, .int .i64 0] 24)).drew))
  have HSa : Hid (St (W0.alloc (.cells #[.int .i64 0, .slice none 0 0, .int .i64 0, .int .i64 0] 24)).drew 24 W0.heap.size #[.int .i64 0, .slice none 0 0, .int .i64 0, .int .i64 0]) := St.new W0 _ _
  have hB0 : w.heap.size ≤ W0.drew.heap.size := HR.out.below.size
  have hB0a : w.heap.size ≤ (W0.alloc (.cells #[.int .i64 0, .slice none 0 0, .int .i64 0, .int .i64 0] 24)).drew.heap.size := HDa.out.below.size
  have hsa := (((Below.refl _ W0).alloc (Nat.le_refl _) (.cells #[.int .i64 0, .slice none 0 0, .int .i64 0, .int .i64 0] 24)).drew).size
  have hFm : F ≤ 9223372036854775807 := by omega
  have hTm : T ≤ 9223372036854775807 := by omega
  have hb0 : w.heap.size < W0.heap.size := HR.out.s0.lt
  have hb1 : w.heap.size + 1 < W0.heap.size := HR.out.s1.lt
  go_cut [7] from 12 to 20 (fun v wx => ∃ (bs f l : Nat) (vN : Value) (nm : List Nat), v = .pointer (some ⟨bs, 0, none⟩) ∧ NarL w w.heap.size (w.heap.size + 1) bs bMv bN bM #[.int .i64 ((N : Nat) : Int), .slice a n c, .int .i64 ((F : Nat) : Int), .int .i64 ((T : Nat) : Int)] F T f l L 0 2 vN (.slice none 0 0) nm [] wx)
  case first =>
    go_region_with (first
      | (go_at_call_of 49 (Value.int IntKind.i64 ((F : Nat) : Int)); refine (number_any W0.drew w.heap.size bMv bN bM (.slice none 0 0) [] HD.out.num hB0 (by simp) F hFm).mono ?_; rintro e w2 ⟨k1, nm1, vN1, rfl, hN1, hk1, hor1, hB1, hK1⟩; have hz2 : W0.heap.size ≤ w2.heap.size := hB1.size; have HD1 := Lib.hid (And.intro (HD.out.call hN1 hB1 hK1) (And.intro hk1 hor1)); have q3 := (HD1.out.1.s0.cells4).2.2.2; have hlt2 := HD1.out.1.s0.lt; clear hN1 hk1 hor1 hB1 hK1)
      | (go_at_call_of 49 (Value.int IntKind.i64 ((F : Nat) : Int)); refine (number_any (W0.alloc (.cells #[.int .i64 0, .slice none 0 0, .int .i64 0, .int .i64 0] 24)).drew w.heap.size bMv bN bM (.slice none 0 0) [] HDa.out.num hB0a (by simp) F hFm).mono ?_; rintro e w2 ⟨k1, nm1, vN1, rfl, hN1, hk1, hor1, hB1, hK1⟩; have hz2 : W0.heap.size ≤ w2.heap.size := Nat.le_trans hsa hB1.size; have HS2 := Lib.hid (HSa.out.num (w := w) HDa.out.num hK1 (by decide) (by decide)); have HD1 := Lib.hid (And.intro (HDa.out.call hN1 hB1 hK1) (And.intro hk1 hor1)); have q3 := (HD1.out.1.s0.cells4).2.2.2; have hlt2 := HD1.out.1.s0.lt; clear hN1 hk1 hor1 hB1 hK1)
      | (go_at_call_of 49 (Value.int IntKind.i64 ((T : Nat) : Int)); refine (number_any w2 w.heap.size bMv bN bM vN1 nm1 HD1.out.1.num HD1.out.1.below.size (by rcases HD1.out.2.2 with h | h <;> rw [h] <;> simp) T hTm).mono ?_; rintro e w3 ⟨k2, nm2, vN2, rfl, hN2, hk2, hor2, hB2, hK2⟩; have hz3 : w2.heap.size ≤ w3.heap.size := hB2.size; have HS3 := Lib.hid (HS2.out.num (w := w) HD1.out.1.num hK2 (by decide) (by decide)); have HD2 := Lib.hid (And.intro (HD1.out.1.call hN2 hB2 hK2) (And.intro hk2 hor2)); obtain ⟨z0, z1, z2, z3, f0, f1, f2, f3⟩ := row4 HS3.out; clear hN2 hk2 hor2 hB2 hK2)
      | (go_at_call_of 49 (Value.int IntKind.i64 ((T : Nat) : Int)); refine (number_any w2 w.heap.size bMv bN bM vN1 nm1 HD1.out.1.num HD1.out.1.below.size (by rcases HD1.out.2.2 with h | h <;> rw [h] <;> simp) T hTm).mono ?_; rintro e w3 ⟨k2, nm2, vN2, rfl, hN2, hk2, hor2, hB2, hK2⟩; have hz3 : w2.heap.size ≤ w3.heap.size := hB2.size; have HD2 := Lib.hid (And.intro (HD1.out.1.call hN2 hB2 hK2) (And.intro hk2 hor2)); clear hN2 hk2 hor2 hB2 hK2)
      | (go_at_call_of 49 (Value.int IntKind.i64 ((T : Nat) : Int)); have hsb := (((Below.refl _ w2).alloc (Nat.le_refl _) (.cells #[.int .i64 0, .slice none 0 0, .int .i64 0, .int .i64 0] 24))).size; have HS2 := Lib.hid (St.new w2 24 #[.int .i64 0, .slice none 0 0, .int .i64 0, .int .i64 0]); have HD1a := Lib.hid (HD1.out.1.keep ((Below.refl _ _).alloc (Nat.le_refl _) (.cells #[.int .i64 0, .slice none 0 0, .int .i64 0, .int .i64 0] 24))); refine (number_any (w2.alloc (.cells #[.int .i64 0, .slice none 0 0, .int .i64 0, .int .i64 0] 24)) w.heap.size bMv bN bM vN1 nm1 HD1a.out.num HD1a.out.below.size (by rcases HD1.out.2.2 with h | h <;> rw [h] <;> simp) T hTm).mono ?_; rintro e w3 ⟨k2, nm2, vN2, rfl, hN2, hk2, hor2, hB2, hK2⟩; have hz3 : w2.heap.size ≤ w3.heap.size := Nat.le_trans hsb hB2.size; have HS3 := Lib.hid (HS2.out.num (w := w) HD1a.out.num hK2 (by decide) (by decide)); have HD2 := Lib.hid (And.intro (HD1a.out.call hN2 hB2 hK2) (And.intro hk2 hor2)); obtain ⟨z0, z1, z2, z3, f0, f1, f2, f3⟩ := row4 HS3.out; clear hN2 hk2 hor2 hB2 hK2))
    all_goals
      go_wp2_with fail
      go_meet
      have hlen := ext_len HD2.out.2.2
      have hlen1 := ext_len HD1.out.2.2
      have mk : ∀ (bs : Nat) (wx : World), Nar0 w w.heap.size (w.heap.size + 1) bMv bN bM #[.int .i64 ((N : Nat) : Int), .slice a n c, .int .i64 ((F : Nat) : Int), .int .i64 ((T : Nat) : Int)] vN2 nm2 wx → St wx 24 bs #[.int .i64 0, .slice none 0 0, .int .i64 ((k1 : Nat) : Int), .int .i64 ((k2 : Nat) : Int)] → W0.heap.size ≤ bs → NarL w w.heap.size (w.heap.size + 1) bs bMv bN bM #[.int .i64 ((N : Nat) : Int), .slice a n c, .int .i64 ((F : Nat) : Int), .int .i64 ((T : Nat) : Int)] F T k1 k2 L 0 2 vN2 (.slice none 0 0) nm2 [] wx :=
        fun bs wx h1 h2 h3 => ⟨h1, h2, World.ownsRow_nil _ _ _ _, ⟨by omega, by omega, by omega⟩, rfl, by simp, ext_at HD2.out.2.2 HD1.out.2.1, HD2.out.2.1, by simp at hlen1; omega, ext_src HD2.out.2.2 (Or.inr (Or.inl rfl)) (ext_src HD1.out.2.2 (Or.inl rfl) (by simp))⟩
      have mk1 : NarL w w.heap.size (w.heap.size + 1) w3.heap.size bMv bN bM #[.int .i64 ((N : Nat) : Int), .slice a n c, .int .i64 ((F : Nat) : Int), .int .i64 ((T : Nat) : Int)] F T k1 k2 L 0 2 vN2 (.slice none 0 0) nm2 [] (w3.alloc (.cells #[.int .i64 0, .slice none 0 0, .int .i64 ((k1 : Nat) : Int), .int .i64 ((k2 : Nat) : Int)] 24)) := mk _ _ (HD2.out.1.keep ((Below.refl _ _).alloc (Nat.le_refl _) _)) (St.new _ _ _) (by omega)
      have mk2 : ∀ bs, W0.heap.size ≤ bs → St w3 24 bs #[.int .i64 0, .slice none 0 0, .int .i64 0, .int .i64 0] → NarL w w.heap.size (w.heap.size + 1) bs bMv bN bM #[.int .i64 ((N : Nat) : Int), .slice a n c, .int .i64 ((F : Nat) : Int), .int .i64 ((T : Nat) : Int)] F T k1 k2 L 0 2 vN2 (.slice none 0 0) nm2 [] ((((w3.setCell ⟨bs, 0, none⟩ (.int .i64 0)).setCell ⟨bs, 1, none⟩ (.slice none 0 0)).setCell ⟨bs, 2, none⟩ (.int .i64 ((k1 : Nat) : Int))).setCell ⟨bs, 3, none⟩ (.int .i64 ((k2 : Nat) : Int))) := fun bs h1 h2 => mk _ _ (HD2.out.1.set4 h2 (by omega) (by omega) (by omega) _ _ _ _) (h2.set4 _ _ _ _) h1
      first
        | exact ⟨_, _, _, _, _, rfl, mk2 _ (by omega) HS3.out⟩
        | exact ⟨_, _, _, _, _, rfl, mk1⟩
  case rest =>
    obtain ⟨bs, f, l, vN, nm, rfl, R⟩ := hcut
    have HR1 := Lib.hid R
    obtain ⟨r0, r1, r2, r3⟩ := R.n0.s0.cells4
    clear R HR HD HDa HSa hsa hB0 hB0a hlt0 hb0 hb1
    go_wp2_with fail
    clear r0 r1 r2 r3
    go_loopw [9, 24] (fun _ i wr => ∃ (k : Nat) (vN vE : Value) (nm : List Nat) (L' : List En), i = .int .i64 k ∧ k ≤ n ∧ Hid (NarL w w.heap.size (w.heap.size + 1) bs bMv bN bM #[.int .i64 ((N : Nat) : Int), .slice a n c, .int .i64 ((F : Nat) : Int), .int .i64 ((T : Nat) : Int)] F T f l L k (2 * k + 2) vN vE nm L' wr)) (fun _ i _ => n - (intOf i).toNat)
    case atStart => exact ⟨0, vN, _, nm, [], rfl, Nat.zero_le _, HR1⟩
    case round =>
      clear HR1
      obtain ⟨k, vN1, vE, nm1, L1, rfl, hk, HA⟩ := hrel
      obtain ⟨aE, cE, rfl⟩ := ownsRow_slice HA.out.oe
      have hsz := HA.out.n0.below.size
      by_cases hlt : k < n
      · have hkl : k < L.length := by rw [HL.out.2.1]; exact hlt
        obtain ⟨ge, off, rfl, hg, c0, c1, c2, c3, c4, c5, c6⟩ := (HL.out.1.below HA.out.n0.below).getN k hkl
        have HS : Hid (L.take (k + 1) = L.take k ++ [L[k]]) := List.take_succ_eq_append_getElem hkl
        have hx := HL.out.2.2.e L[k] (List.getElem_mem _)
        have HMm : Hid (L[k] ∈ L) := List.getElem_mem _
        generalize L[k] = x at c0 c1 c2 c3 c4 c5 c6 HS hx HMm
        have hal : Below wr.heap.size wr (wr.alloc (.cells #[.int .i64 ((x.f : Nat) : Int), .int .i64 ((x.t : Nat) : Int), .int .u64 ((wd x.p 0 : Nat) : Int), .int .u64 ((wd x.p 1 : Nat) : Int), .int .u64 ((wd x.p 2 : Nat) : Int), .int .u64 ((wd x.p 3 : Nat) : Int), .bool x.b] 35)) := (Below.refl _ _).alloc (Nat.le_refl _) _
        have HA1 := Lib.hid (HA.out.keep hal.drew)
        have hE1 := St.new wr 35 #[.int .i64 ((x.f : Nat) : Int), .int .i64 ((x.t : Nat) : Int), .int .u64 ((wd x.p 0 : Nat) : Int), .int .u64 ((wd x.p 1 : Nat) : Int), .int .u64 ((wd x.p 2 : Nat) : Int), .int .u64 ((wd x.p 3 : Nat) : Int), .bool x.b]
        have HE1 : Hid (St (wr.alloc (.cells #[.int .i64 ((x.f : Nat) : Int), .int .i64 ((x.t : Nat) : Int), .int .u64 ((wd x.p 0 : Nat) : Int), .int .u64 ((wd x.p 1 : Nat) : Int), .int .u64 ((wd x.p 2 : Nat) : Int), .int .u64 ((wd x.p 3 : Nat) : Int), .bool x.b] 35)).drew 35 wr.heap.size #[.int .i64 ((x.f : Nat) : Int), .int .i64 ((x.t : Nat) : Int), .int .u64 ((wd x.p 0 : Nat) : Int), .int .u64 ((wd x.p 1 : Nat) : Int), .int .u64 ((wd x.p 2 : Nat) : Int), .int .u64 ((wd x.p 3 : Nat) : Int), .bool x.b]) := hE1
        have d0 : (wr.alloc (.cells #[.int .i64 ((x.f : Nat) : Int), .int .i64 ((x.t : Nat) : Int), .int .u64 ((wd x.p 0 : Nat) : Int), .int .u64 ((wd x.p 1 : Nat) : Int), .int .u64 ((wd x.p 2 : Nat) : Int), .int .u64 ((wd x.p 3 : Nat) : Int), .bool x.b] 35)).drew.cell? ⟨wr.heap.size, 0, none⟩ = some (.int .i64 ((x.f : Nat) : Int)) := HE1.out.at_ 0
        have d1 : (wr.alloc (.cells #[.int .i64 ((x.f : Nat) : Int), .int .i64 ((x.t : Nat) : Int), .int .u64 ((wd x.p 0 : Nat) : Int), .int .u64 ((wd x.p 1 : Nat) : Int), .int .u64 ((wd x.p 2 : Nat) : Int), .int .u64 ((wd x.p 3 : Nat) : Int), .bool x.b] 35)).drew.cell? ⟨wr.heap.size, 1, none⟩ = some (.int .i64 ((x.t : Nat) : Int)) := HE1.out.at_ 1
        have hfm : x.f ≤ 9223372036854775807 := by omega
        have htm : x.t ≤ 9223372036854775807 := by omega
        have hown : Hid (∀ g, (Value.slice aE k cE).ownBlock = some g → g < wr.heap.size) := fun g e => by
          obtain ⟨c, fz, hc⟩ := own_kind HA.out.oe g e
          exact (Array.getElem?_eq_some_iff.1 hc).1
        clear hal hE1 hkl
        go_wp2_with fail
        clear c0 c1 c2 c3 c4 c5 c6
        have hnl : nm1.length ≤ 1000000 := by have := HA.out.len; omega
        go_region_with (first
          | (go_at_call_of 49 (Value.int IntKind.i64 ((x.f : Nat) : Int)); refine (number_any (wr.alloc (.cells #[.int .i64 ((x.f : Nat) : Int), .int .i64 ((x.t : Nat) : Int), .int .u64 ((wd x.p 0 : Nat) : Int), .int .u64 ((wd x.p 1 : Nat) : Int), .int .u64 ((wd x.p 2 : Nat) : Int), .int .u64 ((wd x.p 3 : Nat) : Int), .bool x.b] 35)).drew w.heap.size bMv bN bM vN1 nm1 HA1.out.n0.num HA1.out.n0.below.size hnl x.f hfm).mono ?_; rintro e w2 ⟨k1, nm2, vN2, rfl, hN2, hk2, hor2, hB2, hK2⟩; have HA2 := Lib.hid (And.intro (HA1.out.call hN2 hB2 hK2 hor2 (Or.inr (Or.inr ⟨x, HMm.out, Or.inl rfl⟩))) (And.intro (HE1.out.num (w := w) HA1.out.n0.num hK2 (by decide) (by decide)) (And.intro hk2 hor2))); have e1 : w2.cell? ⟨wr.heap.size, 1, none⟩ = some (.int .i64 ((x.t : Nat) : Int)) := HA2.out.2.1.at_ 1; clear hN2 hk2 hor2 hB2 hK2)
          | (go_at_call_of 49 (Value.int IntKind.i64 ((x.t : Nat) : Int)); refine (number_any w2 w.heap.size bMv bN bM vN2 nm2 HA2.out.1.n0.num HA2.out.1.n0.below.size (by have := HA2.out.1.len; omega) x.t htm).mono ?_; rintro e w3 ⟨k2, nm3, vN3, rfl, hN3, hk3, hor3, hB3, hK3⟩; have HA3 := Lib.hid (And.intro (HA2.out.1.call hN3 hB3 hK3 hor3 (Or.inr (Or.inr ⟨x, HMm.out, Or.inr rfl⟩))) (And.intro (HA2.out.2.1.num (w := w) HA2.out.1.n0.num hK3 (by decide) (by decide)) (And.intro hk3 hor3))); have z0 : w3.cell? ⟨wr.heap.size, 0, none⟩ = some (.int .i64 ((x.f : Nat) : Int)) := HA3.out.2.1.at_ 0; have z1 : w3.cell? ⟨wr.heap.size, 1, none⟩ = some (.int .i64 ((x.t : Nat) : Int)) := HA3.out.2.1.at_ 1; have f0 := HA3.out.2.1.thaw_ 0; have f1 := HA3.out.2.1.thaw_ 1; clear hN3 hk3 hor3 hB3 hK3))
        all_goals
          have HA4 := Lib.hid ((HA3.out.1.set HA3.out.2.1 hsz (fun g e => Nat.ne_of_lt (hown.out g e)) 0 (.int .i64 ((k1 : Nat) : Int))).set (HA3.out.2.1.set 0 (.int .i64 ((k1 : Nat) : Int))) hsz (fun g e => Nat.ne_of_lt (hown.out g e)) 1 (.int .i64 ((k2 : Nat) : Int)))
          have HE4 : Hid (St ((w3.setCell ⟨wr.heap.size, 0, none⟩ (.int .i64 ((k1 : Nat) : Int))).setCell ⟨wr.heap.size, 1, none⟩ (.int .i64 ((k2 : Nat) : Int))) 35 wr.heap.size #[.int .i64 ((k1 : Nat) : Int), .int .i64 ((k2 : Nat) : Int), .int .u64 ((wd x.p 0 : Nat) : Int), .int .u64 ((wd x.p 1 : Nat) : Int), .int .u64 ((wd x.p 2 : Nat) : Int), .int .u64 ((wd x.p 3 : Nat) : Int), .bool x.b]) := by
            have := (HA3.out.2.1.set 0 (.int .i64 ((k1 : Nat) : Int))).set 1 (.int .i64 ((k2 : Nat) : Int))
            show St _ _ _ _
            simpa using this
          have HK := Lib.hid (And.intro (ext_at HA3.out.2.2.2 HA2.out.2.2.1) HA3.out.2.2.1)
          have hnl3 := HA4.out.len
          clear z0 z1 f0 f1 e1 d0 d1
          generalize (w3.setCell ⟨wr.heap.size, 0, none⟩ (.int .i64 ((k1 : Nat) : Int))).setCell ⟨wr.heap.size, 1, none⟩ (.int .i64 ((k2 : Nat) : Int)) = W4 at HA4 HE4 ⊢
          obtain ⟨p0, p1, p2, p3⟩ := HA4.out.ss.cells4
          obtain ⟨y0, y1, y2, y3, y4, y5, y6⟩ := row7e HE4.out
          obtain ⟨i0, hi, hz0, hz1, hz2⟩ := info_parts Try.info_edge
          have hO4 := HA4.out.oe
          have hs4 := HA4.out.n0.below.size
          clear HA3 HA2 HE1 HA1 HE4
          go_wp2_with (at_builtin; refine wpList_append_own _ rfl _ _ 22 rfl w.heap.size 35 i0 (.agg #[.int .i64 0, .int .i64 0, .int .u64 0, .int .u64 0, .int .u64 0, .int .u64 0, .bool false]) 7 56 Try.underlying22 hi hz0 hz1 hz2 rfl (by decide) _ _ _ rfl (hO4.alloc _) ⟨W4.heap.size, 0, none⟩ 1 1 (#[.int .i64 ((k1 : Nat) : Int), .int .i64 ((k2 : Nat) : Int), .int .u64 ((wd x.p 0 : Nat) : Int), .int .u64 ((wd x.p 1 : Nat) : Int), .int .u64 ((wd x.p 2 : Nat) : Int), .int .u64 ((wd x.p 3 : Nat) : Int), .bool x.b]).toList rfl rfl (World.news_of_block (cs := #[.int .i64 ((k1 : Nat) : Int), .int .i64 ((k2 : Nat) : Int), .int .u64 ((wd x.p 0 : Nat) : Int), .int .u64 ((wd x.p 1 : Nat) : Int), .int .u64 ((wd x.p 2 : Nat) : Int), .int .u64 ((wd x.p 3 : Nat) : Int), .bool x.b]) (St.new _ _ _)) ?_ ?_ ?_ ?_ ?_)
          · exact ⟨rfl, rfl, rfl, rfl, rfl, rfl, rfl⟩
          · unfold maxLen; omega
          · omega
          · simp; omega
          intro v' w5 hown5 hgrow5 _
          obtain ⟨a5, c5, rfl⟩ := ownsRow_slice hown5
          have hal : Below W4.heap.size W4 (W4.alloc (.cells #[.int .i64 ((k1 : Nat) : Int), .int .i64 ((k2 : Nat) : Int), .int .u64 ((wd x.p 0 : Nat) : Int), .int .u64 ((wd x.p 1 : Nat) : Int), .int .u64 ((wd x.p 2 : Nat) : Int), .int .u64 ((wd x.p 3 : Nat) : Int), .bool x.b] 35)) := (Below.refl _ _).alloc (Nat.le_refl _) _
          have hA5 := HA4.out.keep hal
          have g1 : nm3.getD k1 0 = x.f := by rw [List.getD_eq_getElem?_getD, HK.out.1]; rfl
          have g2 : nm3.getD k2 0 = x.t := by rw [List.getD_eq_getElem?_getD, HK.out.2]; rfl
          have HF := Lib.hid (hA5.app (x := ⟨k1, k2, x.p, x.b⟩) (vE' := .slice a5 (k + 1) c5) hown5 hgrow5 ⟨(List.getElem?_eq_some_iff.1 HK.out.1).1, (List.getElem?_eq_some_iff.1 HK.out.2).1⟩ (by rw [HS.out]; simp only [En.ren, g1, g2]))
          have hs5 := hA5.ss.grown_own hA5.oe (by decide) hgrow5
          have q1 := hs5.at_ 1
          simp only [List.getElem?_toArray, List.getElem?_cons_succ, List.getElem?_cons_zero] at q1
          have q2 := hs5.thaw_ 1
          clear hown5 hgrow5 hal hA5 hs5 g1 g2 hO4 HA4 HK p0 p1 p2 p3 y0 y1 y2 y3 y4 y5 y6
          go_wp2_with fail
          go_roundw
          case rel => exact ⟨k + 1, _, _, nm3, _, by go_num, by omega, HF⟩
          case measure => simp [intOf]; omega
      · obtain rfl : k = n := by omega
        obtain ⟨p0, p1, p2, p3⟩ := HA.out.ss.cells4
        have pf0 := HA.out.ss.thaw_ 0
        obtain ⟨aN, cN, rfl⟩ := ownsRow_slice HA.out.n0.num.own
        have n0 : wr.cell? ⟨bN, 0, none⟩ = some (.slice aN nm1.length cN) := HA.out.n0.num.sN.at_ 0
        have hne1 := HA.out.ne
        have hA1 := HA.out.n0.set HA.out.ss hne1.1 hne1.2.1 (by decide) (by decide) (by decide) hne1.2.2 0 (.int .i64 ((nm1.length : Nat) : Int))
        have hss := HA.out.ss.set 0 (.int .i64 ((nm1.length : Nat) : Int))
        have hss1 : Hid (St (wr.setCell ⟨bs, 0, none⟩ (.int .i64 ((nm1.length : Nat) : Int))) 24 bs #[.int .i64 ((nm1.length : Nat) : Int), .slice aE k cE, .int .i64 ((f : Nat) : Int), .int .i64 ((l : Nat) : Int)]) := by
          show St _ _ _ _
          simpa using hss
        have hoe := own_set HA.out.oe HA.out.ss (by decide) 0 (.int .i64 ((nm1.length : Nat) : Int))
        have HH := Lib.hid (And.intro hA1 hoe)
        have HN := Lib.hid (And.intro HA.out.rel (And.intro HA.out.bd (And.intro HA.out.hf (And.intro HA.out.hl (And.intro HA.out.len HA.out.src)))))
        have hbl : w.heap.size ≤ w.heap.size + 1 := by omega
        clear hss hA1 hoe
        go_wp2_with fail
        clear p0 p1 p2 p3 pf0 n0 HA
        generalize wr.setCell ⟨bs, 0, none⟩ (.int .i64 ((nm1.length : Nat) : Int)) = W5 at hss1 HH ⊢
        obtain ⟨M, hM⟩ : ∃ M, nm1.length = M := ⟨_, rfl⟩
        rw [hM] at hss1
        have n0 : W5.cell? ⟨bN, 0, none⟩ = some (.slice aN M cN) := by rw [← hM]; exact HH.out.1.num.sN.at_ 0
        obtain ⟨p0, p1, p2, p3⟩ := hss1.out.cells4
        obtain ⟨q0, q1, q2, q3, g0, g1, g2, g3⟩ := row4 HH.out.1.s1
        have HM := Lib.hid hM
        have HF : Hid (NarPost w L F T k (.returned (.tuple #[.agg #[.int .i64 ((M : Nat) : Int), .slice aE k cE, .int .i64 ((f : Nat) : Int), .int .i64 ((l : Nat) : Int)], .slice aN M cN])) ((((W5.setCell ⟨w.heap.size + 1, 0, none⟩ (.int .i64 ((M : Nat) : Int))).setCell ⟨w.heap.size + 1, 1, none⟩ (.slice aE k cE)).setCell ⟨w.heap.size + 1, 2, none⟩ (.int .i64 ((f : Nat) : Int))).setCell ⟨w.heap.size + 1, 3, none⟩ (.int .i64 ((l : Nat) : Int))).drew) := by
          subst hM
          refine ⟨nm1, L1, f, l, aE, cE, aN, cN, rfl, (own_set4n HH.out.2 HH.out.1.s1 (by decide) _ _ _ _).drew, (own_set4n HH.out.1.num.own HH.out.1.s1 (by decide) _ _ _ _).drew, HH.out.1.num.nd, ?_, HN.out.2.1, HN.out.2.2.1, HN.out.2.2.2.1, HN.out.2.2.2.2.1, HN.out.2.2.2.2.2, (below4 HH.out.1.below hbl _ _ _ _).drew⟩
          rw [← HN.out.1, List.take_of_length_le (by rw [HL.out.2.1]; exact Nat.le_refl _)]
        have HSf : Hid (St (((((W5.setCell ⟨w.heap.size + 1, 0, none⟩ (.int .i64 ((M : Nat) : Int))).setCell ⟨w.heap.size + 1, 1, none⟩ (.slice aE k cE)).setCell ⟨w.heap.size + 1, 2, none⟩ (.int .i64 ((f : Nat) : Int))).setCell ⟨w.heap.size + 1, 3, none⟩ (.int .i64 ((l : Nat) : Int))).drew) 24 (w.heap.size + 1) #[.int .i64 ((M : Nat) : Int), .slice aE k cE, .int .i64 ((f : Nat) : Int), .int .i64 ((l : Nat) : Int)]) := HH.out.1.s1.set4 _ _ _ _
        have ne1 : ¬ (bN = w.heap.size + 1) := HH.out.1.num.sN.ne HH.out.1.s1 (by decide)
        have ne2 : ¬ (w.heap.size + 1 = bN) := fun e => ne1 e.symm
        clear hM HN HH hss1
        go_region
        all_goals
          go_wp2_with fail
          generalize ((((W5.setCell ⟨w.heap.size + 1, 0, none⟩ (.int .i64 ((M : Nat) : Int))).setCell ⟨w.heap.size + 1, 1, none⟩ (.slice aE k cE)).setCell ⟨w.heap.size + 1, 2, none⟩ (.int .i64 ((f : Nat) : Int))).setCell ⟨w.heap.size + 1, 3, none⟩ (.int .i64 ((l : Nat) : Int))).drew = Wf at HF HSf ⊢
          obtain ⟨v0, v1, v2, v3⟩ := HSf.out.cells4
          exact bodyPost_ret (v := .tuple #[.agg #[.int .i64 ((M : Nat) : Int), .slice aE k cE, .int .i64 ((f : Nat) : Int), .int .i64 ((l : Nat) : Int)], .slice aN M cN]) (by simp [results, Try.results31, go_sem, v0, v1, v2, v3]) rfl HF.out
end Go.Proofs.Ythidhkaeebakjaa
