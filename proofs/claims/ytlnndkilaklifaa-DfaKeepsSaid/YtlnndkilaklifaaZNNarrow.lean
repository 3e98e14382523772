import Derived.Test.YtlnndkilaklifaaZNNum
import Derived.Deep.RegionWith
import Derived.Deep.AppendLies
namespace Go.Proofs.Ytlnndkilaklifaa
open Go.RowKit Go.Maps Go.WideElems Go.ChangeMaps Go.MapKept
set_option linter.unusedVariables false

theorem NumAt.start (w : World) (B : Nat) (hB : B ≤ w.heap.size) : NumAt (((w.alloc (.cells #[.slice none 0 0] 25)).alloc (.map #[] 0)).alloc (.cells #[.map (some (w.heap.size + 1))] 101)) B (w.heap.size + 2) w.heap.size (w.heap.size + 1) (.slice none 0 0) [] := by
  refine ⟨?_, ?_, World.ownsRow_nil _ _ _ _, ?_, List.nodup_nil, by simp, by omega, by omega⟩
  · have := St.new ((w.alloc (.cells #[.slice none 0 0] 25)).alloc (.map #[] 0)) 101 #[.map (some (w.heap.size + 1))]
    simpa using this
  · exact ((St.new w _ _).alloc _).alloc _
  · have h1 : MapEx ((w.alloc (.cells #[.slice none 0 0] 25)).alloc (.map #[] 0)) 3 (w.heap.size + 1) 0 (NmQ []) := by
      have := MapEx.made (w.alloc (.cells #[.slice none 0 0] 25)) 3 (NmQ []) (fun x y ⟨k, s, h, _⟩ => by simp at h)
      simpa using this
    exact h1.same (Below.heap_alloc _ _ _ h1.lt)

/-- Before the edges. -/
structure Nar0 (w : World) (b0 b1 bMv bN bM : Nat) (cs : Array Value) (vN : Value) (nm : List Nat) (wr : World) : Prop where
  s0 : St wr 24 b0 cs
  s1 : St wr 24 b1 #[.int .i64 0, .slice none 0 0, .int .i64 0, .int .i64 0]
  num : NumAt wr w.heap.size bMv bN bM vN nm
  below : Below w.heap.size w wr
theorem Nar0.keep {w wr w1 : World} {b0 b1 bMv bN bM : Nat} {cs : Array Value} {vN : Value} {nm : List Nat} (h : Nar0 w b0 b1 bMv bN bM cs vN nm wr) (b : Below wr.heap.size wr w1) : Nar0 w b0 b1 bMv bN bM cs vN nm w1 :=
  ⟨h.s0.keep b, h.s1.keep b, h.num.keep b, h.below.trans (b.mono h.below.size)⟩
theorem num_far {w wr : World} {B bMv bN bM : Nat} {vN : Value} {nm : List Nat} (h : NumAt wr B bMv bN bM vN nm) {t b : Nat} {cs : Array Value} (hs : St wr t b cs) (ht : t ≠ 25) : b ∉ [bM, bN] := by
  intro hm
  simp only [List.mem_cons, List.not_mem_nil, or_false] at hm
  rcases hm with rfl | rfl
  · obtain ⟨es, clock, he, _⟩ := h.map
    have h2 : wr.heap[_]? = _ := hs
    rw [h2] at he
    cases he
  · exact absurd rfl (hs.ne h.sN ht)
theorem St.num {w wr w1 : World} {B bMv bN bM : Nat} {vN : Value} {nm : List Nat} {t b : Nat} {cs : Array Value} (hs : St wr t b cs) (h : NumAt wr B bMv bN bM vN nm) (hk : Kept [3] [bM, bN] wr w1) (ht : t ≠ 25) (ht2 : t ≠ 3) : St w1 t b cs :=
  hs.kept hk (by simpa using ht2) (num_far h (w := w) hs ht)
theorem Nar0.call {w wr w1 : World} {b0 b1 bMv bN bM : Nat} {cs : Array Value} {vN vN' : Value} {nm nm' : List Nat} (h : Nar0 w b0 b1 bMv bN bM cs vN nm wr) (hn : NumAt w1 w.heap.size bMv bN bM vN' nm') (hb : Below w.heap.size wr w1) (hk : Kept [3] [bM, bN] wr w1) : Nar0 w b0 b1 bMv bN bM cs vN' nm' w1 :=
  ⟨h.s0.num (w := w) h.num hk (by decide) (by decide), h.s1.num (w := w) h.num hk (by decide) (by decide), hn, h.below.trans hb⟩
theorem Nar0.start (w : World) (cs : Array Value) : Nar0 w w.heap.size (w.heap.size + 1) (w.heap.size + 1 + 1 + 1 + 1) (w.heap.size + 1 + 1) (w.heap.size + 1 + 1 + 1) cs (.slice none 0 0) []
    (((((w.alloc (.cells cs 24)).alloc (.cells #[.int .i64 0, .slice none 0 0, .int .i64 0, .int .i64 0] 24)).alloc (.cells #[.slice none 0 0] 25)).alloc (.map #[] 0)).alloc (.cells #[.map (some (w.heap.size + 1 + 1 + 1))] 101)) := by
  have hN := NumAt.start ((w.alloc (.cells cs 24)).alloc (.cells #[.int .i64 0, .slice none 0 0, .int .i64 0, .int .i64 0] 24)) w.heap.size (by simp; omega)
  have h1 := (St.new (w.alloc (.cells cs 24)) 24 #[.int .i64 0, .slice none 0 0, .int .i64 0, .int .i64 0])
  refine ⟨((((St.new w _ _).alloc _).alloc _).alloc _).alloc _, ?_, ?_, (((((Below.refl _ _).alloc (Nat.le_refl _) _).alloc (by simp) _).alloc (by simp; omega) _).alloc (by simp; omega) _).alloc (by simp; omega) _⟩
  · have := ((h1.alloc (.cells #[.slice none 0 0] 25)).alloc (.map #[] 0)).alloc (.cells #[.map (some (w.heap.size + 1 + 1 + 1))] 101)
    simpa using this
  · simpa using hN

theorem NumAt.set {wr : World} {B bMv bN bM : Nat} {vN : Value} {nm : List Nat} (h : NumAt wr B bMv bN bM vN nm) {t b : Nat} {cs : Array Value} (hs : St wr t b cs) (h1 : t ≠ 25) (h2 : t ≠ 3) (h3 : t ≠ 101) (i : Nat) (u : Value) : NumAt (wr.setCell ⟨b, i, none⟩ u) B bMv bN bM vN nm :=
  ⟨h.sM.set_far hs (Ne.symm h3) i u, h.sN.set_far hs (Ne.symm h1) i u, own_set h.own hs (Ne.symm h2) i u, h.map.set hs, h.nd, h.le, h.bM, h.bN⟩
theorem Nar0.set {w wr : World} {b0 b1 bMv bN bM b : Nat} {cs cs' : Array Value} {vN : Value} {nm : List Nat} (h : Nar0 w b0 b1 bMv bN bM cs vN nm wr) {t : Nat} (hs : St wr t b cs') (h0 : b0 ≠ b) (h1 : b1 ≠ b) (g1 : t ≠ 25) (g2 : t ≠ 3) (g3 : t ≠ 101) (hB : w.heap.size ≤ b) (i : Nat) (u : Value) : Nar0 w b0 b1 bMv bN bM cs vN nm (wr.setCell ⟨b, i, none⟩ u) :=
  ⟨h.s0.far (p := ⟨b, i, none⟩) h0 u, h.s1.far (p := ⟨b, i, none⟩) h1 u, h.num.set hs g1 g2 g3 i u, h.below.setCell (p := ⟨b, i, none⟩) hB u⟩
theorem Nar0.set4 {w wr : World} {b0 b1 bMv bN bM b : Nat} {cs : Array Value} {vN : Value} {nm : List Nat} (h : Nar0 w b0 b1 bMv bN bM cs vN nm wr) {c0 c1 c2 c3 : Value} (hs : St wr 24 b #[c0, c1, c2, c3]) (h0 : b0 ≠ b) (h1 : b1 ≠ b) (hB : w.heap.size ≤ b) (d0 d1 d2 d3 : Value) :
    Nar0 w b0 b1 bMv bN bM cs vN nm ((((wr.setCell ⟨b, 0, none⟩ d0).setCell ⟨b, 1, none⟩ d1).setCell ⟨b, 2, none⟩ d2).setCell ⟨b, 3, none⟩ d3) :=
  (((h.set hs h0 h1 (by decide) (by decide) (by decide) hB 0 d0).set (hs.set 0 d0) h0 h1 (by decide) (by decide) (by decide) hB 1 d1).set ((hs.set 0 d0).set 1 d1) h0 h1 (by decide) (by decide) (by decide) hB 2 d2).set (((hs.set 0 d0).set 1 d1).set 2 d2) h0 h1 (by decide) (by decide) (by decide) hB 3 d3
theorem Try.info_edge : (Try.prog.info? 43).map (fun i => (i.zero, i.size, i.bytes)) = some (some (.agg #[.int .i64 0, .int .i64 0, .int .u64 0, .int .u64 0, .int .u64 0, .int .u64 0, .bool false]), 7, 56) := by kernel_rfl
theorem row7e {w : World} {g t : Nat} {c0 c1 c2 c3 c4 c5 c6 : Value} (h : St w t g #[c0, c1, c2, c3, c4, c5, c6]) : w.cell? ⟨g, 0, none⟩ = some c0 ∧ w.cell? ⟨g, 1, none⟩ = some c1 ∧ w.cell? ⟨g, 2, none⟩ = some c2 ∧ w.cell? ⟨g, 3, none⟩ = some c3 ∧ w.cell? ⟨g, 4, none⟩ = some c4 ∧ w.cell? ⟨g, 5, none⟩ = some c5 ∧ w.cell? ⟨g, 6, none⟩ = some c6 :=
  ⟨h.at_ 0, h.at_ 1, h.at_ 2, h.at_ 3, h.at_ 4, h.at_ 5, h.at_ 6⟩
theorem own_set4n {w : World} {B t t' g size n : Nat} {v : Value} {xs : List Value} {c0 c1 c2 c3 : Value} (h : w.ownsRow B t size v n xs) (hs : St w t' g #[c0, c1, c2, c3]) (ht : t ≠ t') (d0 d1 d2 d3 : Value) :
    ((((w.setCell ⟨g, 0, none⟩ d0).setCell ⟨g, 1, none⟩ d1).setCell ⟨g, 2, none⟩ d2).setCell ⟨g, 3, none⟩ d3).ownsRow B t size v n xs :=
  own_set (own_set (own_set (own_set h hs ht 0 d0) (hs.set 0 d0) ht 1 d1) ((hs.set 0 d0).set 1 d1) ht 2 d2) (((hs.set 0 d0).set 1 d1).set 2 d2) ht 3 d3
/-- A state that is named. -/
def Src (L : List En) (F T x : Nat) : Prop := x = F ∨ x = T ∨ ∃ e ∈ L, e.f = x ∨ e.t = x
/-- After k edges: small is in block bs. -/
structure NarL (w : World) (b0 b1 bs bMv bN bM : Nat) (cs : Array Value) (F T f l : Nat) (L : List En) (k m : Nat) (vN vE : Value) (nm : List Nat) (L' : List En) (wr : World) : Prop where
  n0 : Nar0 w b0 b1 bMv bN bM cs vN nm wr
  ss : St wr 24 bs #[.int .i64 0, vE, .int .i64 ((f : Nat) : Int), .int .i64 ((l : Nat) : Int)]
  oe : wr.ownsRow w.heap.size 43 7 vE k (egs (L'.map En.z))
  ne : b0 ≠ bs ∧ b1 ≠ bs ∧ w.heap.size ≤ bs
  rel : L.take k = L'.map (En.ren nm)
  bd : ∀ e ∈ L', e.f < nm.length ∧ e.t < nm.length
  hf : nm[f]? = some F
  hl : nm[l]? = some T
  len : nm.length ≤ m
  src : ∀ x ∈ nm, Src L F T x
theorem ext_at {nm nm' : List Nat} {s k x : Nat} (h : nm' = nm ∨ nm' = nm ++ [s]) (hk : nm[k]? = some x) : nm'[k]? = some x := by
  rcases h with rfl | rfl
  · exact hk
  · rw [List.getElem?_append_left (List.getElem?_eq_some_iff.1 hk).1]; exact hk
theorem ext_src {L : List En} {F T s : Nat} {nm nm' : List Nat} (h : nm' = nm ∨ nm' = nm ++ [s]) (hs : Src L F T s) (hn : ∀ x ∈ nm, Src L F T x) : ∀ x ∈ nm', Src L F T x := by
  rcases h with rfl | rfl
  · exact hn
  · intro x hx
    rcases List.mem_append.1 hx with hx | hx
    · exact hn x hx
    · rw [List.mem_singleton.1 hx]; exact hs
theorem ext_len {nm nm' : List Nat} {s : Nat} (h : nm' = nm ∨ nm' = nm ++ [s]) : nm.length ≤ nm'.length ∧ nm'.length ≤ nm.length + 1 := by
  rcases h with rfl | rfl <;> simp
theorem ext_ren {nm nm' : List Nat} {s : Nat} (h : nm' = nm ∨ nm' = nm ++ [s]) {L' : List En} (hb : ∀ e ∈ L', e.f < nm.length ∧ e.t < nm.length) : L'.map (En.ren nm') = L'.map (En.ren nm) := by
  refine List.map_congr_left fun e he => ?_
  obtain ⟨h1, h2⟩ := hb e he
  have g : ∀ i, i < nm.length → nm'.getD i 0 = nm.getD i 0 := fun i hi => by
    rw [List.getD_eq_getElem?_getD, List.getD_eq_getElem?_getD, List.getElem?_eq_getElem hi, ext_at h (List.getElem?_eq_getElem hi)]
  simp only [En.ren, g _ h1, g _ h2]
theorem NarL.keep {w wr : World} {b0 b1 bs bMv bN bM : Nat} {cs : Array Value} {F T f l : Nat} {L : List En} {k m : Nat} {vN vE : Value} {nm : List Nat} {L' : List En} {w1 : World} (h : NarL w b0 b1 bs bMv bN bM cs F T f l L k m vN vE nm L' wr) (b : Below wr.heap.size wr w1) : NarL w b0 b1 bs bMv bN bM cs F T f l L k m vN vE nm L' w1 :=
  ⟨h.n0.keep b, h.ss.keep b, ownsRow_keep h.oe b, h.ne, h.rel, h.bd, h.hf, h.hl, h.len, h.src⟩
theorem NarL.call {w wr : World} {b0 b1 bs bMv bN bM : Nat} {cs : Array Value} {F T f l : Nat} {L : List En} {k m : Nat} {vN vE : Value} {nm : List Nat} {L' : List En} {w1 : World} {vN' : Value} {nm' : List Nat} {s : Nat} (h : NarL w b0 b1 bs bMv bN bM cs F T f l L k m vN vE nm L' wr) (hn : NumAt w1 w.heap.size bMv bN bM vN' nm') (hb : Below w.heap.size wr w1) (hk : Kept [3] [bM, bN] wr w1) (hor : nm' = nm ∨ nm' = nm ++ [s]) (hs : Src L F T s) : NarL w b0 b1 bs bMv bN bM cs F T f l L k (m + 1) vN' vE nm' L' w1 := by
  have hl := ext_len hor
  refine ⟨h.n0.call hn hb hk, h.ss.num (w := w) h.n0.num hk (by decide) (by decide), own_kept h.oe hk (by decide) (fun g hg => ?_), h.ne, by rw [ext_ren hor h.bd]; exact h.rel, fun e he => ?_, ext_at hor h.hf, ext_at hor h.hl, by have := h.len; omega, ext_src hor hs h.src⟩
  · obtain ⟨c, fz, hc⟩ := own_kind h.oe g hg
    intro hm
    simp only [List.mem_cons, List.not_mem_nil, or_false] at hm
    rcases hm with rfl | rfl
    · obtain ⟨es, clock, he, _⟩ := h.n0.num.map
      rw [hc] at he
      cases he
    · have h2 : wr.heap[_]? = _ := h.n0.num.sN
      rw [hc] at h2
      cases h2
  · have := h.bd e he
    omega
theorem NarL.set {w wr : World} {b0 b1 bs bMv bN bM : Nat} {cs : Array Value} {F T f l : Nat} {L : List En} {k m : Nat} {vN vE : Value} {nm : List Nat} {L' : List En} {be : Nat} {cs' : Array Value} (h : NarL w b0 b1 bs bMv bN bM cs F T f l L k m vN vE nm L' wr) (hs : St wr 43 be cs') (hB : w.heap.size ≤ be) (hn : ∀ g, vE.ownBlock = some g → g ≠ be) (i : Nat) (u : Value) : NarL w b0 b1 bs bMv bN bM cs F T f l L k m vN vE nm L' (wr.setCell ⟨be, i, none⟩ u) :=
  ⟨h.n0.set hs (h.n0.s0.ne hs (by decide)) (h.n0.s1.ne hs (by decide)) (by decide) (by decide) (by decide) hB i u, h.ss.set_far hs (by decide) i u,
    own_kept (ts := []) (bs := [be]) h.oe ((Kept.refl _ _ _).setCell _ _ (Or.inl (by simp))) (by simp) (fun g hg => by have := hn g hg; simpa using this), h.ne, h.rel, h.bd, h.hf, h.hl, h.len, h.src⟩
theorem NumAt.grownE {wr w1 : World} {B B' bMv bN bM : Nat} {vN vE : Value} {nm : List Nat} {k : Nat} {xs : List Value} (h : NumAt wr B bMv bN bM vN nm) (ho : wr.ownsRow B' 43 7 vE k xs) (hg : wr.grownBy w1 vE.ownBlock) : NumAt w1 B bMv bN bM vN nm :=
  ⟨h.sM.grown_own ho (by decide) hg, h.sN.grown_own ho (by decide) hg, own_grown_own h.own ho (by decide) hg, h.map.grown_own ho hg, h.nd, h.le, h.bM, h.bN⟩
theorem NarL.app {w wr : World} {b0 b1 bs bMv bN bM : Nat} {cs : Array Value} {F T f l : Nat} {L : List En} {k m : Nat} {vN vE : Value} {nm : List Nat} {L' : List En} {w1 : World} {vE' : Value} {x : En} (h : NarL w b0 b1 bs bMv bN bM cs F T f l L k m vN vE nm L' wr) (ho : w1.ownsRow w.heap.size 43 7 vE' (k + 1) (egs (L'.map En.z) ++ egCells x.z)) (hg : wr.grownBy w1 vE.ownBlock) (hx : x.f < nm.length ∧ x.t < nm.length) (hr : L.take (k + 1) = L.take k ++ [x.ren nm]) :
    NarL w b0 b1 bs bMv bN bM cs F T f l L (k + 1) m vN vE' nm (L' ++ [x]) (w1.setCell ⟨bs, 1, none⟩ vE') := by
  have hs1 := h.n0.s0.grown_own h.oe (by decide) hg
  have hs2 := h.n0.s1.grown_own h.oe (by decide) hg
  have hn := h.n0.num.grownE h.oe hg
  have hss := h.ss.grown_own h.oe (by decide) hg
  have hb := below_grown_own h.n0.below h.oe h.n0.below.size hg
  have h0 : Nar0 w b0 b1 bMv bN bM cs vN nm w1 := ⟨hs1, hs2, hn, hb⟩
  refine ⟨h0.set hss h.ne.1 h.ne.2.1 (by decide) (by decide) (by decide) h.ne.2.2 1 vE', ?_, ?_, h.ne, ?_, ?_, h.hf, h.hl, h.len, h.src⟩
  · have := hss.set 1 vE'
    simpa using this
  · have := own_set ho hss (by decide) 1 vE'
    rw [List.map_append, egs_append]
    simpa [egs] using this
  · rw [hr, h.rel, List.map_append]; rfl
  · intro e he
    rcases List.mem_append.1 he with he | he
    · exact h.bd e he
    · rw [List.mem_singleton.1 he]; exact hx
def NarPost (w : World) (L : List En) (F T n : Nat) (e : Ending) (w' : World) : Prop :=
  ∃ (nm : List Nat) (L' : List En) (f l : Nat) (aE : Option Addr) (cE : Nat) (aN : Option Addr) (cN : Nat),
    e = .returned (.tuple #[.agg #[.int .i64 ((nm.length : Nat) : Int), .slice aE n cE, .int .i64 ((f : Nat) : Int), .int .i64 ((l : Nat) : Int)], .slice aN nm.length cN]) ∧
    w'.ownsRow w.heap.size 43 7 (.slice aE n cE) n (egs (L'.map En.z)) ∧ w'.ownsRow w.heap.size 3 1 (.slice aN nm.length cN) nm.length (nums64 nm) ∧ nm.Nodup ∧ L = L'.map (En.ren nm) ∧
    (∀ e ∈ L', e.f < nm.length ∧ e.t < nm.length) ∧ nm[f]? = some F ∧ nm[l]? = some T ∧ nm.length ≤ 2 * n + 2 ∧ (∀ x ∈ nm, Src L F T x) ∧ Below w.heap.size w w'

end Go.Proofs.Ytlnndkilaklifaa
