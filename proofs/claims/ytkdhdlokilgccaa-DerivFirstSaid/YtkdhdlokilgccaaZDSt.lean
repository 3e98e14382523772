import Derived.Test.YtkdhdlokilgccaaZDEnter
import Derived.Test.YtkdhdlokilgccaaZDTail
namespace Go.Proofs.Ytkdhdlokilgccaa
open Go.RowKit Go.Maps Go.WideElems Go.ChangeMaps Go.MapKept
set_option linter.unusedVariables false

/-! ### Entries and tails that grow in number -/
def Ext {α : Type} (l l' : List α) : Prop := ∀ (i : Nat) (x : α), l[i]? = some x → l'[i]? = some x
theorem Ext.refl {α : Type} (l : List α) : Ext l l := fun _ _ h => h
theorem Ext.trans {α : Type} {a b c : List α} (h : Ext a b) (k : Ext b c) : Ext a c := fun i x e => k i x (h i x e)
theorem Ext.snoc {α : Type} (l : List α) (y : α) : Ext l (l ++ [y]) := fun i x h => by
  rw [List.getElem?_append_left (List.getElem?_eq_some_iff.1 h).1]; exact h
theorem Den.ext {E E' : List Ex} {i : Nat} {t : Rx} (h : Den E i t) (k : Ext E E') : Den E' i t := by
  induction h with
  | leaf h0 h1 h2 => exact .leaf (k _ _ h0) h1 h2
  | un h0 h1 h2 h3 h4 _ ih => exact .un (k _ _ h0) h1 h2 h3 h4 ih
  | bin h0 h1 h2 h3 h4 _ _ ih1 ih2 => exact .bin (k _ _ h0) h1 h2 h3 h4 ih1 ih2
/-- Number i is the tail τ. -/
inductive TD (E : List Ex) (T : List Tl) : Nat → List Rx → Prop
  | nil : 0 < T.length → TD E T 0 []
  | cons {i h r : Nat} {u : Rx} {ρ : List Rx} : T[i]? = some ⟨(h : Int), (r : Int)⟩ → 0 < i → r < i → Den E h u → TD E T r ρ → TD E T i (u :: ρ)
theorem TD.ext {E E' : List Ex} {T T' : List Tl} {i : Nat} {τ : List Rx} (h : TD E T i τ) (k : Ext E E') (k' : Ext T T') : TD E' T' i τ := by
  induction h with
  | nil h =>
    refine .nil ?_
    have h1 := k' 0 T[0] (List.getElem?_eq_getElem h)
    exact (List.getElem?_eq_some_iff.1 h1).1
  | cons h0 hi h1 h2 _ ih => exact .cons (k' _ _ h0) hi h1 (h2.ext k) ih
theorem TD.lt {E : List Ex} {T : List Tl} {i : Nat} {τ : List Rx} (h : TD E T i τ) : i < T.length := by
  cases h with
  | nil h => exact h
  | cons h0 _ _ _ _ => exact (List.getElem?_eq_some_iff.1 h0).1
theorem TD.one {E : List Ex} {T : List Tl} {i : Nat} {τ τ' : List Rx} (h : TD E T i τ) (k : TD E T i τ') : τ = τ' := by
  induction h generalizing τ' with
  | nil _ =>
    cases k with
    | nil _ => rfl
    | cons _ h _ _ _ => omega
  | cons h0 hi h1 h2 _ ih =>
    cases k with
    | nil _ => omega
    | cons k0 _ k1 k2 k3 =>
      rw [h0] at k0
      injection Option.some.inj k0 with e1 e2
      have e1' := Int.ofNat.inj e1
      have e2' := Int.ofNat.inj e2
      subst e1' e2'
      rw [h2.one k2, ih k3]
theorem TD.inj {E : List Ex} {F : List Fa} {T : List Tl} (hI : Inv E F) (hnd : T.Nodup) {i j : Nat} {τ : List Rx} (h : TD E T i τ) (k : TD E T j τ) : i = j := by
  induction h generalizing j with
  | nil _ => cases k with | nil _ => rfl
  | cons h0 hi h1 h2 _ ih =>
    cases k with
    | cons k0 _ k1 k2 k3 =>
      have e1 := h2.inj hI k2
      have e2 := ih k3
      subst e1 e2
      exact nd_at hnd h0 k0
theorem TD.wf {E : List Ex} {T : List Tl} {i : Nat} {τ : List Rx} (h : TD E T i τ) : TWf τ := by
  induction h with
  | nil _ => trivial
  | cons _ _ _ h2 _ ih => exact ⟨h2.wf, ih⟩

/-- What a reader knows. -/
structure SI (E : List Ex) (F : List Fa) (T : List Tl) (n0 : Nat) (S : List (List Rx)) : Prop where
  inv : Inv E F
  star : ∀ i x, E[i]? = some x → n0 ≤ i → ∃ j y, j < n0 ∧ E[j]? = some y ∧ x = starX y
  n0 : n0 ≤ 400 ∧ n0 ≤ E.length
  zero : T[0]? = some ⟨-1, -1⟩
  nd : T.Nodup
  td : ∀ i, i < T.length → ∃ τ, TD E T i τ ∧ τ ∈ S
  cl : Closed S
theorem SI.elen {E : List Ex} {F : List Fa} {T : List Tl} {n0 : Nat} {S : List (List Rx)} (h : SI E F T n0 S) : E.length ≤ 800 := by
  have h1 : (E.drop n0).Nodup := h.inv.nd.sublist (List.drop_sublist _ _)
  have h2 : (E.drop n0).length ≤ ((E.take n0).map starX).length := h1.length_le_of_subset (fun x hx => by
    obtain ⟨i, hi, e⟩ := List.getElem_of_mem hx
    rw [List.getElem_drop] at e
    obtain ⟨j, y, hj, hy, e2⟩ := h.star (n0 + i) x (by rw [← e]; exact List.getElem?_eq_getElem _) (by omega)
    rw [e2]
    refine List.mem_map.2 ⟨y, ?_, rfl⟩
    obtain ⟨h3, h4⟩ := List.getElem?_eq_some_iff.1 hy
    rw [← h4]
    exact List.mem_take_iff_getElem.2 ⟨j, by omega, rfl⟩)
  simp at h2
  have := h.n0
  omega
theorem SI.tlen {E : List Ex} {F : List Fa} {T : List Tl} {n0 : Nat} {S : List (List Rx)} (h : SI E F T n0 S) : T.length ≤ 400000 := by
  have hex : ∃ f : Nat → List Rx, ∀ i, i < T.length → TD E T i (f i) ∧ f i ∈ S := by
    refine ⟨fun i => if hh : i < T.length then (h.td i hh).choose else [], fun i hi => ?_⟩
    simp only [dif_pos hi]
    exact (h.td i hi).choose_spec
  obtain ⟨f, hf⟩ := hex
  have h1 : ((List.range T.length).map f).Nodup := by
    refine List.pairwise_map.2 ?_
    refine List.Pairwise.imp_of_mem (fun {a b} ha hb hab e => ?_) List.nodup_range
    have ha' := hf a (by simpa using ha)
    have hb' := hf b (by simpa using hb)
    rw [e] at ha'
    exact hab (ha'.1.inj h.inv h.nd hb'.1)
  have h2 := h1.length_le_of_subset (l₂ := S) (fun x hx => by
    obtain ⟨i, hi, rfl⟩ := List.mem_map.1 hx
    exact (hf i (by simpa using hi)).2)
  have h3 := h.cl.len
  simp at h2
  omega
theorem tl_inj {x y : Tl} (h : tlCells x = tlCells y) : x = y := by
  obtain ⟨a, b⟩ := x
  obtain ⟨c, d⟩ := y
  simp only [tlCells, List.cons.injEq, Value.int.injEq, true_and, and_true] at h
  rw [h.1, h.2]
/-- One more tail. -/
theorem SI.tail {E : List Ex} {F : List Fa} {T : List Tl} {n0 : Nat} {S : List (List Rx)} (h : SI E F T n0 S) {n r : Nat} {u : Rx} {ρ : List Rx} (hn : Den E n u) (hr : TD E T r ρ) (hs : u :: ρ ∈ S) (hnew : ∀ y ∈ T, tlCells y ≠ tlCells ⟨(n : Int), (r : Int)⟩) :
    SI E F (T ++ [⟨(n : Int), (r : Int)⟩]) n0 S ∧ TD E (T ++ [⟨(n : Int), (r : Int)⟩]) T.length (u :: ρ) := by
  have hx := Ext.snoc T (⟨(n : Int), (r : Int)⟩ : Tl)
  have ht : TD E (T ++ [⟨(n : Int), (r : Int)⟩]) T.length (u :: ρ) := .cons (by simp) (by have := hr.lt; omega) hr.lt hn (hr.ext (Ext.refl _) hx)
  refine ⟨⟨h.inv, h.star, h.n0, hx _ _ h.zero, ?_, fun i hi => ?_, h.cl⟩, ht⟩
  · refine List.nodup_append.2 ⟨h.nd, by simp, fun a ha b hb e => ?_⟩
    rw [List.mem_singleton.1 hb] at e
    exact hnew a ha (by rw [e])
  · by_cases hlt : i < T.length
    · obtain ⟨τ, h1, h2⟩ := h.td i hlt
      exact ⟨τ, h1.ext (Ext.refl _) hx, h2⟩
    · have e : i = T.length := by simp at hi; omega
      subst e
      exact ⟨_, ht, hs⟩
theorem SI.known {E : List Ex} {F : List Fa} {T : List Tl} {n0 : Nat} {S : List (List Rx)} (h : SI E F T n0 S) {n r i : Nat} {u : Rx} {ρ : List Rx} (hn : Den E n u) (hr : TD E T r ρ) (hi : T[i]? = some ⟨(n : Int), (r : Int)⟩) : TD E T i (u :: ρ) := by
  have hlt := (List.getElem?_eq_some_iff.1 hi).1
  obtain ⟨τ, hτ, _⟩ := h.td i hlt
  have h0 : 0 < i := by
    rcases Nat.eq_zero_or_pos i with e | e
    · subst e
      rw [h.zero] at hi
      injection Option.some.inj hi with e1
      have : (0 : Int) ≤ (n : Int) := Int.natCast_nonneg n
      omega
    · exact e
  cases hτ with
  | nil _ => omega
  | cons k0 _ k1 k2 k3 =>
    rw [hi] at k0
    injection Option.some.inj k0 with e1 e2
    have e1' := Int.ofNat.inj e1
    have e2' := Int.ofNat.inj e2
    subst e1' e2'
    rw [hn.one k2, hr.one k3]
    exact .cons hi h0 k1 k2 k3
/-- The Star of an entry: known, or one more. -/
theorem SI.put {E : List Ex} {F : List Fa} {T : List Tl} {n0 : Nat} {S : List (List Rx)} (h : SI E F T n0 S) {n : Nat} {y : Ex} (hy : E[n]? = some y) {E' : List Ex} {F' : List Fa} (hI : Inv E' F') (hE : E' = E ∨ E' = E ++ [starX y]) : SI E' F' T n0 S ∧ Ext E E' := by
  rcases hE with rfl | rfl
  · exact ⟨⟨hI, h.star, h.n0, h.zero, h.nd, h.td, h.cl⟩, Ext.refl _⟩
  · have hx := Ext.snoc E (starX y)
    refine ⟨⟨hI, fun i x hi h0 => ?_, ⟨h.n0.1, by have := h.n0.2; simp; omega⟩, h.zero, h.nd, fun i hi => ?_, h.cl⟩, hx⟩
    · by_cases hlt : i < E.length
      · rw [List.getElem?_append_left hlt] at hi
        obtain ⟨j, z, h1, h2, h3⟩ := h.star i x hi h0
        exact ⟨j, z, h1, hx _ _ h2, h3⟩
      · have e : i = E.length := by have := (List.getElem?_eq_some_iff.1 hi).1; simp at this; omega
        subst e
        simp at hi
        subst hi
        by_cases hn : n < n0
        · exact ⟨n, y, hn, hx _ _ hy, rfl⟩
        · obtain ⟨j, z, h1, h2, h3⟩ := h.star n y hy (by omega)
          have e2 : starX y = y := by rw [h3]; rfl
          have hm : y ∈ E := List.mem_of_getElem? hy
          have hnd := hI.nd
          rw [e2] at hnd
          exact absurd rfl ((List.nodup_append.1 hnd).2.2 y hm y (by simp))
    · obtain ⟨τ, h1, h2⟩ := h.td i hi
      exact ⟨τ, h1.ext hx (Ext.refl _), h2⟩

/-! ### .. in memory -/
structure RdAt (w : World) (B kr : Nat) (cur : Array Value) (E : List Ex) (F : List Fa) (T : List Tl) (b1 b2 : Nat) (n0 : Nat) (S : List (List Rx)) : Prop where
  book : BookAt w B 123 kr cur E F (some b1)
  tails : NumT w B 123 kr cur 3 T (some b2)
  si : SI E F T n0 S
  ne : b1 ≠ b2
/-- The blocks that are a reader's. -/
def rdBlks (kr : Nat) (cur : Array Value) (b1 b2 : Nat) : List Nat := kr :: b1 :: b2 :: (rowBlk cur 0 ++ (rowBlk cur 2 ++ rowBlk cur 3))
theorem mem_rdBlks {kr : Nat} {cur : Array Value} {b1 b2 g : Nat} : g ∈ rdBlks kr cur b1 b2 ↔ g = kr ∨ g = b1 ∨ g = b2 ∨ g ∈ rowBlk cur 0 ∨ g ∈ rowBlk cur 2 ∨ g ∈ rowBlk cur 3 := by
  simp [rdBlks]
theorem rowBlk_same {cur cur' : Array Value} {o : Nat} (h : cur'[o]? = cur[o]?) : rowBlk cur' o = rowBlk cur o := by unfold rowBlk; rw [h]
/-- What a call of the reader's leaves: other blocks than its own, and those of xs, as they were. -/
structure RFr (B kr : Nat) (xs : List Nat) (w : World) (cur : Array Value) (b1 b2 : Nat) (w' : World) (cur' : Array Value) (b1' b2' : Nat) : Prop where
  below : Below B w w'
  kept : Kept [] (rdBlks kr cur b1 b2 ++ xs) w w'
  sub : ∀ g, g ∈ rdBlks kr cur' b1' b2' → g ∈ rdBlks kr cur b1 b2 ∨ w.heap.size ≤ g
theorem RFr.refl (B kr : Nat) (xs : List Nat) (w : World) (cur : Array Value) (b1 b2 : Nat) : RFr B kr xs w cur b1 b2 w cur b1 b2 := ⟨Below.refl _ _, Kept.refl _ _ _, fun _ h => Or.inl h⟩
theorem RFr.trans {B kr : Nat} {xs xs' : List Nat} {w w' w'' : World} {cur cur' cur'' : Array Value} {b1 b2 b1' b2' b1'' b2'' : Nat} (h : RFr B kr xs w cur b1 b2 w' cur' b1' b2') (k : RFr B kr xs' w' cur' b1' b2' w'' cur'' b1'' b2'') (hx : ∀ g, g ∈ xs' → g ∈ xs ∨ w.heap.size ≤ g) : RFr B kr xs w cur b1 b2 w'' cur'' b1'' b2'' := by
  have hs := h.below.size
  refine ⟨h.below.trans k.below, fun i o hi ho hb => ?_, fun g hg => ?_⟩
  · have hlt := (Array.getElem?_eq_some_iff.1 hi).1
    refine k.kept i o (h.kept i o hi ho hb) ho (fun hm => ?_)
    rcases List.mem_append.1 hm with hm | hm
    · rcases h.sub i hm with h1 | h1
      · exact hb (List.mem_append_left _ h1)
      · omega
    · rcases hx i hm with h1 | h1
      · exact hb (List.mem_append_right _ h1)
      · omega
  · rcases k.sub g hg with h1 | h1
    · exact h.sub g h1
    · exact Or.inr (by omega)
theorem RFr.of_below {B kr : Nat} (xs : List Nat) {w w' : World} (cur : Array Value) (b1 b2 : Nat) (h : Below w.heap.size w w') (hB : B ≤ w.heap.size) : RFr B kr xs w cur b1 b2 w' cur b1 b2 := ⟨h.mono hB, (Kept.refl _ _ _).below h, fun _ h => Or.inl h⟩
theorem RFr.mono {B kr : Nat} {xs xs' : List Nat} {w w' : World} {cur cur' : Array Value} {b1 b2 b1' b2' : Nat} (h : RFr B kr xs w cur b1 b2 w' cur' b1' b2') (hx : ∀ g, g ∈ xs → g ∈ xs') : RFr B kr xs' w cur b1 b2 w' cur' b1' b2' :=
  ⟨h.below, h.kept.mono (fun _ h => h) (fun g hg => (List.mem_append.1 hg).elim (fun h => List.mem_append_left _ h) (fun h => List.mem_append_right _ (hx g h))), h.sub⟩
/-- A block that is none of the reader's stays. -/
theorem RFr.st {B kr : Nat} {xs : List Nat} {w w' : World} {cur cur' : Array Value} {b1 b2 b1' b2' : Nat} (h : RFr B kr xs w cur b1 b2 w' cur' b1' b2') {t g : Nat} {cs : Array Value} (hg : St w t g cs) (hn : g ∉ rdBlks kr cur b1 b2) (hx : g ∉ xs) : St w' t g cs :=
  hg.kept h.kept (by simp) (fun hm => (List.mem_append.1 hm).elim hn hx)
theorem NumT.over {w w' : World} {B Tk kb o : Nat} {cur cur' : Array Value} {E : List Tl} {bM : Option Nat} {bs : List Nat} (h : NumT w B Tk kb cur o E bM) (k : Kept [] bs w w') (hst : St w' Tk kb cur') (h0 : cur'[o]? = cur[o]?) (h1 : cur'[o + 1]? = cur[o + 1]?) (h2 : ∀ b, bM = some b → b ∉ bs) (h3 : ∀ g, g ∈ rowBlk cur o → g ∉ bs) : NumT w' B Tk kb cur' o E bM := by
  obtain ⟨vE, hv, hO⟩ := h.row
  exact ⟨hst, ⟨vE, by rw [h0]; exact hv, own_kept hO k (by simp) (fun g e => h3 g (by unfold rowBlk; rw [hv]; simp [e]))⟩, by rw [h1]; exact h.map, h.none_, fun b e => ⟨(h.some_ b e).1, (h.some_ b e).2.kept k (h2 b e)⟩⟩
theorem NumE.over {w w' : World} {B Tk kb o : Nat} {cur cur' : Array Value} {E : List Ex} {bM : Option Nat} {bs : List Nat} (h : NumE w B Tk kb cur o E bM) (k : Kept [] bs w w') (hst : St w' Tk kb cur') (h0 : cur'[o]? = cur[o]?) (h1 : cur'[o + 1]? = cur[o + 1]?) (h2 : ∀ b, bM = some b → b ∉ bs) (h3 : ∀ g, g ∈ rowBlk cur o → g ∉ bs) : NumE w' B Tk kb cur' o E bM := by
  obtain ⟨vE, hv, hO⟩ := h.row
  exact ⟨hst, ⟨vE, by rw [h0]; exact hv, own_kept hO k (by simp) (fun g e => h3 g (by unfold rowBlk; rw [hv]; simp [e]))⟩, by rw [h1]; exact h.map, h.none_, fun b e => ⟨(h.some_ b e).1, (h.some_ b e).2.kept k (h2 b e)⟩⟩
theorem BookAt.over {w w' : World} {B Tk kb : Nat} {cur cur' : Array Value} {E : List Ex} {F : List Fa} {bM : Option Nat} {bs : List Nat} (h : BookAt w B Tk kb cur E F bM) (k : Kept [] bs w w') (hst : St w' Tk kb cur') (hc : ∀ j, j < 3 → cur'[j]? = cur[j]?) (h1 : ∀ b, bM = some b → b ∉ bs) (h2 : ∀ g, g ∈ rowBlk cur 0 → g ∉ bs) (h3 : ∀ g, g ∈ rowBlk cur 2 → g ∉ bs) : BookAt w' B Tk kb cur' E F bM := by
  obtain ⟨vF, hvF, hOF⟩ := h.fac
  exact ⟨h.num.over k hst (hc 0 (by decide)) (hc 1 (by decide)) h1 h2, ⟨vF, by rw [hc 2 (by decide)]; exact hvF, own_kept hOF k (by simp) (fun g e => h3 g ((rowBlk_of hvF g).2 e))⟩, h.len, h.base, h.tag⟩
theorem own_ne_own {w : World} {B B' t t' size size' n n' : Nat} {v v' : Value} {xs xs' : List Value} (h : w.ownsRow B t size v n xs) (h' : w.ownsRow B' t' size' v' n' xs') (ht : t ≠ t') (g : Nat) (e : v.ownBlock = some g) : v'.ownBlock ≠ some g := by
  intro e'
  obtain ⟨c, fz, hc⟩ := own_kind h g e
  obtain ⟨c', fz', hc'⟩ := own_kind h' g e'
  rw [hc] at hc'
  injection hc' with hc'
  injection hc' with _ hc'
  exact ht hc'
theorem own_ne_map {w : World} {B t size n k b N : Nat} {v : Value} {xs : List Value} {Q : Value → Value → Prop} (h : w.ownsRow B t size v n xs) (hm : MapEx w k b N Q) : v.ownBlock ≠ some b := by
  intro e
  obtain ⟨c, fz, hc⟩ := own_kind h b e
  obtain ⟨es, clock, hb, _⟩ := hm
  rw [hc] at hb
  cases hb
theorem st_ne_map {w : World} {t g k b N : Nat} {cs : Array Value} {Q : Value → Value → Prop} (h : St w t g cs) (hm : MapEx w k b N Q) : b ≠ g := by
  rintro rfl
  obtain ⟨es, clock, hb, _⟩ := hm
  have h1 : w.heap[b]? = _ := h
  rw [h1] at hb
  cases hb
theorem RdAt.below {w w' : World} {B kr : Nat} {cur : Array Value} {E : List Ex} {F : List Fa} {T : List Tl} {b1 b2 n0 : Nat} {S : List (List Rx)} (h : RdAt w B kr cur E F T b1 b2 n0 S) (k : Below w.heap.size w w') : RdAt w' B kr cur E F T b1 b2 n0 S :=
  ⟨h.book.below k, h.tails.below k, h.si, h.ne⟩
theorem RdAt.drew {w : World} {B kr : Nat} {cur : Array Value} {E : List Ex} {F : List Fa} {T : List Tl} {b1 b2 n0 : Nat} {S : List (List Rx)} (h : RdAt w B kr cur E F T b1 b2 n0 S) : RdAt w.drew B kr cur E F T b1 b2 n0 S := h.below (Below.refl _ _).drew
theorem RdAt.lt {w : World} {B kr : Nat} {cur : Array Value} {E : List Ex} {F : List Fa} {T : List Tl} {b1 b2 n0 : Nat} {S : List (List Rx)} (h : RdAt w B kr cur E F T b1 b2 n0 S) : ∀ g, g ∈ rdBlks kr cur b1 b2 → g < w.heap.size := by
  intro g hg
  obtain ⟨vT, hvT, hOT⟩ := h.tails.row
  have hl := h.book.lt
  rcases mem_rdBlks.1 hg with e | e | e | e | e | e
  · exact hl g (by simp [bookBlks, e])
  · exact hl g (by simp [bookBlks, e])
  · rw [e]; exact (h.tails.some_ b2 rfl).2.lt
  · exact hl g (by simp [bookBlks, e])
  · exact hl g (by simp [bookBlks, e])
  · exact own_lt hOT g ((rowBlk_of hvT g).1 e)
/-- The reader behind a call of numbers.of for a tail. -/
theorem RdAt.tail {w w' : World} {B kr : Nat} {cur cur' : Array Value} {E : List Ex} {F : List Fa} {T T' : List Tl} {b1 b2 b2' n0 : Nat} {S : List (List Rx)} (h : RdAt w B kr cur E F T b1 b2 n0 S)
    (hN : NumT w' B 123 kr cur' 3 T' (some b2')) (ho : ∀ j, j ≠ 3 → j ≠ 4 → cur'[j]? = cur[j]?) (hn2 : b2' = b2 ∨ w.heap.size ≤ b2') (hB : Below B w w') (hk : Kept [] (kr :: ((some b2).toList ++ rowBlk cur 3)) w w') (hrw : ∀ g, g ∈ rowBlk cur' 3 → g ∈ rowBlk cur 3 ∨ w.heap.size ≤ g) (hsi : SI E F T' n0 S) :
    RdAt w' B kr cur' E F T' b1 b2' n0 S ∧ RFr B kr [] w cur b1 b2 w' cur' b1 b2' := by
  obtain ⟨vE, hvE, hOE⟩ := h.book.num.row
  obtain ⟨vF, hvF, hOF⟩ := h.book.fac
  obtain ⟨vT, hvT, hOT⟩ := h.tails.row
  have hm1 := (h.book.num.some_ b1 rfl).2
  have hm2 := (h.tails.some_ b2 rfl).2
  have hlt1 := hm1.lt
  refine ⟨⟨h.book.over hk hN.st (fun j hj => ho j (by omega) (by omega)) (fun b e => ?_) (fun g hg => ?_) (fun g hg => ?_), hN, hsi, ?_⟩, ⟨hB, hk.mono (fun _ h => h) (fun g hg => ?_), fun g hg => ?_⟩⟩
  · injection e with e
    subst e
    simp only [List.mem_cons, List.mem_append, Option.mem_toList, not_or, Option.some.injEq]
    exact ⟨st_ne_map h.book.num.st hm1, fun e => h.ne e.symm, fun e => own_ne_map hOT hm1 ((rowBlk_of hvT _).1 e)⟩
  · have e := (rowBlk_of hvE g).1 hg
    simp only [List.mem_cons, List.mem_append, Option.mem_toList, not_or, Option.some.injEq]
    exact ⟨own_ne hOE h.book.num.st (by decide) g e, fun e2 => own_ne_map hOE hm2 (by rw [e2]; exact e), fun e2 => own_ne_own hOE hOT (by decide) g e ((rowBlk_of hvT g).1 e2)⟩
  · have e := (rowBlk_of hvF g).1 hg
    simp only [List.mem_cons, List.mem_append, Option.mem_toList, not_or, Option.some.injEq]
    exact ⟨own_ne hOF h.book.num.st (by decide) g e, fun e2 => own_ne_map hOF hm2 (by rw [e2]; exact e), fun e2 => own_ne_own hOF hOT (by decide) g e ((rowBlk_of hvT g).1 e2)⟩
  · rcases hn2 with e | e
    · rw [e]; exact h.ne
    · omega
  · refine List.mem_append_left _ (mem_rdBlks.2 ?_)
    simp only [List.mem_cons, List.mem_append, Option.mem_toList, Option.some.injEq] at hg
    rcases hg with e | e | e
    · exact Or.inl e
    · exact Or.inr (Or.inr (Or.inl e.symm))
    · exact Or.inr (Or.inr (Or.inr (Or.inr (Or.inr e))))
  · rw [mem_rdBlks, rowBlk_same (ho 0 (by decide) (by decide)), rowBlk_same (ho 2 (by decide) (by decide))] at hg
    rw [mem_rdBlks]
    rcases hg with e | e | e | e | e | e
    · exact Or.inl (Or.inl e)
    · exact Or.inl (Or.inr (Or.inl e))
    · rcases hn2 with e2 | e2
      · exact Or.inl (Or.inr (Or.inr (Or.inl (e.trans e2))))
      · exact Or.inr (by omega)
    · exact Or.inl (Or.inr (Or.inr (Or.inr (Or.inl e))))
    · exact Or.inl (Or.inr (Or.inr (Or.inr (Or.inr (Or.inl e)))))
    · rcases hrw g e with e | e
      · exact Or.inl (Or.inr (Or.inr (Or.inr (Or.inr (Or.inr e)))))
      · exact Or.inr e
/-- .. behind a call of book.number. -/
theorem RdAt.expr {w w' : World} {B kr : Nat} {cur cur' : Array Value} {E E' : List Ex} {F F' : List Fa} {T : List Tl} {b1 b1' b2 n0 : Nat} {S : List (List Rx)} (h : RdAt w B kr cur E F T b1 b2 n0 S)
    (hK : BookAt w' B 123 kr cur' E' F' (some b1')) (ho : ∀ j, 3 ≤ j → cur'[j]? = cur[j]?) (hn1 : b1' = b1 ∨ w.heap.size ≤ b1') (hB : Below B w w') (hk : Kept [] (bookBlks kr cur (some b1)) w w') (hrw : ∀ g, g ∈ bookBlks kr cur' (some b1') → g ∈ bookBlks kr cur (some b1) ∨ w.heap.size ≤ g) (hsi : SI E' F' T n0 S) :
    RdAt w' B kr cur' E' F' T b1' b2 n0 S ∧ RFr B kr [] w cur b1 b2 w' cur' b1' b2 := by
  obtain ⟨vE, hvE, hOE⟩ := h.book.num.row
  obtain ⟨vF, hvF, hOF⟩ := h.book.fac
  obtain ⟨vT, hvT, hOT⟩ := h.tails.row
  have hm1 := (h.book.num.some_ b1 rfl).2
  have hm2 := (h.tails.some_ b2 rfl).2
  have hlt2 := hm2.lt
  have hsub : ∀ (c : Array Value) (b : Nat) (g : Nat), g ∈ bookBlks kr c (some b) ↔ g = kr ∨ g = b ∨ g ∈ rowBlk c 0 ∨ g ∈ rowBlk c 2 := fun c b g => by simp [bookBlks]
  refine ⟨⟨hK, h.tails.over hk hK.num.st (ho 3 (by decide)) (ho 4 (by decide)) (fun b e => ?_) (fun g hg => ?_), hsi, ?_⟩, ⟨hB, hk.mono (fun _ h => h) (fun g hg => ?_), fun g hg => ?_⟩⟩
  · injection e with e
    subst e
    simp only [bookBlks, List.mem_cons, List.mem_append, Option.mem_toList, not_or, Option.some.injEq]
    exact ⟨st_ne_map h.book.num.st hm2, h.ne, fun e => own_ne_map hOE hm2 ((rowBlk_of hvE _).1 e), fun e => own_ne_map hOF hm2 ((rowBlk_of hvF _).1 e)⟩
  · exact h.book.off hOT (Or.inr (by decide)) (by decide) (by decide) g ((rowBlk_of hvT g).1 hg)
  · rcases hn1 with e | e
    · rw [e]; exact h.ne
    · omega
  · refine List.mem_append_left _ (mem_rdBlks.2 ?_)
    rcases (hsub cur b1 g).1 hg with e | e | e | e
    · exact Or.inl e
    · exact Or.inr (Or.inl e)
    · exact Or.inr (Or.inr (Or.inr (Or.inl e)))
    · exact Or.inr (Or.inr (Or.inr (Or.inr (Or.inl e))))
  · have hback : g ∈ bookBlks kr cur (some b1) → g ∈ rdBlks kr cur b1 b2 := fun hg => by
      rw [mem_rdBlks]
      rcases (hsub cur b1 g).1 hg with e | e | e | e
      · exact Or.inl e
      · exact Or.inr (Or.inl e)
      · exact Or.inr (Or.inr (Or.inr (Or.inl e)))
      · exact Or.inr (Or.inr (Or.inr (Or.inr (Or.inl e))))
    rw [mem_rdBlks, rowBlk_same (ho 3 (by decide))] at hg
    rcases hg with e | e | e | e | e | e
    · exact Or.inl (mem_rdBlks.2 (Or.inl e))
    · exact (hrw g ((hsub cur' b1' g).2 (Or.inr (Or.inl e)))).imp hback id
    · exact Or.inl (mem_rdBlks.2 (Or.inr (Or.inr (Or.inl e))))
    · exact (hrw g ((hsub cur' b1' g).2 (Or.inr (Or.inr (Or.inl e))))).imp hback id
    · exact (hrw g ((hsub cur' b1' g).2 (Or.inr (Or.inr (Or.inr e))))).imp hback id
    · exact Or.inl (mem_rdBlks.2 (Or.inr (Or.inr (Or.inr (Or.inr (Or.inr e))))))
end Go.Proofs.Ytkdhdlokilgccaa
