import Derived.Test.YtlnndkilaklifaaZNNarrow
import Derived.Test.YtlnndkilaklifaaZSNetCl
namespace Go.Proofs.Ytlnndkilaklifaa
open Go.RowKit Go.Maps Go.WideElems Go.ChangeMaps Go.MapKept
set_option linter.unusedVariables false
set_option linter.unusedSimpArgs false

theorem NtA.appF {W w6 : World} {B bn M gF cF : Nat} {cs : Array Value} {mks : List Int} {vM vS : Value} {fv sv : Nat → Value} {xs : Nat → List Value} {L : List En} (h : NtA B bn M M M cs mks vM (.slice (some ⟨gF, 0, none⟩) M cF) vS fv sv xs L W) {x : En} (hb : x.b = true) (hf : x.f < M) (ht : x.t < M) {v' : Value} {p : Nat}
    (ho : w6.ownsRow B 3 1 v' (p + 1) (nums64 (rowF L x.f) ++ [.int .i64 ((x.t : Nat) : Int)])) (hp : (rowF L x.f).length = p) (hg : W.grownBy w6 (fv x.f).ownBlock) (hat : ∀ b, v'.ownBlock = some b → (fv x.f).ownBlock = some b ∨ W.heap.size ≤ b) :
    NtA B bn M M M cs mks vM (.slice (some ⟨gF, 0, none⟩) M cF) vS (fun j => if j = x.f then v' else fv j) sv xs (L ++ [x]) (w6.setCell ⟨gF, x.f, none⟩ v') ∧
      NtF B bn (bsN bn M M vM (.slice (some ⟨gF, 0, none⟩) M cF) vS fv sv) (bsN bn M M vM (.slice (some ⟨gF, 0, none⟩) M cF) vS (fun j => if j = x.f then v' else fv j) sv) W (w6.setCell ⟨gF, x.f, none⟩ v') := by
  have hr := h.fr.row x.f hf
  have hk : Kept [] (gF :: (fv x.f).ownBlock.toList) W w6 := (Kept.refl _ _ _).grown hg (fun g e => Or.inl (by simp [e]))
  have hk2 : Kept [] (gF :: (fv x.f).ownBlock.toList) W (w6.setCell ⟨gF, x.f, none⟩ v') := hk.setCell _ _ (Or.inl (by simp))
  have hB : Below B W w6 := below_grown_own (Below.refl _ _) hr h.lo.2 hg
  have hgF : B ≤ gF := own_above h.fr.own gF rfl
  have hne : ∀ {t s n : Nat} {v : Value} {ys : List Value}, W.ownsRow B t s v n ys → t ≠ 25 → (∀ b, v.ownBlock = some b → (fv x.f).ownBlock ≠ some b) → ∀ b, v.ownBlock = some b → b ∉ gF :: (fv x.f).ownBlock.toList := fun ho ht hn b e hm => by
    rcases List.mem_cons.1 hm with rfl | hm
    · exact own_kinds ho h.fr.own ht _ e rfl
    · exact hn b e (by simpa using hm)
  refine ⟨⟨h.sn.kept hk2 (by simp) (fun hm => ?_), h.sz, own_kept h.om hk2 (by simp) (hne h.om (by decide) (fun b e => h.sep x.f hf b e)), (h.fr.app (by decide) hf ho hg hat).congr (fun i hi => ?_),
    (h.st.kept hk2 (hne h.st.own (by decide) (fun b e1 e2 => own_kinds h.st.own hr (by decide) b e1 e2)) (fun i hi => hne (h.st.row i hi) (by decide) (fun b e1 e2 => own_kinds (h.st.row i hi) hr (by decide) b e1 e2))).congr (fun i hi => ?_), fun i hi b e1 e2 => ?_, ⟨h.lo.1, ?_⟩, fun e he => ?_, h.hx⟩,
    ⟨⟨_, hk2, fun y hy => Or.inl ?_⟩, fun y hy => ?_, hB.setCell (p := ⟨gF, x.f, none⟩) hgF v'⟩⟩
  · rcases List.mem_cons.1 hm with e | hm
    · exact own_ne h.fr.own h.sn (by decide) gF rfl e.symm
    · exact own_ne hr h.sn (by decide) bn (by simpa using hm) rfl
  · rw [rowF_snoc]
    by_cases e : i = x.f
    · subst e
      rw [if_pos rfl, if_pos rfl, if_pos ⟨hb, rfl⟩, nums64_snoc, List.length_append, hp]
      exact ⟨rfl, rfl⟩
    · rw [if_neg e, if_neg e, if_neg (fun h => e h.2.symm)]
      exact ⟨rfl, rfl⟩
  · rw [rowB_snoc, if_neg (by simp [hb])]
    exact ⟨rfl, rfl⟩
  · by_cases e : i = x.f
    · rw [if_pos e] at e2
      rcases hat b e2 with h1 | h1
      · exact h.sep x.f hf b e1 h1
      · have := (h.lt b (Or.inr (Or.inl e1))).2; omega
    · rw [if_neg e] at e2
      exact h.sep i hi b e1 e2
  · have := hB.size
    have := h.lo.2
    simp only [World.size_setCell]
    omega
  · rcases List.mem_append.1 he with he | he
    · exact h.hE e he
    · rw [List.mem_singleton.1 he]; exact ⟨hf, hf, ht⟩
  · rcases List.mem_cons.1 hy with rfl | hy
    · exact Or.inr (Or.inr (Or.inl rfl))
    · exact Or.inr (Or.inr (Or.inr (Or.inr (Or.inl ⟨x.f, hf, by simpa using hy⟩))))
  · rcases hy with e | e | e | e | ⟨i, hi, e⟩ | e
    · exact Or.inl (Or.inl e)
    · exact Or.inl (Or.inr (Or.inl e))
    · exact Or.inl (Or.inr (Or.inr (Or.inl e)))
    · exact Or.inl (Or.inr (Or.inr (Or.inr (Or.inl e))))
    · dsimp only at e
      by_cases e1 : i = x.f
      · rw [if_pos e1] at e
        rcases hat y e with h1 | h1
        · exact Or.inl (Or.inr (Or.inr (Or.inr (Or.inr (Or.inl ⟨x.f, hf, h1⟩)))))
        · exact Or.inr h1
      · rw [if_neg e1] at e
        exact Or.inl (Or.inr (Or.inr (Or.inr (Or.inr (Or.inl ⟨i, hi, e⟩)))))
    · exact Or.inl (Or.inr (Or.inr (Or.inr (Or.inr (Or.inr e)))))
theorem NtA.appB {W w6 : World} {B bn M gS cS : Nat} {cs : Array Value} {mks : List Int} {vM vF : Value} {fv sv : Nat → Value} {xs : Nat → List Value} {L : List En} (h : NtA B bn M M M cs mks vM vF (.slice (some ⟨gS, 0, none⟩) M cS) fv sv xs L W) {x : En} (hb : x.b = false) (hf : x.f < M) (ht : x.t < M) {v' : Value} {p : Nat} {ys : List Value}
    (ho : w6.ownsRow B 107 2 v' (p + 1) (xs x.f ++ ys)) (hp : (rowB L x.f).length = p) (hg : W.grownBy w6 (sv x.f).ownBlock) (hat : ∀ b, v'.ownBlock = some b → (sv x.f).ownBlock = some b ∨ W.heap.size ≤ b) :
    NtA B bn M M M cs mks vM vF (.slice (some ⟨gS, 0, none⟩) M cS) fv (fun j => if j = x.f then v' else sv j) (fun j => if j = x.f then xs x.f ++ ys else xs j) (L ++ [x]) (w6.setCell ⟨gS, x.f, none⟩ v') ∧
      NtF B bn (bsN bn M M vM vF (.slice (some ⟨gS, 0, none⟩) M cS) fv sv) (bsN bn M M vM vF (.slice (some ⟨gS, 0, none⟩) M cS) fv (fun j => if j = x.f then v' else sv j)) W (w6.setCell ⟨gS, x.f, none⟩ v') := by
  have hr := h.st.row x.f hf
  have hk : Kept [] (gS :: (sv x.f).ownBlock.toList) W w6 := (Kept.refl _ _ _).grown hg (fun g e => Or.inl (by simp [e]))
  have hk2 : Kept [] (gS :: (sv x.f).ownBlock.toList) W (w6.setCell ⟨gS, x.f, none⟩ v') := hk.setCell _ _ (Or.inl (by simp))
  have hB : Below B W w6 := below_grown_own (Below.refl _ _) hr h.lo.2 hg
  have hgS : B ≤ gS := own_above h.st.own gS rfl
  have hne : ∀ {t s n : Nat} {v : Value} {ys : List Value}, W.ownsRow B t s v n ys → t ≠ 105 → t ≠ 107 → ∀ b, v.ownBlock = some b → b ∉ gS :: (sv x.f).ownBlock.toList := fun ho ht hn b e hm => by
    rcases List.mem_cons.1 hm with rfl | hm
    · exact own_kinds ho h.st.own ht _ e rfl
    · exact own_kinds ho hr hn b e (by simpa using hm)
  refine ⟨⟨h.sn.kept hk2 (by simp) (fun hm => ?_), h.sz, own_kept h.om hk2 (by simp) (hne h.om (by decide) (by decide)),
    (h.fr.kept hk2 (hne h.fr.own (by decide) (by decide)) (fun i hi => hne (h.fr.row i hi) (by decide) (by decide))).congr (fun i hi => ?_), (h.st.app (by decide) hf ho hg hat).congr (fun i hi => ?_), h.sep, ⟨h.lo.1, ?_⟩, fun e he => ?_, fun i hi => ?_⟩,
    ⟨⟨_, hk2, fun y hy => Or.inl ?_⟩, fun y hy => ?_, hB.setCell (p := ⟨gS, x.f, none⟩) hgS v'⟩⟩
  · rcases List.mem_cons.1 hm with e | hm
    · exact own_ne h.st.own h.sn (by decide) gS rfl e.symm
    · exact own_ne hr h.sn (by decide) bn (by simpa using hm) rfl
  · rw [rowF_snoc, if_neg (by simp [hb])]
    exact ⟨rfl, rfl⟩
  · rw [rowB_snoc]
    by_cases e : i = x.f
    · subst e
      rw [if_pos rfl, if_pos rfl, if_pos ⟨hb, rfl⟩, List.length_append, hp]
      exact ⟨rfl, rfl⟩
    · rw [if_neg e, if_neg e, if_neg (fun h => e h.2.symm)]
      exact ⟨rfl, rfl⟩
  · have := hB.size
    have := h.lo.2
    simp only [World.size_setCell]
    omega
  · rcases List.mem_append.1 he with he | he
    · exact h.hE e he
    · rw [List.mem_singleton.1 he]; exact ⟨hf, hf, ht⟩
  · rw [if_neg (by omega)]
    exact h.hx i hi
  · rcases List.mem_cons.1 hy with rfl | hy
    · exact Or.inr (Or.inr (Or.inr (Or.inl rfl)))
    · exact Or.inr (Or.inr (Or.inr (Or.inr (Or.inr ⟨x.f, hf, by simpa using hy⟩))))
  · rcases hy with e | e | e | e | e | ⟨i, hi, e⟩
    · exact Or.inl (Or.inl e)
    · exact Or.inl (Or.inr (Or.inl e))
    · exact Or.inl (Or.inr (Or.inr (Or.inl e)))
    · exact Or.inl (Or.inr (Or.inr (Or.inr (Or.inl e))))
    · exact Or.inl (Or.inr (Or.inr (Or.inr (Or.inr (Or.inl e)))))
    · dsimp only at e
      by_cases e1 : i = x.f
      · rw [if_pos e1] at e
        rcases hat y e with h1 | h1
        · exact Or.inl (Or.inr (Or.inr (Or.inr (Or.inr (Or.inr ⟨x.f, hf, h1⟩)))))
        · exact Or.inr h1
      · rw [if_neg e1] at e
        exact Or.inl (Or.inr (Or.inr (Or.inr (Or.inr (Or.inr ⟨i, hi, e⟩)))))
/-- The cells of steps, whose lists no one changes. -/
def StP (w : World) (P : Nat → Prop) (cl : (Nat → Bool) → List Nat) (l : List En) (xs : List Value) : Prop :=
  xs.length = l.length * 2 ∧ ∀ k (h : k < l.length), ∃ a c, xs[k * 2]? = some (.slice a (cl l[k].p).length c) ∧ xs[k * 2 + 1]? = some (.int .i64 ((l[k].t : Nat) : Int)) ∧ IAp w P a (cl l[k].p)
theorem StP.nil (w : World) (P : Nat → Prop) (cl : (Nat → Bool) → List Nat) : StP w P cl [] [] := ⟨rfl, fun k h => by simp at h⟩
theorem StP.frame {B bn : Nat} {w w' : World} {P P' : Nat → Prop} {cl : (Nat → Bool) → List Nat} {l : List En} {xs : List Value} (h : StP w P cl l xs) (F : NtF B bn P P' w w') : StP w' P' cl l xs :=
  ⟨h.1, fun k hk => by
    obtain ⟨a, c, h1, h2, h3⟩ := h.2 k hk
    exact ⟨a, c, h1, h2, F.ian h3⟩⟩
theorem StP.snoc {w : World} {P : Nat → Prop} {cl : (Nat → Bool) → List Nat} {l : List En} {xs : List Value} (h : StP w P cl l xs) (e : En) (a : Option Addr) (c : Nat) (hI : IAp w P a (cl e.p)) : StP w P cl (l ++ [e]) (xs ++ [.slice a (cl e.p).length c, .int .i64 ((e.t : Nat) : Int)]) := by
  refine ⟨by simp [h.1]; omega, fun k hk => ?_⟩
  by_cases e1 : k < l.length
  · obtain ⟨a', c', h1, h2, h3⟩ := h.2 k e1
    rw [List.getElem_append_left e1]
    refine ⟨a', c', ?_, ?_, h3⟩
    · rw [List.getElem?_append_left (by rw [h.1]; omega)]; exact h1
    · rw [List.getElem?_append_left (by rw [h.1]; omega)]; exact h2
  · have e2 : k = l.length := by simp at hk; omega
    subst e2
    rw [List.getElem_concat_length rfl]
    refine ⟨a, c, ?_, ?_, hI⟩
    · rw [List.getElem?_append_right (by rw [h.1]; omega), h.1]
      simp
    · rw [List.getElem?_append_right (by rw [h.1]; omega), h.1]
      have : l.length * 2 + 1 - l.length * 2 = 1 := by omega
      rw [this]
      rfl
/-- All blocks that change. -/
def bsL (bL bM bn M : Nat) (vM vF vS : Value) (fv sv : Nat → Value) (x : Nat) : Prop := x = bL ∨ bsM bM bn M vM vF vS fv sv x
/-- The net, k edges in. -/
structure NwS (V : World) (B b2 b3 b5 b6 b7 b8 bn bM bL : Nat) (fn : Value) (mf : Nat → Int) (cN cs : Array Value) (lr : List Nat) (aR : Option Addr) (cR : Nat) (L : List En) (F f0 k m n : Nat) (nm : List Nat) (vM vF vS : Value) (fv sv : Nat → Value) (xs : Nat → List Value) (L' : List En) (DL : List ((Nat → Bool) × Option Addr × Nat)) (w : World) : Prop where
  a : NnA V B bn b3 b5 b6 bM fn mf nm cs vM vF vS fv sv xs L' w
  l : LsA B b7 b8 bL n lr aR cR (bsL bL bM bn nm.length vM vF vS fv sv) DL w
  s2 : St w 24 b2 cN
  rows : ∀ i, i < nm.length → StP w (bsL bL bM bn nm.length vM vF vS fv sv) (clR lr) (rowB L' i) (xs i)
  rel : L.take k = L'.map (En.ren nm)
  bd : ∀ e ∈ L', e.f < nm.length ∧ e.t < nm.length
  hf : nm[f0]? = some F
  len : nm.length ≤ m
  ne : bL ≠ bM
  src : ∀ x ∈ nm, Src L F F x
theorem NwS.far {V w : World} {B b2 b3 b5 b6 b7 b8 bn bM bL F f0 k m n : Nat} {fn : Value} {mf : Nat → Int} {cN cs : Array Value} {lr : List Nat} {aR : Option Addr} {cR : Nat} {L L' : List En} {nm : List Nat} {vM vF vS : Value} {fv sv : Nat → Value} {xs : Nat → List Value} {DL : List ((Nat → Bool) × Option Addr × Nat)}
    (h : NwS V B b2 b3 b5 b6 b7 b8 bn bM bL fn mf cN cs lr aR cR L F f0 k m n nm vM vF vS fv sv xs L' DL w) {t g : Nat} {cs' : Array Value} (hs : St w t g cs') (h1 : t ≠ 88) (h2 : t ≠ 3) (h3 : t ≠ 25) (h4 : t ≠ 105) (h5 : t ≠ 107) : ¬ bsL bL bM bn nm.length vM vF vS fv sv g := by
  rintro (e | e | e)
  · exact map_ne_st h.l.map hs e
  · exact map_ne_st h.a.map hs e
  · exact h.a.n.ne_st hs h1 h2 h3 h4 h5 e
theorem NwS.lt {V w : World} {B b2 b3 b5 b6 b7 b8 bn bM bL F f0 k m n : Nat} {fn : Value} {mf : Nat → Int} {cN cs : Array Value} {lr : List Nat} {aR : Option Addr} {cR : Nat} {L L' : List En} {nm : List Nat} {vM vF vS : Value} {fv sv : Nat → Value} {xs : Nat → List Value} {DL : List ((Nat → Bool) × Option Addr × Nat)}
    (h : NwS V B b2 b3 b5 b6 b7 b8 bn bM bL fn mf cN cs lr aR cR L F f0 k m n nm vM vF vS fv sv xs L' DL w) : ∀ x, bsL bL bM bn nm.length vM vF vS fv sv x → x < w.heap.size := by
  rintro x (rfl | rfl | e)
  · exact h.l.map.lt
  · exact h.a.map.lt
  · exact (h.a.n.lt x e).2
theorem NwS.keep {V w w' : World} {B b2 b3 b5 b6 b7 b8 bn bM bL F f0 k m n : Nat} {fn : Value} {mf : Nat → Int} {cN cs : Array Value} {lr : List Nat} {aR : Option Addr} {cR : Nat} {L L' : List En} {nm : List Nat} {vM vF vS : Value} {fv sv : Nat → Value} {xs : Nat → List Value} {DL : List ((Nat → Bool) × Option Addr × Nat)}
    (h : NwS V B b2 b3 b5 b6 b7 b8 bn bM bL fn mf cN cs lr aR cR L F f0 k m n nm vM vF vS fv sv xs L' DL w) (b : Below w.heap.size w w') : NwS V B b2 b3 b5 b6 b7 b8 bn bM bL fn mf cN cs lr aR cR L F f0 k m n nm vM vF vS fv sv xs L' DL w' :=
  ⟨h.a.keep b, h.l.keep b, h.s2.keep b, fun i hi => (h.rows i hi).frame (NtF.keep (bn := bn) b h.a.n.lo.2), h.rel, h.bd, h.hf, h.len, h.ne, h.src⟩
/-- Behind a numbering. -/
theorem NwS.num {V w w' : World} {B b2 b3 b5 b6 b7 b8 bn bM bL F f0 k m n s : Nat} {fn : Value} {mf : Nat → Int} {cN cs : Array Value} {lr : List Nat} {aR : Option Addr} {cR : Nat} {L L' : List En} {nm nm' : List Nat} {vM vF vS vM' vF' vS' : Value} {fv sv fv' sv' : Nat → Value} {xs : Nat → List Value} {DL : List ((Nat → Bool) × Option Addr × Nat)}
    (h : NwS V B b2 b3 b5 b6 b7 b8 bn bM bL fn mf cN cs lr aR cR L F f0 k m n nm vM vF vS fv sv xs L' DL w) (ha : NnA V B bn b3 b5 b6 bM fn mf nm' cs vM' vF' vS' fv' sv' xs L' w') (hor : nm' = nm ∨ nm' = nm ++ [s]) (hF : NtF B bn (bsM bM bn nm.length vM vF vS fv sv) (bsM bM bn nm'.length vM' vF' vS' fv' sv') w w') (hs : Src L F F s) :
    NwS V B b2 b3 b5 b6 b7 b8 bn bM bL fn mf cN cs lr aR cR L F f0 k (m + 1) n nm' vM' vF' vS' fv' sv' xs L' DL w' := by
  have hl := ext_len hor
  have hn : ∀ g, bsM bM bn nm.length vM vF vS fv sv g → bsL bL bM bn nm.length vM vF vS fv sv g := fun g e => Or.inr e
  have hL : ¬ bsM bM bn nm.length vM vF vS fv sv bL := fun e => by
    rcases e with e | e
    · exact h.ne e
    · exact h.a.n.ne_map h.l.map e
  have hR : ∀ g, (Value.slice aR lr.length cR).ownBlock = some g → ¬ bsM bM bn nm.length vM vF vS fv sv g := fun g e hm => by
    rcases hm with e2 | e2 | e2 | e2 | e2 | ⟨i, hi, e2⟩ | ⟨i, hi, e2⟩
    · exact map_ne_own h.a.map h.l.row g e e2
    · exact own_ne h.l.row h.a.n.sn (by decide) g e e2
    · exact own_kinds h.l.row h.a.n.om (by decide) g e e2
    · exact own_kinds h.l.row h.a.n.fr.own (by decide) g e e2
    · exact own_kinds h.l.row h.a.n.st.own (by decide) g e e2
    · exact own_kinds h.l.row (h.a.n.fr.row i hi) (by decide) g e e2
    · exact own_kinds h.l.row (h.a.n.st.row i hi) (by decide) g e e2
  have hF2 : NtF B bn (bsL bL bM bn nm.length vM vF vS fv sv) (bsL bL bM bn nm'.length vM' vF' vS' fv' sv') w w' := hF.more (fun x => x = bL)
  refine ⟨ha, ⟨hF.st h.l.s7 (fun e => h.far h.l.s7 (by decide) (by decide) (by decide) (by decide) (by decide) (hn _ e)), hF.st h.l.s8 (fun e => h.far h.l.s8 (by decide) (by decide) (by decide) (by decide) (by decide) (hn _ e)), hF.own h.l.row hR, hF.map h.l.map hL, fun d hd => hF2.ian (h.l.at_ d hd), ⟨h.l.lo.1, Nat.le_trans h.l.lo.2 hF.below.size⟩, h.l.lr⟩,
    hF.st h.s2 (fun e => h.far h.s2 (by decide) (by decide) (by decide) (by decide) (by decide) (hn _ e)), fun i hi => ?_, by rw [ext_ren hor h.bd]; exact h.rel, fun e he => by have := h.bd e he; omega, ext_at hor h.hf, by have := h.len; omega, h.ne, ext_src hor hs h.src⟩
  by_cases hi2 : i < nm.length
  · exact (h.rows i hi2).frame hF2
  · rw [rowB_far (fun e he => (h.bd e he).1) (by omega), h.a.n.hx i (by omega)]
    exact StP.nil _ _ _
/-- Behind the telling of a set's classes. -/
theorem NwS.cls {V w w' : World} {B b2 b3 b5 b6 b7 b8 bn bM bL F f0 k m n : Nat} {fn : Value} {mf : Nat → Int} {cN cs : Array Value} {lr : List Nat} {aR : Option Addr} {cR : Nat} {L L' : List En} {nm : List Nat} {vM vF vS : Value} {fv sv : Nat → Value} {xs : Nat → List Value} {DL DL' : List ((Nat → Bool) × Option Addr × Nat)}
    (h : NwS V B b2 b3 b5 b6 b7 b8 bn bM bL fn mf cN cs lr aR cR L F f0 k m n nm vM vF vS fv sv xs L' DL w) (hl : LsA B b7 b8 bL (n + 1) lr aR cR (bsL bL bM bn nm.length vM vF vS fv sv) DL' w') (hk : ∃ bs, Kept [] bs w w' ∧ ∀ x ∈ bs, x = bL) (hb : Below B w w') :
    NwS V B b2 b3 b5 b6 b7 b8 bn bM bL fn mf cN cs lr aR cR L F f0 k m (n + 1) nm vM vF vS fv sv xs L' DL' w' := by
  obtain ⟨bs, hk, hbs⟩ := hk
  have hF : NtF B bn (bsL bL bM bn nm.length vM vF vS fv sv) (bsL bL bM bn nm.length vM vF vS fv sv) w w' := ⟨⟨bs, hk, fun x hx => Or.inl (Or.inl (hbs x hx))⟩, fun x hx => Or.inl hx, hb⟩
  have st : ∀ {t g : Nat} {cs' : Array Value}, St w t g cs' → St w' t g cs' := fun hs => hs.kept hk (by simp) (fun hm => map_ne_st h.l.map hs (hbs _ hm))
  exact ⟨⟨h.a.n.kept hk hb.size (fun x hx hm => h.a.n.ne_map h.l.map (by rw [← hbs x hm]; exact hx)), st h.a.sM, st h.a.sT, st h.a.sF, h.a.map.kept hk (fun hm => h.ne (hbs _ hm).symm), h.a.nd, h.a.le, h.a.bM, h.a.bel.trans hb⟩, hl, st h.s2, fun i hi => (h.rows i hi).frame hF, h.rel, h.bd, h.hf, h.len, h.ne, h.src⟩
theorem st_cls {B b7 b8 bL n : Nat} {lr : List Nat} {aR : Option Addr} {cR : Nat} {P : Nat → Prop} {DL : List ((Nat → Bool) × Option Addr × Nat)} {w w' : World} {t g : Nat} {cs' : Array Value} (hs : St w t g cs') (h : LsA B b7 b8 bL n lr aR cR P DL w) (hk : ∃ bs, Kept [] bs w w' ∧ ∀ x ∈ bs, x = bL) : St w' t g cs' := by
  obtain ⟨bs, hk, hbs⟩ := hk
  exact hs.kept hk (by simp) (fun hm => map_ne_st h.map hs (hbs _ hm))
theorem ren_of {nm : List Nat} {k1 k2 : Nat} {x : En} (h1 : nm[k1]? = some x.f) (h2 : nm[k2]? = some x.t) : En.ren nm ⟨k1, k2, x.p, x.b⟩ = x := by
  simp [En.ren, List.getD_eq_getElem?_getD, h1, h2]
theorem NwS.row_ne {V w : World} {B b2 b3 b5 b6 b7 b8 bn bM bL F f0 k m n : Nat} {fn : Value} {mf : Nat → Int} {cN cs : Array Value} {lr : List Nat} {aR : Option Addr} {cR : Nat} {L L' : List En} {nm : List Nat} {vM vF vS : Value} {fv sv : Nat → Value} {xs : Nat → List Value} {DL : List ((Nat → Bool) × Option Addr × Nat)}
    (h : NwS V B b2 b3 b5 b6 b7 b8 bn bM bL fn mf cN cs lr aR cR L F f0 k m n nm vM vF vS fv sv xs L' DL w) : ∀ g, (Value.slice aR lr.length cR).ownBlock = some g → ¬ bsN bn nm.length nm.length vM vF vS fv sv g := fun g e hm => by
  rcases hm with e2 | e2 | e2 | e2 | ⟨i, hi, e2⟩ | ⟨i, hi, e2⟩
  · exact own_ne h.l.row h.a.n.sn (by decide) g e e2
  · exact own_kinds h.l.row h.a.n.om (by decide) g e e2
  · exact own_kinds h.l.row h.a.n.fr.own (by decide) g e e2
  · exact own_kinds h.l.row h.a.n.st.own (by decide) g e e2
  · exact own_kinds h.l.row (h.a.n.fr.row i hi) (by decide) g e e2
  · exact own_kinds h.l.row (h.a.n.st.row i hi) (by decide) g e e2
/-- Behind an edge that was put in. -/
theorem NwS.put {V w w' : World} {B b2 b3 b5 b6 b7 b8 bn bM bL F f0 k m n k1 k2 : Nat} {fn : Value} {mf : Nat → Int} {cN cs : Array Value} {lr : List Nat} {aR : Option Addr} {cR : Nat} {L L' : List En} {nm : List Nat} {vM vF vS vM' vF' vS' : Value} {fv sv fv' sv' : Nat → Value} {xs xs' : Nat → List Value} {DL : List ((Nat → Bool) × Option Addr × Nat)} {x : En}
    (h : NwS V B b2 b3 b5 b6 b7 b8 bn bM bL fn mf cN cs lr aR cR L F f0 k m n nm vM vF vS fv sv xs L' DL w) (hn : NtA B bn nm.length nm.length nm.length cs (nm.map mf) vM' vF' vS' fv' sv' xs' (L' ++ [⟨k1, k2, x.p, x.b⟩]) w') (hF : NtF B bn (bsN bn nm.length nm.length vM vF vS fv sv) (bsN bn nm.length nm.length vM' vF' vS' fv' sv') w w')
    (hL : L.take (k + 1) = L.take k ++ [x]) (h1 : nm[k1]? = some x.f) (h2 : nm[k2]? = some x.t) (hr : ∀ i, i < nm.length → StP w (bsL bL bM bn nm.length vM vF vS fv sv) (clR lr) (rowB (L' ++ [⟨k1, k2, x.p, x.b⟩]) i) (xs' i)) :
    NwS V B b2 b3 b5 b6 b7 b8 bn bM bL fn mf cN cs lr aR cR L F f0 (k + 1) m n nm vM' vF' vS' fv' sv' xs' (L' ++ [⟨k1, k2, x.p, x.b⟩]) DL w' := by
  have st : ∀ {t g : Nat} {cs' : Array Value}, St w t g cs' → t ≠ 88 → t ≠ 3 → t ≠ 25 → t ≠ 105 → t ≠ 107 → St w' t g cs' := fun hs a b c d e => hF.st hs (h.a.n.ne_st hs a b c d e)
  have hF2 : NtF B bn (bsL bL bM bn nm.length vM vF vS fv sv) (bsL bL bM bn nm.length vM' vF' vS' fv' sv') w w' := (hF.more (fun x => x = bM)).more (fun x => x = bL)
  refine ⟨⟨hn, st h.a.sM (by decide) (by decide) (by decide) (by decide) (by decide), st h.a.sT (by decide) (by decide) (by decide) (by decide) (by decide), st h.a.sF (by decide) (by decide) (by decide) (by decide) (by decide), hF.map h.a.map (h.a.n.ne_map h.a.map), h.a.nd, h.a.le, h.a.bM, h.a.bel.trans hF.below⟩,
    ⟨st h.l.s7 (by decide) (by decide) (by decide) (by decide) (by decide), st h.l.s8 (by decide) (by decide) (by decide) (by decide) (by decide), hF.own h.l.row h.row_ne, hF.map h.l.map (h.a.n.ne_map h.l.map), fun d hd => hF2.ian (h.l.at_ d hd), ⟨h.l.lo.1, Nat.le_trans h.l.lo.2 hF.below.size⟩, h.l.lr⟩,
    st h.s2 (by decide) (by decide) (by decide) (by decide) (by decide), fun i hi => (hr i hi).frame hF2, ?_, fun e he => ?_, h.hf, h.len, h.ne, h.src⟩
  · rw [hL, List.map_append, h.rel, List.map_singleton, ren_of h1 h2]
  · rcases List.mem_append.1 he with he | he
    · exact h.bd e he
    · rw [List.mem_singleton.1 he]
      exact ⟨(List.getElem?_eq_some_iff.1 h1).1, (List.getElem?_eq_some_iff.1 h2).1⟩
end Go.Proofs.Ytlnndkilaklifaa
