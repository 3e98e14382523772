import Derived.Test.YtlnndkilaklifaaZSLeadN
namespace Go.Proofs.Ytlnndkilaklifaa
open Go.RowKit Go.Maps Go.WideElems Go.ChangeMaps Go.MapKept
set_option linter.unusedVariables false
set_option linter.unusedSimpArgs false

/-- Rows of rows that grow. -/
structure GridOw (w : World) (B ts te sz : Nat) (v : Value) (M : Nat) (vs : Nat → Value) (len : Nat → Nat) (xs : Nat → List Value) : Prop where
  own : w.ownsRow B ts 1 v M ((List.range M).map vs)
  row : ∀ i, i < M → w.ownsRow B te sz (vs i) (len i) (xs i)
  sep : ∀ i j, i < M → j < M → i ≠ j → ∀ b, (vs i).ownBlock = some b → (vs j).ownBlock ≠ some b
theorem GridOw.keep {w w' : World} {B ts te sz M : Nat} {v : Value} {vs : Nat → Value} {len : Nat → Nat} {xs : Nat → List Value} (h : GridOw w B ts te sz v M vs len xs) (k : Below w.heap.size w w') : GridOw w' B ts te sz v M vs len xs :=
  ⟨ownsRow_keep h.own k, fun i hi => ownsRow_keep (h.row i hi) k, h.sep⟩
theorem GridOw.kept {w w' : World} {B ts te sz M : Nat} {v : Value} {vs : Nat → Value} {len : Nat → Nat} {xs : Nat → List Value} {bs : List Nat} (h : GridOw w B ts te sz v M vs len xs) (k : Kept [] bs w w') (h1 : ∀ b, v.ownBlock = some b → b ∉ bs) (h2 : ∀ i, i < M → ∀ b, (vs i).ownBlock = some b → b ∉ bs) : GridOw w' B ts te sz v M vs len xs :=
  ⟨own_kept h.own k (by simp) h1, fun i hi => own_kept (h.row i hi) k (by simp) (h2 i hi), h.sep⟩
theorem GridOw.congr {w : World} {B ts te sz M : Nat} {v : Value} {vs : Nat → Value} {len len' : Nat → Nat} {xs xs' : Nat → List Value} (h : GridOw w B ts te sz v M vs len xs) (e : ∀ i, i < M → len i = len' i ∧ xs i = xs' i) : GridOw w B ts te sz v M vs len' xs' :=
  ⟨h.own, fun i hi => by rw [← (e i hi).1, ← (e i hi).2]; exact h.row i hi, h.sep⟩
theorem GridOw.lt {w : World} {B ts te sz M : Nat} {v : Value} {vs : Nat → Value} {len : Nat → Nat} {xs : Nat → List Value} (h : GridOw w B ts te sz v M vs len xs) : (∀ b, v.ownBlock = some b → b < w.heap.size) ∧ ∀ i, i < M → ∀ b, (vs i).ownBlock = some b → b < w.heap.size := by
  have own : ∀ {t s n : Nat} {v : Value} {xs : List Value}, w.ownsRow B t s v n xs → ∀ g, v.ownBlock = some g → g < w.heap.size := fun ho g e => by
    obtain ⟨c, fz, hc⟩ := own_kind ho g e
    exact (Array.getElem?_eq_some_iff.1 hc).1
  exact ⟨own h.own, fun i hi => own (h.row i hi)⟩
/-- A row of none is put behind. -/
theorem GridOw.push {w w' : World} {B ts te sz M : Nat} {v v' : Value} {vs : Nat → Value} {len : Nat → Nat} {xs : Nat → List Value} (h : GridOw w B ts te sz v M vs len xs) (ht : te ≠ ts) (hl : len M = 0) (hx : xs M = [])
    (ho : w'.ownsRow B ts 1 v' (M + 1) ((List.range M).map vs ++ [.slice none 0 0])) (hg : w.grownBy w' v.ownBlock) : GridOw w' B ts te sz v' (M + 1) (fun j => if j = M then .slice none 0 0 else vs j) len xs := by
  refine ⟨?_, fun i hi => ?_, fun i j hi hj hij b => ?_⟩
  · have e : (List.range (M + 1)).map (fun j => if j = M then .slice none 0 0 else vs j) = (List.range M).map vs ++ [.slice none 0 0] := by
      rw [List.range_succ, List.map_append]
      congr 1
      · refine List.map_congr_left fun j hj => ?_
        have : j < M := by simpa using hj
        rw [if_neg (by omega)]
      · simp
    rw [e]
    exact ho
  · by_cases e : i = M
    · subst e
      simp only [if_pos rfl, hl, hx]
      exact World.ownsRow_nil _ _ _ _
    · simp only [if_neg e]
      exact own_grown (h.row i (by omega)) hg (fun b e1 e2 => own_kinds (h.row i (by omega)) h.own ht b e1 e2.symm)
  · by_cases e1 : i = M
    · simp only [if_pos e1]
      intro e; simp [Value.ownBlock] at e
    · by_cases e2 : j = M
      · simp only [if_pos e2]
        intro _ e; simp [Value.ownBlock] at e
      · simp only [if_neg e1, if_neg e2]
        exact h.sep i j (by omega) (by omega) hij b
/-- A row has grown, and is stored back. -/
theorem GridOw.app {w w' : World} {B ts te sz M g c : Nat} {vs : Nat → Value} {len : Nat → Nat} {xs : Nat → List Value} (h : GridOw w B ts te sz (.slice (some ⟨g, 0, none⟩) M c) M vs len xs) (ht : te ≠ ts) {i : Nat} (hi : i < M) {v' : Value} {n' : Nat} {ys : List Value} (ho : w'.ownsRow B te sz v' n' ys) (hg : w.grownBy w' (vs i).ownBlock)
    (hat : ∀ b, v'.ownBlock = some b → (vs i).ownBlock = some b ∨ w.heap.size ≤ b) : GridOw (w'.setCell ⟨g, i, none⟩ v') B ts te sz (.slice (some ⟨g, 0, none⟩) M c) M (fun j => if j = i then v' else vs j) (fun j => if j = i then n' else len j) (fun j => if j = i then ys else xs j) := by
  have hs := own_grown_own h.own (h.row i hi) ht hg
  have hlt := h.lt.2
  have hset : ∀ {n : Nat} {u : Value} {zs : List Value}, w'.ownsRow B te sz u n zs → (w'.setCell ⟨g, i, none⟩ v').ownsRow B te sz u n zs := fun ho2 =>
    own_kept (ts := []) (bs := [g]) ho2 ((Kept.refl _ _ _).setCell _ _ (Or.inl (by simp))) (by simp) (fun b e hm => own_kinds ho2 hs ht b e (by simp [List.mem_singleton.1 hm, Value.ownBlock]))
  refine ⟨?_, fun j hj => ?_, fun j k hj hk hjk b => ?_⟩
  · have := own_put hs i hi v'
    have e : ((List.range M).map vs).set i v' = (List.range M).map (fun j => if j = i then v' else vs j) := by
      apply List.ext_getElem?
      intro j
      rw [List.getElem?_set]
      by_cases e : i = j
      · subst e; simp [hi]
      · have e' : ¬ j = i := fun h => e h.symm
        simp only [if_neg e, List.getElem?_map]
        by_cases hj : j < M
        · simp [hj, e']
        · simp [hj]
    rwa [e] at this
  · by_cases e : j = i
    · subst e
      simp only [if_pos rfl]
      exact hset ho
    · simp only [if_neg e]
      exact hset (own_grown (h.row j hj) hg (fun b e1 e2 => h.sep j i hj hi e b e1 e2.symm))
  · by_cases e1 : j = i
    · subst e1
      have e2 : ¬ k = j := fun e => hjk e.symm
      simp only [if_pos rfl, if_neg e2]
      intro e3 e4
      rcases hat b e3 with h1 | h1
      · exact h.sep j k hj hk hjk b h1 e4
      · have := hlt k hk b e4; omega
    · by_cases e2 : k = i
      · subst e2
        simp only [if_pos rfl, if_neg e1]
        intro e3 e4
        rcases hat b e4 with h1 | h1
        · exact h.sep j k hj hk hjk b e3 h1
        · have := hlt j hj b e3; omega
      · simp only [if_neg e1, if_neg e2]
        exact h.sep j k hj hk hjk b
/-- Numbers in a block that no one changes. -/
def IAn (w : World) (bs : List Nat) (a : Option Addr) (l : List Nat) : Prop := 0 < l.length → ∃ g off, a = some ⟨g, off, none⟩ ∧ g < w.heap.size ∧ g ∉ bs ∧ ∀ j (h : j < l.length), w.cell? ⟨g, off + j, none⟩ = some (.int .i64 ((l[j] : Nat) : Int))
theorem IAn.kept {w w' : World} {bs bs' bs2 : List Nat} {a : Option Addr} {l : List Nat} (h : IAn w bs a l) (k : Kept [] bs2 w w') (hs : w.heap.size ≤ w'.heap.size) (h2 : ∀ x ∈ bs2, x ∈ bs ∨ w.heap.size ≤ x) (hb : ∀ x ∈ bs', x ∈ bs ∨ w.heap.size ≤ x) : IAn w' bs' a l := by
  intro h0
  obtain ⟨g, off, e, hg, hn, hc⟩ := h h0
  have hn2 : g ∉ bs2 := fun hm => by rcases h2 g hm with h | h; exact hn h; omega
  refine ⟨g, off, e, by omega, fun hm => ?_, fun j hj => ?_⟩
  · rcases hb g hm with h | h
    · exact hn h
    · omega
  · have h3 : w'.heap[g]? = w.heap[g]? := by rw [Array.getElem?_eq_getElem hg]; exact k g _ (Array.getElem?_eq_getElem hg) (fun _ _ _ _ => by simp) hn2
    rw [← hc j hj]
    simp only [World.cell?, h3]
/-- The cells of steps. -/
def StOk (w : World) (bs : List Nat) (cl : (Nat → Bool) → List Nat) (l : List En) (xs : List Value) : Prop :=
  xs.length = l.length * 2 ∧ ∀ k (h : k < l.length), ∃ a c, xs[k * 2]? = some (.slice a (cl l[k].p).length c) ∧ xs[k * 2 + 1]? = some (.int .i64 ((l[k].t : Nat) : Int)) ∧ IAn w bs a (cl l[k].p)
theorem StOk.kept {w w' : World} {bs bs' bs2 : List Nat} {cl : (Nat → Bool) → List Nat} {l : List En} {xs : List Value} (h : StOk w bs cl l xs) (k : Kept [] bs2 w w') (hs : w.heap.size ≤ w'.heap.size) (h2 : ∀ x ∈ bs2, x ∈ bs ∨ w.heap.size ≤ x) (hb : ∀ x ∈ bs', x ∈ bs ∨ w.heap.size ≤ x) : StOk w' bs' cl l xs :=
  ⟨h.1, fun i hi => by
    obtain ⟨a, c, h3, h4, h5⟩ := h.2 i hi
    exact ⟨a, c, h3, h4, h5.kept k hs h2 hb⟩⟩
theorem StOk.snoc {w : World} {bs : List Nat} {cl : (Nat → Bool) → List Nat} {l : List En} {xs : List Value} (h : StOk w bs cl l xs) (e : En) (a : Option Addr) (c : Nat) (hI : IAn w bs a (cl e.p)) : StOk w bs cl (l ++ [e]) (xs ++ [.slice a (cl e.p).length c, .int .i64 ((e.t : Nat) : Int)]) := by
  refine ⟨by simp [h.1]; omega, fun k hk => ?_⟩
  by_cases e1 : k < l.length
  · obtain ⟨a', c', h1, h2, h3⟩ := h.2 k e1
    rw [List.getElem_append_left e1]
    refine ⟨a', c', ?_, ?_, h3⟩
    · rw [List.getElem?_append_left (by rw [h.1]; omega)]; exact h1
    · rw [List.getElem?_append_left (by rw [h.1]; omega)]; exact h2
  · have e2 : k = l.length := by simp at hk; omega
    subst e2
    rw [List.getElem_concat_length rfl]
    refine ⟨a, c, ?_, ?_, hI⟩
    · rw [List.getElem?_append_right (by rw [h.1]; omega), h.1]
      simp
    · rw [List.getElem?_append_right (by rw [h.1]; omega), h.1]
      have : l.length * 2 + 1 - l.length * 2 = 1 := by omega
      rw [this]
      rfl
/-- A net that is being made: so many marks, rows of free edges, and of others. -/
structure NtA (B bn Mm Mf Ms : Nat) (cs : Array Value) (mks : List Int) (vM vF vS : Value) (fv sv : Nat → Value) (xs : Nat → List Value) (L : List En) (w : World) : Prop where
  sn : St w 88 bn (((cs.setIfInBounds 257 vM).setIfInBounds 258 vF).setIfInBounds 259 vS)
  sz : cs.size = 260
  om : w.ownsRow B 3 1 vM Mm (ints mks)
  fr : GridOw w B 25 3 1 vF Mf fv (fun i => (rowF L i).length) (fun i => nums64 (rowF L i))
  st : GridOw w B 105 107 2 vS Ms sv (fun i => (rowB L i).length) xs
  sep : ∀ i, i < Mf → ∀ b, vM.ownBlock = some b → (fv i).ownBlock ≠ some b
  lo : B ≤ bn ∧ B ≤ w.heap.size
  hE : ∀ e ∈ L, e.f < Mf ∧ e.f < Ms ∧ e.t < Mf
  hx : ∀ i, Ms ≤ i → xs i = []
theorem NtA.keep {w w' : World} {B bn Mm Mf Ms : Nat} {cs : Array Value} {mks : List Int} {vM vF vS : Value} {fv sv : Nat → Value} {xs : Nat → List Value} {L : List En} (h : NtA B bn Mm Mf Ms cs mks vM vF vS fv sv xs L w) (k : Below w.heap.size w w') : NtA B bn Mm Mf Ms cs mks vM vF vS fv sv xs L w' :=
  ⟨h.sn.keep k, h.sz, ownsRow_keep h.om k, h.fr.keep k, h.st.keep k, h.sep, ⟨h.lo.1, Nat.le_trans h.lo.2 k.size⟩, h.hE, h.hx⟩
/-- The blocks that change. -/
def bsN (bn Mf Ms : Nat) (vM vF vS : Value) (fv sv : Nat → Value) (x : Nat) : Prop :=
  x = bn ∨ vM.ownBlock = some x ∨ vF.ownBlock = some x ∨ vS.ownBlock = some x ∨ (∃ i, i < Mf ∧ (fv i).ownBlock = some x) ∨ ∃ i, i < Ms ∧ (sv i).ownBlock = some x
theorem NtA.kept {w w' : World} {B bn Mm Mf Ms : Nat} {cs : Array Value} {mks : List Int} {vM vF vS : Value} {fv sv : Nat → Value} {xs : Nat → List Value} {L : List En} {bs : List Nat} (h : NtA B bn Mm Mf Ms cs mks vM vF vS fv sv xs L w) (k : Kept [] bs w w') (hs : w.heap.size ≤ w'.heap.size) (hd : ∀ x, bsN bn Mf Ms vM vF vS fv sv x → x ∉ bs) : NtA B bn Mm Mf Ms cs mks vM vF vS fv sv xs L w' :=
  ⟨h.sn.kept k (by simp) (hd _ (Or.inl rfl)), h.sz, own_kept h.om k (by simp) (fun b e => hd b (Or.inr (Or.inl e))),
    h.fr.kept k (fun b e => hd b (Or.inr (Or.inr (Or.inl e)))) (fun i hi b e => hd b (Or.inr (Or.inr (Or.inr (Or.inr (Or.inl ⟨i, hi, e⟩)))))),
    h.st.kept k (fun b e => hd b (Or.inr (Or.inr (Or.inr (Or.inl e))))) (fun i hi b e => hd b (Or.inr (Or.inr (Or.inr (Or.inr (Or.inr ⟨i, hi, e⟩)))))), h.sep, ⟨h.lo.1, Nat.le_trans h.lo.2 hs⟩, h.hE, h.hx⟩
theorem NtA.lt {w : World} {B bn Mm Mf Ms : Nat} {cs : Array Value} {mks : List Int} {vM vF vS : Value} {fv sv : Nat → Value} {xs : Nat → List Value} {L : List En} (h : NtA B bn Mm Mf Ms cs mks vM vF vS fv sv xs L w) : ∀ x, bsN bn Mf Ms vM vF vS fv sv x → B ≤ x ∧ x < w.heap.size := by
  have own : ∀ {t s n : Nat} {v : Value} {xs : List Value}, w.ownsRow B t s v n xs → ∀ g, v.ownBlock = some g → B ≤ g ∧ g < w.heap.size := fun ho g e => by
    obtain ⟨c, fz, hc⟩ := own_kind ho g e
    exact ⟨own_above ho g e, (Array.getElem?_eq_some_iff.1 hc).1⟩
  rintro x (rfl | e | e | e | ⟨i, hi, e⟩ | ⟨i, hi, e⟩)
  · exact ⟨h.lo.1, h.sn.lt⟩
  · exact own h.om _ e
  · exact own h.fr.own _ e
  · exact own h.st.own _ e
  · exact own (h.fr.row i hi) _ e
  · exact own (h.st.row i hi) _ e
/-- The cells of the net. -/
theorem NtA.cells {w : World} {B bn Mm Mf Ms : Nat} {cs : Array Value} {mks : List Int} {vM vF vS : Value} {fv sv : Nat → Value} {xs : Nat → List Value} {L : List En} (h : NtA B bn Mm Mf Ms cs mks vM vF vS fv sv xs L w) :
    w.cell? ⟨bn, 257, none⟩ = some vM ∧ w.cell? ⟨bn, 258, none⟩ = some vF ∧ w.cell? ⟨bn, 259, none⟩ = some vS := by
  refine ⟨?_, ?_, ?_⟩
  · rw [h.sn.at_, Array.getElem?_setIfInBounds_ne (by decide), Array.getElem?_setIfInBounds_ne (by decide), Array.getElem?_setIfInBounds_self_of_lt (by rw [h.sz]; decide)]
  · rw [h.sn.at_, Array.getElem?_setIfInBounds_ne (by decide), Array.getElem?_setIfInBounds_self_of_lt (by simp [h.sz])]
  · rw [h.sn.at_, Array.getElem?_setIfInBounds_self_of_lt (by simp [h.sz])]
theorem set3_257 (cs : Array Value) (a b c d : Value) : ((((cs.setIfInBounds 257 a).setIfInBounds 258 b).setIfInBounds 259 c).setIfInBounds 257 d) = (((cs.setIfInBounds 257 d).setIfInBounds 258 b).setIfInBounds 259 c) := by
  rw [Array.setIfInBounds_comm c d (by decide), Array.setIfInBounds_comm b d (by decide), Array.setIfInBounds_setIfInBounds]
theorem set3_258 (cs : Array Value) (a b c d : Value) : ((((cs.setIfInBounds 257 a).setIfInBounds 258 b).setIfInBounds 259 c).setIfInBounds 258 d) = (((cs.setIfInBounds 257 a).setIfInBounds 258 d).setIfInBounds 259 c) := by
  rw [Array.setIfInBounds_comm c d (by decide), Array.setIfInBounds_setIfInBounds]
/-- What a step of the making keeps. -/
structure NtF (B bn : Nat) (P P' : Nat → Prop) (w w' : World) : Prop where
  kept : ∃ bs, Kept [] bs w w' ∧ ∀ x ∈ bs, P x ∨ w.heap.size ≤ x
  new : ∀ x, P' x → P x ∨ w.heap.size ≤ x
  below : Below B w w'
theorem NtF.trans {B bn : Nat} {P P' P2 : Nat → Prop} {w w' w2 : World} (h : NtF B bn P P' w w') (k : NtF B bn P' P2 w' w2) : NtF B bn P P2 w w2 := by
  obtain ⟨b1, h1, h2⟩ := h.kept
  obtain ⟨b2, k1, k2⟩ := k.kept
  have hs := h.below.size
  refine ⟨⟨b1 ++ b2, (h1.mono (fun _ h => h) (fun x hx => List.mem_append.2 (Or.inl hx))).trans (k1.mono (fun _ h => h) (fun x hx => List.mem_append.2 (Or.inr hx))), fun x hx => ?_⟩, fun x hx => ?_, h.below.trans k.below⟩
  · rcases List.mem_append.1 hx with hx | hx
    · exact h2 x hx
    · rcases k2 x hx with h3 | h3
      · exact h.new x h3
      · exact Or.inr (by omega)
  · rcases k.new x hx with h3 | h3
    · exact h.new x h3
    · exact Or.inr (by omega)
theorem NtF.keep {B bn : Nat} {P : Nat → Prop} {w w' : World} (k : Below w.heap.size w w') (hB : B ≤ w.heap.size) : NtF B bn P P w w' :=
  ⟨⟨[], Kept.below (Kept.refl _ _ _) k, by simp⟩, fun x h => Or.inl h, k.mono hB⟩
theorem NtA.pushM {W w5 : World} {B bn Mm Mf Ms : Nat} {cs : Array Value} {mks : List Int} {vM vF vS v' : Value} {fv sv : Nat → Value} {xs : Nat → List Value} {L : List En} (h : NtA B bn Mm Mf Ms cs mks vM vF vS fv sv xs L W) {r : Int}
    (ho : w5.ownsRow B 3 1 v' (Mm + 1) (ints mks ++ [.int .i64 r])) (hg : W.grownBy w5 vM.ownBlock) (hat : v'.ownBlock = vM.ownBlock ∨ v'.ownBlock = some W.heap.size) :
    NtA B bn (Mm + 1) Mf Ms cs (mks ++ [r]) v' vF vS fv sv xs L (w5.setCell ⟨bn, 257, none⟩ v') ∧ NtF B bn (bsN bn Mf Ms vM vF vS fv sv) (bsN bn Mf Ms v' vF vS fv sv) W (w5.setCell ⟨bn, 257, none⟩ v') := by
  have hlt := h.lt
  have hk : Kept [] (bn :: vM.ownBlock.toList) W w5 := (Kept.refl _ _ _).grown hg (fun g e => Or.inl (by simp [e]))
  have hk2 : Kept [] (bn :: vM.ownBlock.toList) W (w5.setCell ⟨bn, 257, none⟩ v') := hk.setCell _ _ (Or.inl (by simp))
  have hB : Below B W w5 := below_grown_own (Below.refl _ _) h.om h.lo.2 hg
  have hsn := h.sn.grown_own h.om (by decide) hg
  have hne : ∀ {t s n : Nat} {v : Value} {ys : List Value}, W.ownsRow B t s v n ys → t ≠ 88 → (∀ b, v.ownBlock = some b → vM.ownBlock ≠ some b) → ∀ b, v.ownBlock = some b → b ∉ bn :: vM.ownBlock.toList := fun ho ht hn b e hm => by
    rcases List.mem_cons.1 hm with rfl | hm
    · exact own_ne ho h.sn ht _ e rfl
    · exact hn b e (by simpa using hm)
  refine ⟨⟨?_, h.sz, ?_, h.fr.kept hk2 (hne h.fr.own (by decide) (fun b e1 e2 => own_kinds h.fr.own h.om (by decide) b e1 e2)) (fun i hi => hne (h.fr.row i hi) (by decide) (fun b e1 e2 => h.sep i hi b e2 e1)),
    h.st.kept hk2 (hne h.st.own (by decide) (fun b e1 e2 => own_kinds h.st.own h.om (by decide) b e1 e2)) (fun i hi => hne (h.st.row i hi) (by decide) (fun b e1 e2 => own_kinds (h.st.row i hi) h.om (by decide) b e1 e2)), fun i hi b e1 e2 => ?_, ⟨h.lo.1, ?_⟩, h.hE, h.hx⟩,
    ⟨⟨_, hk2, fun x hx => Or.inl ?_⟩, fun x hx => ?_, hB.setCell (p := ⟨bn, 257, none⟩) h.lo.1 v'⟩⟩
  · have := hsn.set 257 v'
    rwa [set3_257] at this
  · rw [show ints (mks ++ [r]) = ints mks ++ [.int .i64 r] by simp [ints]]
    exact own_set ho hsn (by decide) _ _
  · rcases hat with h1 | h1
    · rw [h1] at e1; exact h.sep i hi b e1 e2
    · rw [h1] at e1
      injection e1 with e1
      have := (hlt b (Or.inr (Or.inr (Or.inr (Or.inr (Or.inl ⟨i, hi, e2⟩)))))).2
      omega
  · have := hB.size
    have := h.lo.2
    simp only [World.size_setCell]
    omega
  · rcases List.mem_cons.1 hx with rfl | hx
    · exact Or.inl rfl
    · exact Or.inr (Or.inl (by simpa using hx))
  · rcases hx with e | e | e
    · exact Or.inl (Or.inl e)
    · rcases hat with h1 | h1
      · exact Or.inl (Or.inr (Or.inl (by rw [← h1]; exact e)))
      · rw [h1] at e; injection e with e; exact Or.inr (by omega)
    · exact Or.inl (Or.inr (Or.inr e))
theorem rowF_far {L : List En} {M i : Nat} (h : ∀ e ∈ L, e.f < M) (hi : M ≤ i) : rowF L i = [] := by
  unfold rowF
  rw [List.filter_eq_nil_iff.2 (fun e he => by have := h e he; have h2 : ¬ e.f = i := (by omega); simp [h2])]
  rfl
theorem rowB_far {L : List En} {M i : Nat} (h : ∀ e ∈ L, e.f < M) (hi : M ≤ i) : rowB L i = [] := by
  unfold rowB
  exact List.filter_eq_nil_iff.2 (fun e he => by have := h e he; have h2 : ¬ e.f = i := (by omega); simp [h2])
theorem NtA.pushF {W w5 : World} {B bn Mm Mf Ms : Nat} {cs : Array Value} {mks : List Int} {vM vF vS v' : Value} {fv sv : Nat → Value} {xs : Nat → List Value} {L : List En} (h : NtA B bn Mm Mf Ms cs mks vM vF vS fv sv xs L W)
    (ho : w5.ownsRow B 25 1 v' (Mf + 1) ((List.range Mf).map fv ++ [.slice none 0 0])) (hg : W.grownBy w5 vF.ownBlock) (hat : v'.ownBlock = vF.ownBlock ∨ v'.ownBlock = some W.heap.size) :
    NtA B bn Mm (Mf + 1) Ms cs mks vM v' vS (fun j => if j = Mf then .slice none 0 0 else fv j) sv xs L (w5.setCell ⟨bn, 258, none⟩ v') ∧ NtF B bn (bsN bn Mf Ms vM vF vS fv sv) (bsN bn (Mf + 1) Ms vM v' vS (fun j => if j = Mf then .slice none 0 0 else fv j) sv) W (w5.setCell ⟨bn, 258, none⟩ v') := by
  have hk : Kept [] (bn :: vF.ownBlock.toList) W w5 := (Kept.refl _ _ _).grown hg (fun g e => Or.inl (by simp [e]))
  have hk2 : Kept [] (bn :: vF.ownBlock.toList) W (w5.setCell ⟨bn, 258, none⟩ v') := hk.setCell _ _ (Or.inl (by simp))
  have hB : Below B W w5 := below_grown_own (Below.refl _ _) h.fr.own h.lo.2 hg
  have hsn := h.sn.grown_own h.fr.own (by decide) hg
  have hne : ∀ {t s n : Nat} {v : Value} {ys : List Value}, W.ownsRow B t s v n ys → t ≠ 88 → t ≠ 25 → ∀ b, v.ownBlock = some b → b ∉ bn :: vF.ownBlock.toList := fun ho ht hn b e hm => by
    rcases List.mem_cons.1 hm with rfl | hm
    · exact own_ne ho h.sn ht _ e rfl
    · exact own_kinds ho h.fr.own hn b e (by simpa using hm)
  have hgr := (h.fr.push (by decide) (by simp [rowF_far (fun e he => (h.hE e he).1) (Nat.le_refl _)]) (by simp [rowF_far (fun e he => (h.hE e he).1) (Nat.le_refl _), nums64]) ho hg)
  refine ⟨⟨?_, h.sz, own_kept h.om hk2 (by simp) (hne h.om (by decide) (by decide)), hgr.kept (bs := [bn]) ((Kept.refl _ _ _).setCell _ _ (Or.inl (by simp))) (fun b e hm => own_ne hgr.own hsn (by decide) b e (List.mem_singleton.1 hm)) (fun i hi b e hm => own_ne (hgr.row i hi) hsn (by decide) b e (List.mem_singleton.1 hm)),
    h.st.kept hk2 (hne h.st.own (by decide) (by decide)) (fun i hi => hne (h.st.row i hi) (by decide) (by decide)), fun i hi b e1 e2 => ?_, ⟨h.lo.1, ?_⟩, fun e he => ⟨by have := (h.hE e he).1; omega, (h.hE e he).2.1, by have := (h.hE e he).2.2; omega⟩, h.hx⟩,
    ⟨⟨_, hk2, fun x hx => Or.inl ?_⟩, fun x hx => ?_, hB.setCell (p := ⟨bn, 258, none⟩) h.lo.1 v'⟩⟩
  · have := hsn.set 258 v'
    rwa [set3_258] at this
  · by_cases e : i = Mf
    · rw [if_pos e] at e2; simp [Value.ownBlock] at e2
    · rw [if_neg e] at e2
      exact h.sep i (by omega) b e1 e2
  · have := hB.size
    have := h.lo.2
    simp only [World.size_setCell]
    omega
  · rcases List.mem_cons.1 hx with rfl | hx
    · exact Or.inl rfl
    · exact Or.inr (Or.inr (Or.inl (by simpa using hx)))
  · rcases hx with e | e | e | e | ⟨i, hi, e⟩ | e
    · exact Or.inl (Or.inl e)
    · exact Or.inl (Or.inr (Or.inl e))
    · rcases hat with h1 | h1
      · exact Or.inl (Or.inr (Or.inr (Or.inl (by rw [← h1]; exact e))))
      · rw [h1] at e; injection e with e; exact Or.inr (by omega)
    · exact Or.inl (Or.inr (Or.inr (Or.inr (Or.inl e))))
    · dsimp only at e
      by_cases e1 : i = Mf
      · rw [if_pos e1] at e; simp [Value.ownBlock] at e
      · rw [if_neg e1] at e
        exact Or.inl (Or.inr (Or.inr (Or.inr (Or.inr (Or.inl ⟨i, by omega, e⟩)))))
    · exact Or.inl (Or.inr (Or.inr (Or.inr (Or.inr (Or.inr e)))))
theorem NtA.pushS {W w5 : World} {B bn Mm Mf Ms : Nat} {cs : Array Value} {mks : List Int} {vM vF vS v' : Value} {fv sv : Nat → Value} {xs : Nat → List Value} {L : List En} (h : NtA B bn Mm Mf Ms cs mks vM vF vS fv sv xs L W)
    (ho : w5.ownsRow B 105 1 v' (Ms + 1) ((List.range Ms).map sv ++ [.slice none 0 0])) (hg : W.grownBy w5 vS.ownBlock) (hat : v'.ownBlock = vS.ownBlock ∨ v'.ownBlock = some W.heap.size) :
    NtA B bn Mm Mf (Ms + 1) cs mks vM vF v' fv (fun j => if j = Ms then .slice none 0 0 else sv j) xs L (w5.setCell ⟨bn, 259, none⟩ v') ∧ NtF B bn (bsN bn Mf Ms vM vF vS fv sv) (bsN bn Mf (Ms + 1) vM vF v' fv (fun j => if j = Ms then .slice none 0 0 else sv j)) W (w5.setCell ⟨bn, 259, none⟩ v') := by
  have hk : Kept [] (bn :: vS.ownBlock.toList) W w5 := (Kept.refl _ _ _).grown hg (fun g e => Or.inl (by simp [e]))
  have hk2 : Kept [] (bn :: vS.ownBlock.toList) W (w5.setCell ⟨bn, 259, none⟩ v') := hk.setCell _ _ (Or.inl (by simp))
  have hB : Below B W w5 := below_grown_own (Below.refl _ _) h.st.own h.lo.2 hg
  have hsn := h.sn.grown_own h.st.own (by decide) hg
  have hne : ∀ {t s n : Nat} {v : Value} {ys : List Value}, W.ownsRow B t s v n ys → t ≠ 88 → t ≠ 105 → ∀ b, v.ownBlock = some b → b ∉ bn :: vS.ownBlock.toList := fun ho ht hn b e hm => by
    rcases List.mem_cons.1 hm with rfl | hm
    · exact own_ne ho h.sn ht _ e rfl
    · exact own_kinds ho h.st.own hn b e (by simpa using hm)
  have hgr := (h.st.push (by decide) (by simp [rowB_far (fun e he => (h.hE e he).2.1) (Nat.le_refl _)]) (h.hx _ (Nat.le_refl _)) ho hg)
  refine ⟨⟨?_, h.sz, own_kept h.om hk2 (by simp) (hne h.om (by decide) (by decide)), h.fr.kept hk2 (hne h.fr.own (by decide) (by decide)) (fun i hi => hne (h.fr.row i hi) (by decide) (by decide)),
    hgr.kept (bs := [bn]) ((Kept.refl _ _ _).setCell _ _ (Or.inl (by simp))) (fun b e hm => own_ne hgr.own hsn (by decide) b e (List.mem_singleton.1 hm)) (fun i hi b e hm => own_ne (hgr.row i hi) hsn (by decide) b e (List.mem_singleton.1 hm)), h.sep, ⟨h.lo.1, ?_⟩, fun e he => ⟨(h.hE e he).1, by have := (h.hE e he).2.1; omega, (h.hE e he).2.2⟩, fun i hi => h.hx i (by omega)⟩,
    ⟨⟨_, hk2, fun x hx => Or.inl ?_⟩, fun x hx => ?_, hB.setCell (p := ⟨bn, 259, none⟩) h.lo.1 v'⟩⟩
  · have := hsn.set 259 v'
    rwa [Array.setIfInBounds_setIfInBounds] at this
  · have := hB.size
    have := h.lo.2
    simp only [World.size_setCell]
    omega
  · rcases List.mem_cons.1 hx with rfl | hx
    · exact Or.inl rfl
    · exact Or.inr (Or.inr (Or.inr (Or.inl (by simpa using hx))))
  · rcases hx with e | e | e | e | e | ⟨i, hi, e⟩
    · exact Or.inl (Or.inl e)
    · exact Or.inl (Or.inr (Or.inl e))
    · exact Or.inl (Or.inr (Or.inr (Or.inl e)))
    · rcases hat with h1 | h1
      · exact Or.inl (Or.inr (Or.inr (Or.inr (Or.inl (by rw [← h1]; exact e)))))
      · rw [h1] at e; injection e with e; exact Or.inr (by omega)
    · exact Or.inl (Or.inr (Or.inr (Or.inr (Or.inr (Or.inl e)))))
    · dsimp only at e
      by_cases e1 : i = Ms
      · rw [if_pos e1] at e; simp [Value.ownBlock] at e
      · rw [if_neg e1] at e
        exact Or.inl (Or.inr (Or.inr (Or.inr (Or.inr (Or.inr ⟨i, by omega, e⟩)))))
end Go.Proofs.Ytlnndkilaklifaa

namespace Go.Proofs.Ytlnndkilaklifaa
open Go.RowKit Go.Maps Go.WideElems Go.ChangeMaps Go.MapKept
set_option linter.unusedVariables false
set_option linter.unusedSimpArgs false

theorem Try.info_stps : (Try.prog.info? 105).map (fun i => (i.zero, i.size, i.bytes)) = some (some (.slice none 0 0), 1, 24) := by kernel_rfl
def NAddP (B bn M : Nat) (cs : Array Value) (mks : List Int) (vM vF vS : Value) (fv sv : Nat → Value) (xs : Nat → List Value) (L : List En) (r : Int) (w : World) (e : Ending) (w' : World) : Prop :=
  ∃ vM' vF' vS', e = .returned (.int .i64 ((M : Nat) : Int)) ∧ NtA B bn (M + 1) (M + 1) (M + 1) cs (mks ++ [r]) vM' vF' vS' (fun j => if j = M then .slice none 0 0 else fv j) (fun j => if j = M then .slice none 0 0 else sv j) xs L w' ∧
    NtF B bn (bsN bn M M vM vF vS fv sv) (bsN bn (M + 1) (M + 1) vM' vF' vS' (fun j => if j = M then .slice none 0 0 else fv j) (fun j => if j = M then .slice none 0 0 else sv j)) w w'

set_option maxHeartbeats 1000000 in
set_option maxRecDepth 100000 in
theorem nadd_any (B bn M : Nat) (cs : Array Value) (mks : List Int) (vM vF vS : Value) (fv sv : Nat → Value) (xs : Nat → List Value) (L : List En) (w : World) (h : NtA B bn M M M cs mks vM vF vS fv sv xs L w) (hM : M ≤ 100000) (r : Int) :
    Calls Try.prog 71 #[.pointer (some ⟨bn, 0, none⟩), .int .i64 r] w (NAddP B bn M cs mks vM vF vS fv sv xs L r w) := by
  obtain ⟨aM, cM, rfl⟩ := ownsRow_slice h.om
  obtain ⟨aF, cF, rfl⟩ := ownsRow_slice h.fr.own
  obtain ⟨aS, cS, rfl⟩ := ownsRow_slice h.st.own
  obtain ⟨c0, _, _⟩ := h.cells
  have hO := h.om
  have hB := h.lo.2
  have H := Lib.hid h
  obtain ⟨i0, hi, hz0, hz1, hz2⟩ := info_parts Try.info_int9
  obtain ⟨i1, hj, hy0, hy1, hy2⟩ := info_parts Try.info_ints
  obtain ⟨i2, hk, hx0, hx1, hx2⟩ := info_parts Try.info_stps
  clear h
  go_enter Try.func71, Try.ntmps71
  go_wp2_with (at_builtin; refine wpList_append_own_at _ rfl _ _ 25 rfl B 3 i0 (.int .i64 0) 1 8 Try.underlying25 hi hz0 hz1 hz2 rfl (by decide) _ _ _ rfl (hO.alloc _) ⟨w.heap.size, 0, none⟩ 1 1 [.int .i64 r] rfl rfl (cell_one_new _ _ _) ?d2 ?d3 ?d4 ?d5 ?_)
  case d2 => intro u hu; simp at hu; subst hu; rfl
  case d3 => unfold maxLen; omega
  case d4 => omega
  case d5 => simp; omega
  intro v' w5 hown5 hgrow5 _ hat5
  obtain ⟨a5, c5, rfl⟩ := ownsRow_slice hown5
  have h1 := H.out.keep (al w (.cells #[.int .i64 r] 3))
  have F1 := NtF.keep (B := B) (bn := bn) (P := bsN bn M M (.slice aM M cM) (.slice aF M cF) (.slice aS M cS) fv sv) (al w (.cells #[.int .i64 r] 3)) hB
  obtain ⟨h2, F2⟩ := h1.pushM hown5 hgrow5 (by simpa using hat5)
  have H2 := Lib.hid (And.intro h2 (F1.trans F2))
  have hs5 : St w5 88 bn _ := h1.sn.grown_own h1.om (by decide) hgrow5
  have p1 : w5.cell? ⟨bn, 257, none⟩ = some (.slice aM M cM) := by
    rw [hs5.at_, ← h1.sn.at_]; exact h1.cells.1
  have p2 := hs5.thaw_ 257
  clear hown5 hgrow5 hat5 h1 F1 h2 F2 hs5 c0 hO
  go_upto_region 2 with fail
  generalize w5.setCell ⟨bn, 257, none⟩ (.slice a5 (M + 1) c5) = W2 at H2 ⊢
  clear p1 p2
  obtain ⟨_, c0, _⟩ := H2.out.1.cells
  have hO := H2.out.1.fr.own
  have hB2 := H2.out.1.lo.2
  go_wp2_with (at_builtin; refine wpList_append_own_at _ rfl _ _ 28 rfl B 25 i1 (.slice none 0 0) 1 24 Try.underlying28 hj hy0 hy1 hy2 rfl (by decide) _ _ _ rfl (hO.alloc _) ⟨W2.heap.size, 0, none⟩ 1 1 [.slice none 0 0] rfl rfl (cell_one_new _ _ _) ?d2 ?d3 ?d4 ?d5 ?_)
  case d2 => intro u hu; simp at hu; subst hu; rfl
  case d3 => unfold maxLen; omega
  case d4 => omega
  case d5 => simp; omega
  intro v' w6 hown5 hgrow5 _ hat5
  obtain ⟨a6, c6, rfl⟩ := ownsRow_slice hown5
  have h1 := H2.out.1.keep (al W2 (.cells #[.slice none 0 0] 25))
  have F1 := H2.out.2.trans (NtF.keep (al W2 (.cells #[.slice none 0 0] 25)) hB2)
  obtain ⟨h2, F2⟩ := h1.pushF hown5 hgrow5 (by simpa using hat5)
  have H3 := Lib.hid (And.intro h2 (F1.trans F2))
  have hs5 : St w6 88 bn _ := h1.sn.grown_own h1.fr.own (by decide) hgrow5
  have p1 : w6.cell? ⟨bn, 258, none⟩ = some (.slice aF M cF) := by
    rw [hs5.at_, ← h1.sn.at_]; exact h1.cells.2.1
  have p2 := hs5.thaw_ 258
  clear hown5 hgrow5 hat5 h1 F1 h2 F2 hs5 c0 hO hB2 H2
  go_upto_region 3 with fail
  generalize w6.setCell ⟨bn, 258, none⟩ (.slice a6 (M + 1) c6) = W3 at H3 ⊢
  clear p1 p2
  obtain ⟨_, _, c0⟩ := H3.out.1.cells
  have hO := H3.out.1.st.own
  have hB2 := H3.out.1.lo.2
  go_wp2_with (at_builtin; refine wpList_append_own_at _ rfl _ _ 86 rfl B 105 i2 (.slice none 0 0) 1 24 Try.underlying86 hk hx0 hx1 hx2 rfl (by decide) _ _ _ rfl (hO.alloc _) ⟨W3.heap.size, 0, none⟩ 1 1 [.slice none 0 0] rfl rfl (cell_one_new _ _ _) ?d2 ?d3 ?d4 ?d5 ?_)
  case d2 => intro u hu; simp at hu; subst hu; rfl
  case d3 => unfold maxLen; omega
  case d4 => omega
  case d5 => simp; omega
  intro v' w7 hown5 hgrow5 _ hat5
  obtain ⟨a7, c7, rfl⟩ := ownsRow_slice hown5
  have h1 := H3.out.1.keep (al W3 (.cells #[.slice none 0 0] 105))
  have F1 := H3.out.2.trans (NtF.keep (al W3 (.cells #[.slice none 0 0] 105)) hB2)
  obtain ⟨h2, F2⟩ := h1.pushS hown5 hgrow5 (by simpa using hat5)
  have H4 := Lib.hid (And.intro h2 (F1.trans F2))
  have hs5 : St w7 88 bn _ := h1.sn.grown_own h1.st.own (by decide) hgrow5
  have p1 : w7.cell? ⟨bn, 259, none⟩ = some (.slice aS M cS) := by
    rw [hs5.at_, ← h1.sn.at_]; exact h1.cells.2.2
  have p2 := hs5.thaw_ 259
  clear hown5 hgrow5 hat5 h1 F1 h2 F2 hs5 c0 hO hB2 H3
  go_upto_region 4 with fail
  generalize w7.setCell ⟨bn, 259, none⟩ (.slice a7 (M + 1) c7) = W4 at H4 ⊢
  clear p1 p2
  obtain ⟨c0, _, _⟩ := H4.out.1.cells
  go_wp2_with fail
  go_ret
  exact ⟨_, _, _, rfl, H4.out.1, H4.out.2⟩
end Go.Proofs.Ytlnndkilaklifaa
