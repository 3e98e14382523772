import Derived.Test.YtlnndkilaklifaaZSFirst
namespace Go.Proofs.Ytlnndkilaklifaa
open Go.RowKit Go.Maps Go.WideElems Go.ChangeMaps Go.MapKept
set_option linter.unusedVariables false
set_option linter.unusedSimpArgs false

theorem MkR.grown {V wr w1 : World} {B bm gI m : Nat} {bs : List Nat} {cs : Array Value} {P : Nat → Bool} {l : List Nat} {vL : Value} {row : Option Nat} (h : MkR V B bs bm gI m cs P l vL wr) (hg : wr.grownBy w1 row) (hr : ∀ g, row = some g → g ∈ bs ∨ V.heap.size ≤ g) (hB : ∀ g, row = some g → B ≤ g)
    (h1 : some bm ≠ row) (h2 : some gI ≠ row) (h3 : ∀ b, vL.ownBlock = some b → some b ≠ row) : MkR V B bs bm gI m cs P l vL w1 :=
  ⟨h.kept.grown hg (fun g e => (hr g e).elim Or.inl (fun x => Or.inr (Or.inl x))), h.below.grown hg h.hB hB, h.sm.grown hg h1, h.sz, h.cI, own_grown h.inn hg (fun g e => by simp only [Value.ownBlock] at e; rw [← e]; exact h2), own_grown h.lst hg h3, h.loc, h.inb, h.lo⟩
theorem set_comm9 (cs : Array Value) (i : Nat) (hi : i ≠ 262) (u v : Value) : (cs.setIfInBounds 262 v).setIfInBounds i u = (cs.setIfInBounds i u).setIfInBounds 262 v := by
  apply Array.ext_getElem?
  intro j
  simp only [Array.getElem?_setIfInBounds, Array.size_setIfInBounds]
  by_cases h1 : i = j <;> by_cases h2 : 262 = j <;> simp [h1, h2]
  omega
theorem MkR.setm {V wr : World} {B bm gI m : Nat} {bs : List Nat} {cs : Array Value} {P : Nat → Bool} {l : List Nat} {vL : Value} (h : MkR V B bs bm gI m cs P l vL wr) (i : Nat) (h1 : i ≠ 261) (h2 : i ≠ 262) (u : Value) : MkR V B bs bm gI m (cs.setIfInBounds i u) P l vL (wr.setCell ⟨bm, i, none⟩ u) := by
  refine ⟨h.kept.setCell _ _ (Or.inl h.inb.1), h.below.setCell (p := ⟨bm, i, none⟩) h.lo.1 _, ?_, by rw [Array.size_setIfInBounds]; exact h.sz, by rw [Array.getElem?_setIfInBounds_ne h1]; exact h.cI, own_set h.inn h.sm (by decide) _ _, own_set h.lst h.sm (by decide) _ _, h.loc, h.inb, h.lo⟩
  have := h.sm.set i u
  rwa [set_comm9 cs i h2 u vL] at this
theorem MkR.other {V wr : World} {B bm gI m : Nat} {bs : List Nat} {cs : Array Value} {P : Nat → Bool} {l : List Nat} {vL : Value} (h : MkR V B bs bm gI m cs P l vL wr) (i : Nat) (hi : i ≠ 262) : wr.cell? ⟨bm, i, none⟩ = cs[i]? := by
  rw [h.sm.at_, Array.getElem?_setIfInBounds_ne (fun e => hi e.symm)]
theorem MkA.grown {V wr w1 : World} {B bm gI m M : Nat} {bs : List Nat} {cs : Array Value} {l : List Nat} {vL : Value} {row : Option Nat} (h : MkA V B bs bm gI m M cs l vL wr) (hg : wr.grownBy w1 row) (hr : ∀ g, row = some g → g ∈ bs ∨ V.heap.size ≤ g) (hB : ∀ g, row = some g → B ≤ g)
    (h1 : some bm ≠ row) (h2 : some gI ≠ row) (h3 : ∀ b, vL.ownBlock = some b → some b ≠ row) : MkA V B bs bm gI m M cs l vL w1 := ⟨h.r.grown hg hr hB h1 h2 h3, h.nd, h.lt⟩
theorem MkA.setm {V wr : World} {B bm gI m M : Nat} {bs : List Nat} {cs : Array Value} {l : List Nat} {vL : Value} (h : MkA V B bs bm gI m M cs l vL wr) (i : Nat) (h1 : i ≠ 261) (h2 : i ≠ 262) (u : Value) : MkA V B bs bm gI m M (cs.setIfInBounds i u) l vL (wr.setCell ⟨bm, i, none⟩ u) := ⟨h.r.setm i h1 h2 u, h.nd, h.lt⟩

def strs (l : List ByteArray) : List Value := l.map fun s => .string s
def ints (l : List Int) : List Value := l.map fun x => .int .i64 x
theorem Try.info_str9 : (Try.prog.info? 9).map (fun i => (i.zero, i.size, i.bytes)) = some (some (.string ⟨#[]⟩), 1, 16) := by kernel_rfl
theorem law_str9 : Keyed Try.prog 9 := string_keyed Try.underlying9
/-- The sets that were found, their marks, and the map of their numbers. -/
structure MkT (V : World) (B : Nat) (bs : List Nat) (bM : Nat) (cs : Array Value) (vL : Value) (k q n : Nat) (ss : List ByteArray) (ms : List Int) (Q : Value → Value → Prop) (vS vK : Value) (wr : World) : Prop where
  cK : cs[258]? = some vK
  cS : cs[259]? = some vS
  cM : cs[260]? = some (.map (some bM))
  os : wr.ownsRow B 9 1 vS k (strs ss)
  ok : wr.ownsRow B 3 1 vK q (ints ms)
  map : MapEx wr 9 bM n Q
  sep : ∀ b, vL.ownBlock = some b → vK.ownBlock ≠ some b
  lS : ∀ b, vS.ownBlock = some b → b ∈ bs ∨ V.heap.size ≤ b
  lK : ∀ b, vK.ownBlock = some b → b ∈ bs ∨ V.heap.size ≤ b
  lM : bM ∈ bs ∧ B ≤ bM
theorem MkT.keep {V wr w1 : World} {B bM k q n : Nat} {bs : List Nat} {cs : Array Value} {vL vS vK : Value} {ss : List ByteArray} {ms : List Int} {Q : Value → Value → Prop} (h : MkT V B bs bM cs vL k q n ss ms Q vS vK wr) (b : Below wr.heap.size wr w1) : MkT V B bs bM cs vL k q n ss ms Q vS vK w1 :=
  ⟨h.cK, h.cS, h.cM, ownsRow_keep h.os b, ownsRow_keep h.ok b, h.map.same (b.block _ h.map.lt), h.sep, h.lS, h.lK, h.lM⟩
/-- The text of what is gathered. -/
def AddPost (V : World) (B : Nat) (bs : List Nat) (bm gI m M bM : Nat) (cs : Array Value) (l : List Nat) (vL : Value) (k n : Nat) (ss : List ByteArray) (ms : List Int) (Q' : Value → Value → Prop) (s : ByteArray) (mk : Nat → Int) (e : Ending) (w' : World) : Prop :=
  ∃ (r : Int) (vS' vK' : Value), e = .returned (.int .i64 ((k : Nat) : Int)) ∧ Least mk (fun x => x ∈ l) r ∧ MkA V B bs bm gI m M ((cs.setIfInBounds 259 vS').setIfInBounds 258 vK') l vL w' ∧
    MkT V B bs bM ((cs.setIfInBounds 259 vS').setIfInBounds 258 vK') vL (k + 1) (k + 1) (n + 1) (ss ++ [s]) (ms ++ [r]) Q' vS' vK' w'
theorem map_ne_st {w : World} {k b n t g : Nat} {cs : Array Value} {Q : Value → Value → Prop} (hm : MapEx w k b n Q) (h : St w t g cs) : g ≠ b := by
  rintro rfl
  obtain ⟨es, clock, hb, _⟩ := hm
  have h1 : w.heap[g]? = _ := h
  rw [h1] at hb
  cases hb
theorem map_ne_own {w : World} {k b n B t size q : Nat} {v : Value} {xs : List Value} {Q : Value → Value → Prop} (hm : MapEx w k b n Q) (h : w.ownsRow B t size v q xs) : ∀ g, v.ownBlock = some g → g ≠ b := by
  rintro g e rfl
  obtain ⟨c, fz, hc⟩ := own_kind h g e
  obtain ⟨es, clock, hb, _⟩ := hm
  rw [hc] at hb
  cases hb
/-- Behind an append to the sets. -/
theorem mk_sets {V W w5 : World} {B bm gI m M bM k q n : Nat} {bs : List Nat} {cs : Array Value} {l : List Nat} {vL vS vK vS' : Value} {ss : List ByteArray} {ms : List Int} {Q : Value → Value → Prop} {s : ByteArray}
    (h : MkA V B bs bm gI m M cs l vL W) (t : MkT V B bs bM cs vL k q n ss ms Q vS vK W) (ho : w5.ownsRow B 9 1 vS' (k + 1) (strs ss ++ [.string s])) (hg : W.grownBy w5 vS.ownBlock) (hat : vS'.ownBlock = vS.ownBlock ∨ vS'.ownBlock = some W.heap.size) :
    MkA V B bs bm gI m M (cs.setIfInBounds 259 vS') l vL (w5.setCell ⟨bm, 259, none⟩ vS') ∧ MkT V B bs bM (cs.setIfInBounds 259 vS') vL (k + 1) q n (ss ++ [s]) ms Q vS' vK (w5.setCell ⟨bm, 259, none⟩ vS') := by
  have h5 := h.grown hg t.lS (own_above t.os) (fun e => own_ne t.os h.r.sm (by decide) bm e.symm rfl) (fun e => own_kinds t.os h.r.inn (by decide) gI e.symm rfl) (fun b e1 e2 => own_kinds h.r.lst t.os (by decide) b e1 e2.symm)
  have hsm := h5.r.sm
  refine ⟨h5.setm 259 (by decide) (by decide) vS', by rw [Array.getElem?_setIfInBounds_ne (by decide)]; exact t.cK, by rw [Array.getElem?_setIfInBounds_self_of_lt (by rw [h.r.sz]; decide)], by rw [Array.getElem?_setIfInBounds_ne (by decide)]; exact t.cM, ?_,
    own_set (own_grown_own t.ok t.os (by decide) hg) hsm (by decide) _ _, (t.map.grown_own t.os hg).set hsm, t.sep, ?_, t.lK, t.lM⟩
  · rw [show strs (ss ++ [s]) = strs ss ++ [.string s] by simp [strs]]
    exact own_set ho hsm (by decide) _ _
  · intro b e1
    rcases hat with h1 | h1
    · exact t.lS b (by rw [← h1]; exact e1)
    · rw [h1] at e1
      injection e1 with e1
      exact Or.inr (by rw [← e1]; exact h.r.below.size)
/-- Behind an append to the marks. -/
theorem mk_marks {V W w5 : World} {B bm gI m M bM k q n : Nat} {bs : List Nat} {cs : Array Value} {l : List Nat} {vL vS vK vK' : Value} {ss : List ByteArray} {ms : List Int} {Q : Value → Value → Prop} {r : Int}
    (h : MkA V B bs bm gI m M cs l vL W) (t : MkT V B bs bM cs vL k q n ss ms Q vS vK W) (ho : w5.ownsRow B 3 1 vK' (q + 1) (ints ms ++ [.int .i64 r])) (hg : W.grownBy w5 vK.ownBlock) (hat : vK'.ownBlock = vK.ownBlock ∨ vK'.ownBlock = some W.heap.size) :
    MkA V B bs bm gI m M (cs.setIfInBounds 258 vK') l vL (w5.setCell ⟨bm, 258, none⟩ vK') ∧ MkT V B bs bM (cs.setIfInBounds 258 vK') vL k (q + 1) n ss (ms ++ [r]) Q vS vK' (w5.setCell ⟨bm, 258, none⟩ vK') := by
  have h5 := h.grown hg t.lK (own_above t.ok) (fun e => own_ne t.ok h.r.sm (by decide) bm e.symm rfl) (fun e => own_kinds t.ok h.r.inn (by decide) gI e.symm rfl) (fun b e1 e2 => t.sep b e1 e2.symm)
  have hsm := h5.r.sm
  refine ⟨h5.setm 258 (by decide) (by decide) vK', by rw [Array.getElem?_setIfInBounds_self_of_lt (by rw [h.r.sz]; decide)], by rw [Array.getElem?_setIfInBounds_ne (by decide)]; exact t.cS, by rw [Array.getElem?_setIfInBounds_ne (by decide)]; exact t.cM,
    own_set (own_grown_own t.os t.ok (by decide) hg) hsm (by decide) _ _, ?_, (t.map.grown_own t.ok hg).set hsm, fun b e1 e2 => ?_, t.lS, ?_, t.lM⟩
  · rw [show ints (ms ++ [r]) = ints ms ++ [.int .i64 r] by simp [ints]]
    exact own_set ho hsm (by decide) _ _
  · rcases hat with h1 | h1
    · exact t.sep b e1 (by rw [← h1]; exact e2)
    · rw [h1] at e2
      injection e2 with e2
      obtain ⟨c, fz, hc⟩ := own_kind h.r.lst b e1
      have := (Array.getElem?_eq_some_iff.1 hc).1
      omega
  · intro b e1
    rcases hat with h1 | h1
    · exact t.lK b (by rw [← h1]; exact e1)
    · rw [h1] at e1
      injection e1 with e1
      exact Or.inr (by rw [← e1]; exact h.r.below.size)
/-- Behind a store into the map. -/
theorem mk_map {V W w5 : World} {B bm gI m M bM k q n n' : Nat} {bs : List Nat} {cs : Array Value} {l : List Nat} {vL vS vK : Value} {ss : List ByteArray} {ms : List Int} {Q Q' : Value → Value → Prop}
    (h : MkA V B bs bm gI m M cs l vL W) (t : MkT V B bs bM cs vL k q n ss ms Q vS vK W) (hm : MapEx w5 9 bM n' Q') (hg : W.grownBy w5 (some bM)) :
    MkA V B bs bm gI m M cs l vL w5 ∧ MkT V B bs bM cs vL k q n' ss ms Q' vS vK w5 := by
  have hm0 := t.map
  have h5 := h.grown hg (fun g e => by injection e with e; rw [← e]; exact Or.inl t.lM.1) (fun g e => by injection e with e; rw [← e]; exact t.lM.2) (fun e => by injection e with e; exact map_ne_st hm0 h.r.sm e) (fun e => by injection e with e; exact map_ne_own hm0 h.r.inn gI rfl e) (fun b e1 e2 => by injection e2 with e2; exact map_ne_own hm0 h.r.lst b e1 e2)
  exact ⟨h5, t.cK, t.cS, t.cM, own_grown_map t.os hm0.of hg, own_grown_map t.ok hm0.of hg, hm, t.sep, t.lS, t.lK, t.lM⟩
end Go.Proofs.Ytlnndkilaklifaa
