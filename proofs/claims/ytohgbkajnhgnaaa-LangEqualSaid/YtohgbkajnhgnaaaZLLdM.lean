import Derived.Test.YtohgbkajnhgnaaaZLNew
namespace Go.Proofs.Ytohgbkajnhgnaaa
open Go.RowKit Go.Maps Go.WideElems Go.ChangeMaps Go.MapKept
set_option linter.unusedVariables false
set_option linter.unusedSimpArgs false

theorem pre_at9 {α : Type} {a b : List α} (h : a <+: b) {i : Nat} {x : α} (hx : a[i]? = some x) : b[i]? = some x := by
  obtain ⟨t, rfl⟩ := h
  rw [List.getElem?_append_left (List.getElem?_eq_some_iff.1 hx).1]
  exact hx
/-! ### A row of numbers of pairs, as it grows -/
structure LeadR (T : Nat → Int × Int) (met met' : List (Int × Int)) (k : Nat) (l : List Int) : Prop where
  len : l.length = k
  pre : met <+: met'
  most : met'.length ≤ met.length + k
  nod : met.Nodup → met'.Nodup
  at_ : ∀ c, c < k → ((T c).1 = -1 ∧ (T c).2 = -1 ∧ l[c]? = some (-1)) ∨ (¬ ((T c).1 = -1 ∧ (T c).2 = -1) ∧ ∃ i : Nat, l[c]? = some ((i : Nat) : Int) ∧ met'[i]? = some (T c))
  new : ∀ x ∈ met', x ∈ met ∨ ∃ c, c < k ∧ x = T c ∧ ¬ (x.1 = -1 ∧ x.2 = -1)
theorem LeadR.zero (T : Nat → Int × Int) (met : List (Int × Int)) : LeadR T met met 0 [] :=
  ⟨rfl, List.prefix_refl _, by omega, id, fun c hc => absurd hc (by omega), fun x hx => Or.inl hx⟩
theorem LeadR.step {T : Nat → Int × Int} {met m1 m2 : List (Int × Int)} {k : Nat} {l : List Int} {r : Int} (h : LeadR T met m1 k l) (hn : NumR m1 (T k) m2 r) : LeadR T met m2 (k + 1) (l ++ [r]) := by
  have hlen := h.len
  have hsub : m1 <+: m2 := by
    rcases hn with ⟨_, _, e⟩ | ⟨_, i, _, _, e | ⟨_, e⟩⟩
    · rw [e]; exact List.prefix_refl _
    · rw [e]; exact List.prefix_refl _
    · rw [e]; exact List.prefix_append _ _
  refine ⟨by rw [List.length_append, hlen]; rfl, h.pre.trans hsub, ?_, fun hd => ?_, fun c hc => ?_, fun x hx => ?_⟩
  · have := h.most
    rcases hn with ⟨_, _, e⟩ | ⟨_, i, _, _, e | ⟨_, e⟩⟩
    · rw [e]; omega
    · rw [e]; omega
    · rw [e, List.length_append]; simp; omega
  · have h1 := h.nod hd
    rcases hn with ⟨_, _, e⟩ | ⟨_, i, _, _, e | ⟨hx, e⟩⟩
    · rw [e]; exact h1
    · rw [e]; exact h1
    · rw [e, List.nodup_append]
      refine ⟨h1, by simp, fun a ha b hb => ?_⟩
      have : b = T k := by simpa using hb
      rw [this]
      exact fun e => hx (e ▸ ha)
  · by_cases e : c < k
    · rcases h.at_ c e with ⟨h1, h2, h3⟩ | ⟨h1, i, h2, h3⟩
      · exact Or.inl ⟨h1, h2, by rw [List.getElem?_append_left (by omega), h3]⟩
      · exact Or.inr ⟨h1, i, by rw [List.getElem?_append_left (by omega), h2], pre_at9 hsub h3⟩
    · obtain rfl : c = k := by omega
      have hl : (l ++ [r])[c]? = some r := by rw [← hlen]; simp
      rcases hn with ⟨⟨e1, e2⟩, e3, _⟩ | ⟨hne, i, e3, e4, _⟩
      · exact Or.inl ⟨e1, e2, by rw [hl, e3]⟩
      · exact Or.inr ⟨hne, i, by rw [hl, e3], e4⟩
  · rcases hn with ⟨_, _, e⟩ | ⟨hne, i, _, _, e | ⟨_, e⟩⟩
    · rw [e] at hx
      rcases h.new x hx with h1 | ⟨c, h1, h2, h3⟩
      · exact Or.inl h1
      · exact Or.inr ⟨c, by omega, h2, h3⟩
    · rw [e] at hx
      rcases h.new x hx with h1 | ⟨c, h1, h2, h3⟩
      · exact Or.inl h1
      · exact Or.inr ⟨c, by omega, h2, h3⟩
    · rw [e, List.mem_append] at hx
      rcases hx with hx | hx
      · rcases h.new x hx with h1 | ⟨c, h1, h2, h3⟩
        · exact Or.inl h1
        · exact Or.inr ⟨c, by omega, h2, h3⟩
      · have : x = T k := by simpa using hx
        exact Or.inr ⟨k, by omega, this, by rw [this]; exact hne⟩
section
variable {W0 : World} {A B : Dd} {how : Int} {bm bM : Nat} {lt : List Nat} {vL : Value} {K : Nat → Nat} {mM mT mK : List (Int × Int)} {vT : Value} {R : List (List Int)} {vN : Value} {ws : Nat → Value} {vK : Value} {cs : Array Value} {w : World}
/-- A row of one's own is changed. -/
theorem Mk3.far {g n : Nat} {vR : Value} {xs : List Value} (h : Mk3 W0 A B how bm bM lt vL K mM mT mK vT R vN ws vK cs w) (hr : w.ownsRow W0.heap.size 3 1 vR n xs) (hg : vR.ownBlock = some g) (hB : W0.heap.size ≤ g) (hK : vK.ownBlock ≠ some g) (hW : ∀ i, i < R.length → (ws i).ownBlock ≠ some g) (i : Nat) (u : Value) :
    Mk3 W0 A B how bm bM lt vL K mM mT mK vT R vN ws vK cs (w.setCell ⟨g, i, none⟩ u) := by
  have ok : ∀ {t n sz : Nat} {v : Value} {xs : List Value}, v.ownBlock ≠ some g → w.ownsRow W0.heap.size t sz v n xs → (w.setCell ⟨g, i, none⟩ u).ownsRow W0.heap.size t sz v n xs := fun {t n sz v xs} h1 hx =>
    own_kept (ts := []) (bs := [g]) hx ((Kept.refl _ _ _).setCell _ _ (Or.inl (by simp))) (by simp) (fun q e h => h1 (by rw [e, List.mem_singleton.1 h]))
  have kd : ∀ {t n sz : Nat} {v : Value} {xs : List Value}, 3 ≠ t → w.ownsRow W0.heap.size t sz v n xs → v.ownBlock ≠ some g := fun {t n sz v xs} h1 hx => own_kinds hr hx h1 g hg
  have hne : bm ≠ g := fun e => own_ne hr h.st (by decide) g hg e.symm
  refine ⟨h.bel.setCell (p := ⟨g, i, none⟩) hB _, h.st.far (p := ⟨g, i, none⟩) hne u, h.c, ok (kd (by decide) h.lets) h.lets, ok (kd (by decide) h.mets) h.mets, h.map.same (Below.heap_setCell _ _ _ _ ?_), ⟨ok (kd (by decide) h.next.own) h.next.own, fun j hj => ok (hW j hj) (h.next.row j hj), h.next.sep⟩, ok hK h.mks, h.sep, h.loM, h.lob⟩
  intro e
  obtain ⟨es, clock, hb, _⟩ := h.map
  obtain ⟨c, fz, hc⟩ := own_kind hr g hg
  simp only at e
  rw [← e] at hc
  rw [hb] at hc
  cases hc
/-- A row is put behind the others. -/
theorem Mk3.row {w' : World} {vN' vR : Value} {l : List Int} (h : Mk3 W0 A B how bm bM lt vL K mM mT mK vT R vN ws vK cs w) (hl : l.length = lt.length) (hr : w.ownsRow W0.heap.size 3 1 vR lt.length (ints l)) (hK : ∀ b, vR.ownBlock = some b → vK.ownBlock ≠ some b) (hW : ∀ i, i < R.length → ∀ b, (ws i).ownBlock = some b → vR.ownBlock ≠ some b)
    (ho : w'.ownsRow W0.heap.size 24 1 vN' (R.length + 1) ((List.range R.length).map ws ++ [vR])) (hg : w.grownBy w' vN.ownBlock) :
    Mk3 W0 A B how bm bM lt vL K mM mT mK vT (R ++ [l]) vN' (fun j => if j = R.length then vR else ws j) vK (cs.setIfInBounds 776 vN') (w'.setCell ⟨bm, 776, none⟩ vN') := by
  have s1 : St w' 76 bm cs := h.st.grown_own h.next.own (by decide) hg
  have ok : ∀ {t n sz : Nat} {v : Value} {xs : List Value}, t ≠ 24 → t ≠ 76 → w.ownsRow W0.heap.size t sz v n xs → (w'.setCell ⟨bm, 776, none⟩ vN').ownsRow W0.heap.size t sz v n xs := fun {t n sz v xs} h1 h2 hx =>
    own_set (own_grown hx hg (fun b e e2 => own_kinds hx h.next.own h1 b e e2.symm)) s1 h2 _ _
  have hG : GridOw w W0.heap.size 24 3 1 vN R.length ws (fun _ => lt.length) (fun j => ints ((R ++ [l]).getD j [])) := ⟨h.next.own, fun i hi => by
    have := h.next.row i hi
    simp only [List.getD_eq_getElem?_getD] at this ⊢
    rw [List.getElem?_append_left hi]
    exact this, h.next.sep⟩
  have hP := GridOw.pushRow hG (by decide) (u := vR) (by simp only [List.getD_eq_getElem?_getD]; rw [List.getElem?_append_right (Nat.le_refl _)]; simpa using hr) hW ho hg
  refine ⟨(below_grown_own h.bel h.next.own h.bel.size hg).setCell (p := ⟨bm, 776, none⟩) h.lob _, s1.set 776 vN', h.c.setN vN', ok (by decide) (by decide) h.lets, ok (by decide) (by decide) h.mets, (h.map.grown_own h.next.own hg).set s1, ?_, ok (by decide) (by decide) h.mks, fun i hi b e => ?_, h.loM, h.lob⟩
  · rw [List.length_append]
    exact ⟨own_set hP.own s1 (by decide) _ _, fun i hi => own_set (hP.row i hi) s1 (by decide) _ _, hP.sep⟩
  · by_cases e2 : i = R.length
    · rw [if_pos e2] at e
      exact hK b e
    · rw [if_neg e2] at e
      rw [List.length_append] at hi
      simp at hi
      exact h.sep i (by omega) b e
end
end Go.Proofs.Ytohgbkajnhgnaaa

namespace Go.Proofs.Ytohgbkajnhgnaaa
open Go.RowKit Go.Maps Go.WideElems Go.ChangeMaps Go.MapKept
set_option linter.unusedVariables false
set_option linter.unusedSimpArgs false

theorem stepF_bd {D : Dd} {C : Nat} (hR : DR D C) (st : Int) {b : Nat} (hb : b < 256) : -1 ≤ stepF D st b ∧ stepF D st b < (D.n : Int) := by
  unfold stepF
  split
  · next h => exact hR.nx st.toNat (D.K b) (by omega) (hR.c.1 b hb)
  · have := hR.n1
    omega
/-- Where a letter leads from a pair. -/
def prN (A B : Dd) (p : Int × Int) (lt : List Nat) (c : Nat) : Int × Int := (stepF A p.1 (lt.getD c 0), stepF B p.2 (lt.getD c 0))
/-- The maker within lead: with a row of one's own, and the pair's box. -/
structure LdM (W0 : World) (A B : Dd) (how : Int) (bm bM : Nat) (lt : List Nat) (n : Nat) (vL : Value) (K : Nat → Nat) (R : List (List Int)) (vN : Value) (ws : Nat → Value) (p1 p2 : Int) (b3 gR : Nat) (m1 : List (Int × Int)) (vT vK : Value) (cs : Array Value) (xs : List Int) (w : World) : Prop where
  ma : Mk3 W0 A B how bm bM lt vL K m1 m1 m1 vT R vN ws vK cs w
  row : w.ownsRow W0.heap.size 3 1 (.slice (some ⟨gR, 0, none⟩) n n) n (ints xs)
  box : St w 72 b3 #[.int .i64 p1, .int .i64 p2]
  sK : vK.ownBlock ≠ some gR
  sT : vT.ownBlock ≠ some b3
  sW : ∀ i, i < R.length → (ws i).ownBlock ≠ some gR
  loR : W0.heap.size ≤ gR
section
variable {W0 : World} {A B : Dd} {how : Int} {bm bM : Nat} {lt : List Nat} {n : Nat} {vL : Value} {K : Nat → Nat} {R : List (List Int)} {vN : Value} {ws : Nat → Value} {p1 p2 : Int} {b3 gR : Nat} {m1 m2 : List (Int × Int)} {vT vK vT2 vK2 : Value} {cs cs2 : Array Value} {xs : List Int} {w w' : World}
theorem LdM.keep (h : LdM W0 A B how bm bM lt n vL K R vN ws p1 p2 b3 gR m1 vT vK cs xs w) (k : Below w.heap.size w w') : LdM W0 A B how bm bM lt n vL K R vN ws p1 p2 b3 gR m1 vT vK cs xs w' :=
  ⟨h.ma.keep k, ownsRow_keep h.row k, h.box.keep k, h.sK, h.sT, h.sW, h.loR⟩
/-- What the loads see. -/
def LdS (W0 : World) (A B : Dd) (bm b3 : Nat) (p1 p2 : Int) (W' : World) : Prop :=
  Below W0.heap.size W0 W' ∧ (∀ j v, A.cD.toList[j]? = some v → W'.cell? ((⟨bm, 1, none⟩ : Addr).add j) = some v) ∧ (∀ j v, B.cD.toList[j]? = some v → W'.cell? ((⟨bm, 259, none⟩ : Addr).add j) = some v) ∧ W'.cell? ⟨b3, 0, none⟩ = some (.int .i64 p1) ∧ W'.cell? ⟨b3, 1, none⟩ = some (.int .i64 p2)
theorem LdM.see (h : LdM W0 A B how bm bM lt n vL K R vN ws p1 p2 b3 gR m1 vT vK cs xs w) (hA : A.cD.size = 258) (hB : B.cD.size = 258) : LdS W0 A B bm b3 p1 p2 w :=
  ⟨h.ma.bel, h.ma.c.partA h.ma.st hA, h.ma.c.partB h.ma.st hB, by rw [h.box.at_]; rfl, by rw [h.box.at_]; rfl⟩
theorem LdM.num (h : LdM W0 A B how bm bM lt n vL K R vN ws p1 p2 b3 gR m1 vT vK cs xs w) (hM : Mk3 W0 A B how bm bM lt vL K m2 m2 m2 vT2 R vN ws vK2 cs2 w') (hk : Kept [] (mblk bm bM vT vK) w w') (h1 : ∀ b, vK2.ownBlock = some b → vK.ownBlock = some b ∨ w.heap.size ≤ b) (h2 : ∀ b, vT2.ownBlock = some b → vT.ownBlock = some b ∨ w.heap.size ≤ b) :
    LdM W0 A B how bm bM lt n vL K R vN ws p1 p2 b3 gR m2 vT2 vK2 cs2 xs w' := by
  have mapNe : ∀ {g : Nat} {t : TypeId} {c : Array Value} {fz : Nat × Nat}, w.heap[g]? = some (.cells c t fz) → g ≠ bM := fun {g t c fz} hc e => by
    obtain ⟨es, clock, hb, _⟩ := h.ma.map
    rw [← e, hc] at hb
    cases hb
  have hR0 : (Value.slice (some ⟨gR, 0, none⟩) n n).ownBlock = some gR := rfl
  have hRlt := own_lt9 h.row gR hR0
  refine ⟨hM, own_kept h.row hk (by simp) (fun g e hm => ?_), h.box.kept hk (by simp) (fun hm => ?_), fun e => ?_, fun e => ?_, h.sW, h.loR⟩
  · obtain rfl : gR = g := by rw [hR0] at e; exact Option.some.inj e
    obtain ⟨c, fz, hc⟩ := own_kind h.row gR rfl
    simp only [mblk, List.mem_cons, List.mem_append, Option.mem_toList] at hm
    rcases hm with e | e | e | e
    · exact own_ne h.row h.ma.st (by decide) gR rfl e
    · exact mapNe hc e
    · exact own_kinds h.row h.ma.mets (by decide) gR rfl e
    · exact h.sK e
  · simp only [mblk, List.mem_cons, List.mem_append, Option.mem_toList] at hm
    rcases hm with e | e | e | e
    · exact h.box.ne h.ma.st (by decide) e
    · exact mapNe h.box e
    · exact h.sT e
    · exact own_ne h.ma.mks h.box (by decide) b3 e rfl
  · rcases h1 gR e with e | e
    · exact h.sK e
    · omega
  · rcases h2 b3 e with e | e
    · exact h.sT e
    · have := h.box.lt
      omega
theorem LdM.put (h : LdM W0 A B how bm bM lt n vL K R vN ws p1 p2 b3 gR m1 vT vK cs xs w) (k : Nat) (hk : k < n) (r : Int) (ys : List Int) (hy : (ints xs).set k (.int .i64 r) = ints ys) : LdM W0 A B how bm bM lt n vL K R vN ws p1 p2 b3 gR m1 vT vK cs ys (w.setCell ⟨gR, k, none⟩ (.int .i64 r)) := by
  refine ⟨h.ma.far h.row rfl h.loR h.sK h.sW _ _, ?_, h.box.far (p := ⟨gR, k, none⟩) (fun e => own_ne h.row h.box (by decide) gR rfl e.symm) _, h.sK, h.sT, h.sW, h.loR⟩
  rw [← hy]
  exact own_put h.row k hk _
theorem LdM.cell (h : LdM W0 A B how bm bM lt n vL K R vN ws p1 p2 b3 gR m1 vT vK cs xs w) (k : Nat) (hk : k < n) (x : Int) (hx : xs[k]? = some x) : w.cell? ⟨gR, k, none⟩ = some (.int .i64 x) ∧ w.frozen? ⟨gR, k, none⟩ = false := by
  obtain ⟨g', e', _, _, hc'⟩ := ownsRow_read h.row (by omega)
  obtain rfl : g' = gR := by
    injection e' with e'
    injection e' with e' _
    exact e'.symm
  obtain ⟨y0, y1⟩ := hc' k (by omega)
  refine ⟨?_, y1⟩
  rw [y0]
  simp [ints, hx]
end
end Go.Proofs.Ytohgbkajnhgnaaa
