import Derived.Test.YtkdhdlokilgccaaZDBoneN
namespace Go.Proofs.Ytkdhdlokilgccaa
open Go.RowKit Go.Maps Go.WideElems Go.ChangeMaps Go.MapKept
set_option linter.unusedVariables false

/-- The tails that remain of one, told before or not. -/
theorem bone_any (w : World) (B kr : Nat) (cur : Array Value) (E : List Ex) (F : List Fa) (T : List Tl) (b1 b2 n0 : Nat) (S : List (List Rx)) (bD N : Nat) (X : List Nat) (t b : Nat) (τ : List Rx) (hR : RdAt w B kr cur E F T b1 b2 n0 S) (hD : DnAt w B cur E T bD N X) (hn : bD ∉ rdBlks kr cur b1 b2) (hB : B ≤ w.heap.size) (hb : b < 256) (ht : TD E T t τ) (hS : τ ∈ S) (hN : N ≤ 1000000000000) (hXl : ∀ g, g ∈ X → g < w.heap.size) :
    Calls Try.prog 60 #[.pointer (some ⟨kr, 0, none⟩), .agg #[.int .i64 ((t : Nat) : Int), .int .u8 ((b : Nat) : Int)]] w (BonePost w B kr cur E T b1 b2 n0 S bD N X τ b) := by
  obtain ⟨kl, hkl⟩ := read_key t b (by have := ht.lt; have := hR.si.tlen; omega) hb
  rcases hD.map.look_all law_reading Try.underlying117 zero_ints hkl with ⟨v, hq, hrun⟩ | hrun
  · exact bone_known w B kr cur E F T b1 b2 n0 S bD N X t b τ hR hD hn hB hb ht v hq hrun
  · exact bone_new w B kr cur E F T b1 b2 n0 S bD N X t b τ hR hD hn hB hb ht hS hN hXl hrun
/-- The frame of behind. -/
structure HFr (B kr bD : Nat) (w : World) (cur : Array Value) (b1 b2 : Nat) (w' : World) (cur' : Array Value) (p q : Nat) : Prop where
  below : Below B w w'
  kept : Kept [] (bD :: rdBlks kr cur b1 b2) w w'
  sub : ∀ g, g ∈ rdBlks kr cur' p q → g ∈ rdBlks kr cur b1 b2 ∨ w.heap.size ≤ g
theorem HFr.refl (B kr bD : Nat) (w : World) (cur : Array Value) (b1 b2 : Nat) : HFr B kr bD w cur b1 b2 w cur b1 b2 := ⟨Below.refl _ _, Kept.refl _ _ _, fun _ h => Or.inl h⟩
theorem HFr.trans {B kr bD : Nat} {w w' w'' : World} {cur cur' cur'' : Array Value} {b1 b2 p q p' q' : Nat} {bs : List Nat} (h : HFr B kr bD w cur b1 b2 w' cur' p q) (hB : Below B w' w'') (k : Kept [] bs w' w'') (hb : ∀ g, g ∈ bs → g = bD ∨ g ∈ rdBlks kr cur' p q ∨ w.heap.size ≤ g) (hs : ∀ g, g ∈ rdBlks kr cur'' p' q' → g ∈ rdBlks kr cur' p q ∨ w'.heap.size ≤ g) : HFr B kr bD w cur b1 b2 w'' cur'' p' q' := by
  have hsz := h.below.size
  refine ⟨h.below.trans hB, fun i o hi ho hn => ?_, fun g hg => ?_⟩
  · have hlt := (Array.getElem?_eq_some_iff.1 hi).1
    refine k i o (h.kept i o hi ho hn) ho (fun hm => ?_)
    simp only [List.mem_cons, not_or] at hn
    rcases hb i hm with e | e | e
    · exact hn.1 e
    · rcases h.sub i e with e | e
      · exact hn.2 e
      · omega
    · omega
  · rcases hs g hg with e | e
    · exact h.sub g e
    · exact Or.inr (by omega)
/-- What behind has done so far: the tails that remain of the first k. -/
structure BehInv (w : World) (B kr bD : Nat) (cur : Array Value) (E : List Ex) (T : List Tl) (b1 b2 n0 : Nat) (S : List (List Rx)) (ba b : Nat) (lk : List Nat) (Nk : Nat) (wr : World) (cur' : Array Value) (E' : List Ex) (F' : List Fa) (T' : List Tl) (p q : Nat) (l : List Nat) (m : Nat) (vA vI : Value) : Prop where
  rp : RP wr B kr cur' E' F' T' p q n0 S ba l m vA vI
  dn : DnAt wr B cur' E' T' bD Nk (pileBlks ba vA vI)
  nb : bD ∉ rdBlks kr cur' p q
  ee : Ext E E'
  et : Ext T T'
  of : ∀ i, i ∈ l → ∃ j τ σ, j ∈ lk ∧ TD E T j τ ∧ Bh τ b σ ∧ TD E' T' i σ
  all : ∀ j, j ∈ lk → ∀ τ σ, TD E T j τ → Bh τ b σ → ∃ i, i ∈ l ∧ TD E' T' i σ
  size : cur'.size = cur.size
  fr : HFr B kr bD w cur b1 b2 wr cur' p q
  new : ∀ g, g ∈ pileBlks ba vA vI → w.heap.size ≤ g
/-- .. while one more's tails are added. -/
structure BehIn (w : World) (B kr bD : Nat) (cur : Array Value) (E : List Ex) (T : List Tl) (b1 b2 n0 : Nat) (S : List (List Rx)) (ba : Nat) (Nk : Nat) (cur' : Array Value) (E' : List Ex) (F' : List Fa) (T' : List Tl) (p q : Nat) (l0 lv : List Nat) (v : Value) (k2 : Nat) (wr : World) (l : List Nat) (m : Nat) (vA vI : Value) : Prop where
  rp : RP wr B kr cur' E' F' T' p q n0 S ba l m vA vI
  dn : DnAt wr B cur' E' T' bD Nk (pileBlks ba vA vI)
  row : wr.ownsRow B 3 1 v lv.length (nums64 lv)
  off : ∀ g, v.ownBlock = some g → g ∉ pileBlks ba vA vI
  mem : ∀ i, i ∈ l ↔ i ∈ l0 ∨ i ∈ lv.take k2
  fr : HFr B kr bD w cur b1 b2 wr cur' p q
  new : ∀ g, g ∈ pileBlks ba vA vI → w.heap.size ≤ g
theorem BehIn.step {w : World} {B kr bD : Nat} {cur : Array Value} {E : List Ex} {T : List Tl} {b1 b2 n0 : Nat} {S : List (List Rx)} {ba Nk : Nat} {cur' : Array Value} {E' : List Ex} {F' : List Fa} {T' : List Tl} {p q : Nat} {l0 lv : List Nat} {v : Value} {k2 : Nat} {wr : World} {l : List Nat} {m : Nat} {vA vI : Value}
    (h : BehIn w B kr bD cur E T b1 b2 n0 S ba Nk cur' E' F' T' p q l0 lv v k2 wr l m vA vI) (hk : k2 < lv.length) (hDl : bD < w.heap.size) {w2 : World} {l2 : List Nat} {m2 : Nat} {vA2 vI2 : Value} (hP : PileAt w2 B ba l2 m2 vA2 vI2) (hl : ∀ i, i ∈ l2 ↔ i ∈ l ∨ i = lv[k2]) (hF : PFr B ba wr vA vI w2 vA2 vI2) :
    BehIn w B kr bD cur E T b1 b2 n0 S ba Nk cur' E' F' T' p q l0 lv v (k2 + 1) w2 l2 m2 vA2 vI2 := by
  obtain ⟨hRP, hCF⟩ := h.rp.pile hP hF
  have hsz := h.fr.below.size
  have hnew : ∀ g, g ∈ pileBlks ba vA2 vI2 → w.heap.size ≤ g := fun g hg => by
    rcases hF.sub g hg with e | e
    · exact h.new g e
    · omega
  refine ⟨hRP, h.dn.step hF.kept rfl (Ext.refl _) (Ext.refl _) (fun hm => by have := h.new _ hm; omega) (fun g c fz _ hg => hg) hF.sub, own_kept h.row hF.kept (by simp) (fun g e => h.off g e), fun g e hm => ?_, fun i => ?_, h.fr.trans hF.below hF.kept (fun g hg => Or.inr (Or.inr (h.new g hg))) (fun g hg => Or.inl hg), hnew⟩
  · rcases hF.sub g hm with e2 | e2
    · exact h.off g e e2
    · have := own_lt h.row g e; omega
  · rw [hl i, h.mem i, List.take_succ_eq_append_getElem hk, List.mem_append, List.mem_singleton, or_assoc]
end Go.Proofs.Ytkdhdlokilgccaa

namespace Go.Proofs.Ytkdhdlokilgccaa
open Go.RowKit Go.Maps Go.WideElems Go.ChangeMaps Go.MapKept
set_option linter.unusedVariables false

theorem BehInv.start {w : World} {B kr bD : Nat} {cur : Array Value} {E : List Ex} {F : List Fa} {T : List Tl} {b1 b2 n0 : Nat} {S : List (List Rx)} {b N : Nat} (hR : RdAt w B kr cur E F T b1 b2 n0 S) (hD : DnAt w B cur E T bD N []) (hn : bD ∉ rdBlks kr cur b1 b2) (hB : B ≤ w.heap.size) :
    BehInv w B kr bD cur E T b1 b2 n0 S w.heap.size b [] N (w.alloc (.cells #[.slice none 0 0, .slice none 0 0] 84)) cur E F T b1 b2 [] 0 (.slice none 0 0) (.slice none 0 0) := by
  have hal : Below w.heap.size w (w.alloc (.cells #[.slice none 0 0, .slice none 0 0] 84)) := (Below.refl _ _).alloc (Nat.le_refl _) _
  have hpb : ∀ g, g ∈ pileBlks w.heap.size (.slice none 0 0) (.slice none 0 0) → g = w.heap.size := fun g hg => by simpa [pileBlks, Value.ownBlock] using hg
  refine ⟨⟨hR.below hal, pile_new w B hB, fun g hg hm => ?_⟩, hD.step (bs := []) ((Kept.refl _ _ _).below hal) rfl (Ext.refl _) (Ext.refl _) (by simp) (by simp) (fun g hg => Or.inr ?_), hn, Ext.refl _, Ext.refl _, by simp, by simp, rfl, (HFr.refl _ _ _ _ _ _ _).trans (hal.mono hB) (bs := []) ((Kept.refl _ _ _).below hal) (by simp) (fun _ h => Or.inl h), fun g hg => ?_⟩
  · have := hR.lt g hm; have := hpb g hg; omega
  · rw [hpb g hg]; exact Nat.le_refl _
  · rw [hpb g hg]; exact Nat.le_refl _
/-- From the outer state to the inner loop's. -/
theorem BehInv.inner {w : World} {B kr bD : Nat} {cur : Array Value} {E : List Ex} {T : List Tl} {b1 b2 n0 : Nat} {S : List (List Rx)} {ba b : Nat} {lk : List Nat} {Nk : Nat} {wr : World} {cur' : Array Value} {E' : List Ex} {F' : List Fa} {T' : List Tl} {p q : Nat} {l : List Nat} {m : Nat} {vA vI : Value}
    (h : BehInv w B kr bD cur E T b1 b2 n0 S ba b lk Nk wr cur' E' F' T' p q l m vA vI) (hDl : bD < w.heap.size) {w2 : World} {cur2 : Array Value} {E2 : List Ex} {F2 : List Fa} {T2 : List Tl} {p2 q2 : Nat} {v : Value} {lv : List Nat}
    (hR : RdAt w2 B kr cur2 E2 F2 T2 p2 q2 n0 S) (hD : DnAt w2 B cur2 E2 T2 bD (Nk + 1) (pileBlks ba vA vI)) (hrow : w2.ownsRow B 3 1 v lv.length (nums64 lv)) (hoff : ∀ g, v.ownBlock = some g → g ∉ pileBlks ba vA vI ∧ g ∉ rdBlks kr cur2 p2 q2)
    (hB : Below B wr w2) (hk : Kept [] (bD :: rdBlks kr cur' p q) wr w2) (hs : ∀ g, g ∈ rdBlks kr cur2 p2 q2 → g ∈ rdBlks kr cur' p q ∨ wr.heap.size ≤ g) :
    BehIn w B kr bD cur E T b1 b2 n0 S ba (Nk + 1) cur2 E2 F2 T2 p2 q2 l lv v 0 w2 l m vA vI := by
  have hpl : PileAt w2 B ba l m vA vI := h.rp.pl.kept hk (fun g hg hm => by
    simp only [List.mem_cons] at hm
    rcases hm with e | e
    · have := h.new g hg; omega
    · exact h.rp.dis g hg e)
  refine ⟨⟨hR, hpl, fun g hg hm => ?_⟩, hD, hrow, fun g e => (hoff g e).1, by simp, h.fr.trans hB hk (fun g hg => ?_) hs, h.new⟩
  · rcases hs g hm with e | e
    · exact h.rp.dis g hg e
    · have := h.rp.pl.mem_lt g hg; omega
  · simp only [List.mem_cons] at hg
    exact hg.imp id (fun h => Or.inl h)
/-- .. and back, behind it. -/
theorem BehInv.outer {w : World} {B kr bD : Nat} {cur : Array Value} {E : List Ex} {T : List Tl} {b1 b2 n0 : Nat} {S : List (List Rx)} {ba b : Nat} {lk : List Nat} {Nk : Nat} {wr : World} {cur' : Array Value} {E' : List Ex} {F' : List Fa} {T' : List Tl} {p q : Nat} {l : List Nat} {m : Nat} {vA vI : Value}
    (h : BehInv w B kr bD cur E T b1 b2 n0 S ba b lk Nk wr cur' E' F' T' p q l m vA vI) {cur2 : Array Value} {E2 : List Ex} {F2 : List Fa} {T2 : List Tl} {p2 q2 : Nat} {v : Value} {lv : List Nat} {t : Nat} {τ : List Rx} (ht : TD E T t τ) (hbl : BhList E2 T2 τ b lv) (hx1 : Ext E' E2) (hx2 : Ext T' T2) (hz : cur2.size = cur'.size) (hn : bD ∉ rdBlks kr cur2 p2 q2)
    {w3 : World} {l3 : List Nat} {m3 : Nat} {vA3 vI3 : Value} (hi : BehIn w B kr bD cur E T b1 b2 n0 S ba (Nk + 1) cur2 E2 F2 T2 p2 q2 l lv v lv.length w3 l3 m3 vA3 vI3) :
    BehInv w B kr bD cur E T b1 b2 n0 S ba b (lk ++ [t]) (Nk + 1) w3 cur2 E2 F2 T2 p2 q2 l3 m3 vA3 vI3 := by
  refine ⟨hi.rp, hi.dn, hn, h.ee.trans hx1, h.et.trans hx2, fun i hi3 => ?_, fun j hj τ' σ htd hσ => ?_, hz.trans h.size, hi.fr, hi.new⟩
  · rcases (hi.mem i).1 hi3 with h1 | h1
    · obtain ⟨j, τ', σ, h2, h3, h4, h5⟩ := h.of i h1
      exact ⟨j, τ', σ, List.mem_append_left _ h2, h3, h4, h5.ext hx1 hx2⟩
    · rw [List.take_length] at h1
      obtain ⟨σ, h2, h3⟩ := hbl.of i h1
      exact ⟨t, τ, σ, by simp, ht, h2, h3⟩
  · rcases List.mem_append.1 hj with h1 | h1
    · obtain ⟨i, h3, h4⟩ := h.all j h1 τ' σ htd hσ
      exact ⟨i, (hi.mem i).2 (Or.inl h3), h4.ext hx1 hx2⟩
    · rw [List.mem_singleton.1 h1] at htd
      obtain rfl := ht.one htd
      obtain ⟨i, h3, h4⟩ := hbl.all σ hσ
      exact ⟨i, (hi.mem i).2 (Or.inr (by rw [List.take_length]; exact h3)), h4⟩
/-- What behind gives. -/
def BehPost (w : World) (B kr bD : Nat) (cur : Array Value) (E : List Ex) (T : List Tl) (b1 b2 n0 : Nat) (S : List (List Rx)) (b N : Nat) (ll : List Nat) (e : Ending) (w' : World) : Prop :=
  ∃ (ba : Nat) (cur' : Array Value) (E' : List Ex) (F' : List Fa) (T' : List Tl) (p q : Nat) (l : List Nat) (m : Nat) (vA vI : Value), e = .returned (.pointer (some ⟨ba, 0, none⟩)) ∧ BehInv w B kr bD cur E T b1 b2 n0 S ba b ll (N + ll.length) w' cur' E' F' T' p q l m vA vI

set_option maxHeartbeats 2000000 in
set_option maxRecDepth 100000 in
theorem behind_any (w : World) (B kr : Nat) (cur : Array Value) (E : List Ex) (F : List Fa) (T : List Tl) (b1 b2 n0 : Nat) (S : List (List Rx)) (bD N b : Nat) (hR : RdAt w B kr cur E F T b1 b2 n0 S) (hD : DnAt w B cur E T bD N []) (hn : bD ∉ rdBlks kr cur b1 b2) (hB : B ≤ w.heap.size) (hb : b < 256)
    (bl : Nat) (ll : List Nat) (ml : Nat) (vL vJ : Value) (hL : PileAt w B bl ll ml vL vJ) (hoff : ∀ g, g ∈ pileBlks bl vL vJ → g ≠ bD ∧ g ∉ rdBlks kr cur b1 b2) (hlT : ∀ i, i ∈ ll → i < T.length) (hN : N + ll.length ≤ 1000000000000) :
    Calls Try.prog 36 #[.pointer (some ⟨kr, 0, none⟩), .pointer (some ⟨bl, 0, none⟩), .int .u8 b] w (BehPost w B kr bD cur E T b1 b2 n0 S b N ll) := by
  have hst := BehInv.start (b := b) hR hD hn hB
  have hDl := hD.map.lt
  have hal : Below w.heap.size w (w.alloc (.cells #[.slice none 0 0, .slice none 0 0] 84)) := (Below.refl _ _).alloc (Nat.le_refl _) _
  obtain ⟨aL, cL, rfl⟩ := ownsRow_slice hL.all
  have hL0 := (row2 (hL.st.alloc (.cells #[.slice none 0 0, .slice none 0 0] 84))).1
  have hlb := hL.st.lt
  have hll : ll.length ≤ 1000000 := by have := nodup_below hL.nd hL.lt; have := hL.big; omega
  have HI0 := Lib.hid hst
  have HL := Lib.hid (And.intro hL (And.intro hoff hlT))
  have HTD := Lib.hid (fun i (hi : i < T.length) => hR.si.td i hi)
  obtain ⟨n, hnl⟩ : ∃ n, ll.length = n := ⟨_, rfl⟩
  rw [hnl] at hL0 hll hN
  have HNL := Lib.hid hnl
  clear hR hD hn hst hL hoff hlT hnl
  go_enter Try.func36, Try.ntmps36
  go_wp2_with fail
  generalize w.alloc (.cells #[.slice none 0 0, .slice none 0 0] 84) = A at HI0 hL0 hal ⊢
  go_loopw [19] (fun tv wr => ∃ (k : Nat) (cur' : Array Value) (E' : List Ex) (F' : List Fa) (T' : List Tl) (p q : Nat) (l : List Nat) (m : Nat) (vA vI : Value), tv = .int .i64 ((k : Nat) : Int) ∧ k ≤ n ∧ Hid (BehInv w B kr bD cur E T b1 b2 n0 S w.heap.size b (ll.take k) (N + k) wr cur' E' F' T' p q l m vA vI)) (fun tv _ => n - (intOf tv).toNat)
  case atStart => exact ⟨0, cur, E, F, T, b1, b2, [], 0, _, _, rfl, Nat.zero_le _, HI0⟩
  case round =>
    obtain ⟨k, cur', E', F', T', p, q, l, m, vA, vI, rfl, hk, HI⟩ := hrel
    obtain ⟨wo, rfl⟩ : ∃ wo : World, wo = wr := ⟨_, rfl⟩
    by_cases hlt : k < n
    · have hkl : k < ll.length := by have := HNL.out; omega
      have hrowL : wo.ownsRow B 3 1 (.slice aL ll.length cL) ll.length (nums64 ll) := own_kept HL.out.1.all HI.out.fr.kept (by simp) (fun g e hm => by
        simp only [List.mem_cons] at hm
        have := HL.out.2.1 g (mem_pileBlks.2 (Or.inr (Or.inl e)))
        exact hm.elim this.1 this.2)
      obtain ⟨gL, rfl, _, hgL, hc⟩ := ownsRow_read hrowL (by omega)
      have d0 := (hc k (by omega)).1
      have ej : (nums64 ll)[k]? = some (.int .i64 ((ll[k] : Nat) : Int)) := by simp [nums64, List.getElem?_eq_getElem hkl]
      rw [ej] at d0
      obtain ⟨j, hj⟩ : ∃ j, ll[k] = j := ⟨_, rfl⟩
      rw [hj] at d0
      have hjT : j < T.length := HL.out.2.2 j (by rw [← hj]; exact List.getElem_mem _)
      obtain ⟨τ, hτ, hτS⟩ := HTD.out j hjT
      have hBo : B ≤ wo.heap.size := by have := HI.out.fr.below.size; omega
      have HJ := Lib.hid (And.intro hj (And.intro hτ hτS))
      have ik : (k : Int) < (n : Int) := by omega
      have hNk : N + k ≤ 1000000000000 := by omega
      clear hc hrowL ej hj hτ hτS hjT
      go_wp2_with fail
      refine (bone_any wo B kr cur' E' F' T' p q n0 S bD (N + k) (pileBlks w.heap.size vA vI) j b τ HI.out.rp.rd HI.out.dn HI.out.nb hBo hb (HJ.out.2.1.ext HI.out.ee HI.out.et) HJ.out.2.2 hNk HI.out.rp.pl.mem_lt).mono ?_
      rintro e w2 ⟨cur2, E2, F2, T2, p2, q2, v, lv, rfl, hR2, hD2, hn2, hrow2, hbl2, hoff2, hx1, hx2, hz2, hB2, hk2, hs2⟩
      have hin := HI.out.inner hDl hR2 hD2 hrow2 hoff2 hB2 hk2 hs2
      obtain ⟨aV, cV, rfl⟩ := ownsRow_slice hrow2
      obtain ⟨nv, hnv⟩ : ∃ nv, lv.length = nv := ⟨_, rfl⟩
      have hnvl : nv ≤ 1000000 := by have := hbl2.len; omega
      have HIN := Lib.hid hin
      have HB2 := Lib.hid (And.intro hbl2 (And.intro hx1 (And.intro hx2 (And.intro hz2 hn2))))
      have HLT := Lib.hid (fun i (hi : i ∈ lv) => show i < T2.length from by obtain ⟨σ, _, h⟩ := hbl2.of i hi; exact h.lt)
      have hT2 := hR2.si.tlen
      clear hR2 hD2 hn2 hrow2 hbl2 hoff2 hx1 hx2 hz2 hB2 hk2 hs2 hin d0
      rw [hnv]
      have HNV := Lib.hid hnv
      clear hnv
      go_wp2_with fail
      go_loopw [29] (fun tv wr => ∃ (k2 : Nat) (l2 : List Nat) (m2 : Nat) (vA2 vI2 : Value), tv = .int .i64 ((k2 : Nat) : Int) ∧ k2 ≤ nv ∧ Hid (BehIn w B kr bD cur E T b1 b2 n0 S w.heap.size (N + k + 1) cur2 E2 F2 T2 p2 q2 l lv (.slice aV lv.length cV) k2 wr l2 m2 vA2 vI2)) (fun tv _ => nv - (intOf tv).toNat)
      case atStart => exact ⟨0, l, m, vA, vI, rfl, Nat.zero_le _, HIN⟩
      case round =>
        obtain ⟨k2, l2, m2, vA2, vI2, rfl, hk2, HK⟩ := hrel
        by_cases hlt2 : k2 < nv
        · have hkl2 : k2 < lv.length := by have := HNV.out; omega
          obtain ⟨gV, rfl, _, hgV, hc⟩ := ownsRow_read HK.out.row (by omega)
          have d1 := (hc k2 (by omega)).1
          have ej : (nums64 lv)[k2]? = some (.int .i64 ((lv[k2] : Nat) : Int)) := by simp [nums64, List.getElem?_eq_getElem hkl2]
          rw [ej] at d1
          obtain ⟨x, hx⟩ : ∃ x, lv[k2] = x := ⟨_, rfl⟩
          rw [hx] at d1
          have hx6 : x < 1000000 := by have := HLT.out x (by rw [← hx]; exact List.getElem_mem _); omega
          have HXX := Lib.hid hx
          have ik2 : (k2 : Int) < (nv : Int) := by omega
          have hBr := HK.out.fr.below.size
          have hBr' : B ≤ wr.heap.size := by omega
          clear hc ej hx hBr
          go_wp2_with fail
          refine (pile_add wr B w.heap.size l2 m2 vA2 vI2 HK.out.rp.pl hBr' x hx6).mono ?_
          rintro e w3 ⟨l3, m3, vA3, vI3, rfl, hP3, hl3, hF3⟩
          have hst3 := HK.out.step hkl2 hDl hP3 (by rw [HXX.out]; exact hl3) hF3
          have HS3 := Lib.hid hst3
          clear hP3 hl3 hF3 hst3 d1
          go_wp2_with fail
          go_roundw
          case rel => exact ⟨k2 + 1, l3, m3, vA3, vI3, by go_num, by omega, HS3⟩
          case measure => simp [intOf]; omega
        · obtain rfl : k2 = nv := by omega
          have hout : BehInv w B kr bD cur E T b1 b2 n0 S w.heap.size b (ll.take (k + 1)) (N + (k + 1)) wr cur2 E2 F2 T2 p2 q2 l2 m2 vA2 vI2 := by
            have h := HK.out
            rw [← HNV.out] at h
            have := HI.out.outer HJ.out.2.1 HB2.out.1 HB2.out.2.1 HB2.out.2.2.1 HB2.out.2.2.2.1 HB2.out.2.2.2.2 h
            rw [List.take_succ_eq_append_getElem hkl, HJ.out.1]
            exact this
          have HO := Lib.hid hout
          have hk1 : k + 1 ≤ n := by omega
          clear hout
          go_wp2_with fail
          go_roundw
          case rel => exact ⟨k + 1, cur2, E2, F2, T2, p2, q2, l2, m2, vA2, vI2, by go_num, hk1, HO⟩
          case measure => simp [intOf]; omega
    · obtain rfl : k = n := by omega
      go_wp2_with fail
      go_ret
      have h := HI.out
      rw [List.take_of_length_le (by have := HNL.out; omega)] at h
      exact ⟨w.heap.size, cur', E', F', T', p, q, l, m, vA, vI, rfl, by rw [HNL.out]; exact h⟩
end Go.Proofs.Ytkdhdlokilgccaa
