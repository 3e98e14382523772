import Derived.Test.YtkdhdlokilgccaaZDRead0
import Derived.Test.YtkdhdlokilgccaaZDRead2
import Derived.Test.YtkdhdlokilgccaaZDRead4
import Derived.StillTailTactics
import Derived.Deep.QuietTactic
import Derived.BigQuiet
namespace Go.Proofs.Ytkdhdlokilgccaa
open Go.RowKit Go.Maps Go.WideElems Go.ChangeMaps Go.MapKept
set_option linter.unusedVariables false

/-- What remains of an expression behind a byte, ahead of a tail. -/
theorem read_any (t : Rx) : ReadOk t := by
  induction t with
  | leaf p =>
    intro w B kr cur E F T b1 b2 n0 S bp l m vA vI n b rest ρ hRP hB hd hb hr hK
    by_cases hyes : ∃ s, Lan (.leaf p) (b :: s)
    · obtain ⟨x, hx, rfl, h1⟩ := hd.leafE
      have hk : x.p.k = 1 := by
        have := takesZ_cases x.p.k
        obtain ⟨s, hs⟩ := hyes
        rw [lan_leaf] at hs
        split at hs
        · assumption
        · cases hs
      exact read_leaf w B kr cur E F T b1 b2 n0 S bp l m vA vI n b rest ρ _ hRP hB hd hb hr x hx hyes hk rfl
    · exact read_no w B kr cur E F T b1 b2 n0 S bp l m vA vI n b rest ρ _ hRP hB hd hb hr hyes
  | un p a iha =>
    intro w B kr cur E F T b1 b2 n0 S bp l m vA vI n b rest ρ hRP hB hd hb hr hK
    by_cases hyes : ∃ s, Lan (.un p a) (b :: s)
    · obtain ⟨x, hx, rfl, h1, _, _, hda⟩ := hd.unE
      have hk : x.p.k = 6 ∨ (x.p.k = 4 ∨ x.p.k = 5) := by have := takesZ_cases x.p.k; omega
      unfold Kt at hK
      rcases hk with hk | hk
      · rw [if_pos hk] at hK
        exact read_opt w B kr cur E F T b1 b2 n0 S bp l m vA vI n b rest ρ _ hRP hB hd hb hr x hx hyes a iha hda hk hK rfl
      · rw [if_neg (by omega)] at hK
        exact read_rep w B kr cur E F T b1 b2 n0 S bp l m vA vI n b rest ρ _ hRP hB hd hb hr x hx hyes a iha hda hk (fun σ h => hK σ (List.mem_cons_of_mem _ h)) (hK _ (by simp)) rfl
    · exact read_no w B kr cur E F T b1 b2 n0 S bp l m vA vI n b rest ρ _ hRP hB hd hb hr hyes
  | bin p a c iha ihc =>
    intro w B kr cur E F T b1 b2 n0 S bp l m vA vI n b rest ρ hRP hB hd hb hr hK
    by_cases hyes : ∃ s, Lan (.bin p a c) (b :: s)
    · obtain ⟨x, hx, rfl, h1, hda, hdc⟩ := hd.binE
      have hk : x.p.k = 2 ∨ x.p.k = 3 := by have := takesZ_cases x.p.k; omega
      unfold Kt at hK
      rcases hk with hk | hk
      · rw [if_pos hk] at hK
        have hKa : ∀ σ, σ ∈ Kt a (pre c ρ) → σ ∈ S := fun σ h => hK σ (List.mem_cons_of_mem _ (List.mem_append_left _ h))
        have hKc : ∀ σ, σ ∈ Kt c ρ → σ ∈ S := fun σ h => hK σ (List.mem_cons_of_mem _ (List.mem_append_right _ h))
        by_cases hn : Lan a []
        · exact read_cat_null w B kr cur E F T b1 b2 n0 S bp l m vA vI n b rest ρ _ hRP hB hd hb hr x hx hyes a c iha ihc hda hdc hk hKa hKc (hK _ (by simp)) hn rfl
        · exact read_cat_not w B kr cur E F T b1 b2 n0 S bp l m vA vI n b rest ρ _ hRP hB hd hb hr x hx hyes a c iha ihc hda hdc hk hKa hKc (hK _ (by simp)) hn rfl
      · rw [if_neg (by omega)] at hK
        exact read_alt w B kr cur E F T b1 b2 n0 S bp l m vA vI n b rest ρ _ hRP hB hd hb hr x hx hyes a c iha ihc hda hdc hk (fun σ h => hK σ (List.mem_append_left _ h)) (fun σ h => hK σ (List.mem_append_right _ h)) rfl
    · exact read_no w B kr cur E F T b1 b2 n0 S bp l m vA vI n b rest ρ _ hRP hB hd hb hr hyes
end Go.Proofs.Ytkdhdlokilgccaa

namespace Go.Proofs.Ytkdhdlokilgccaa
open Go.RowKit Go.Maps Go.WideElems Go.ChangeMaps Go.MapKept
set_option linter.unusedVariables false

/-- 'v, ok := m[k]', in every world in which the map stands. -/
theorem MapOf.look_all {w : World} {k t e : TypeId} {b n : Nat} {Q : Value → Value → Prop} (h : MapOf w k b n Q) (K : Keyed Try.prog k) (ht : Try.prog.underlying t = some (.map k e)) {z : Value} (hz : ∀ W : World, (zeroValue e).run Try.prog W = .ok z W)
    {key : Value} {kl : Lit} (hkey : keyOf Try.prog k key = some kl) :
    (∃ v, Q key v ∧ ∀ W : World, W.heap[b]? = w.heap[b]? → (Instr.lookup t (.map (some b)) key true).run Try.prog W = .ok (.tuple #[v, .bool true]) W) ∨
      ∀ W : World, W.heap[b]? = w.heap[b]? → (Instr.lookup t (.map (some b)) key true).run Try.prog W = .ok (.tuple #[z, .bool false]) W := by
  obtain ⟨es, clock, hb, F, _, hq⟩ := h
  by_cases hex : ∃ e0, e0 ∈ es.toList ∧ e0.key = key
  · obtain ⟨e0, h0, hk0⟩ := hex
    refine Or.inl ⟨e0.val, by rw [← hk0]; exact hq e0 h0, fun W hW => ?_⟩
    rcases Maps.fit_look true K ht (hz W) (hW.trans hb) F hkey with ⟨_, hn, _⟩ | ⟨e1, _, hm1, hk1, hrun, _⟩
    · exact absurd hk0 (hn e0 h0)
    · rw [show e0 = e1 from one_key F.stamped.2.2 h0 hm1 (hk0.trans hk1.symm)]
      simpa using hrun
  · refine Or.inr fun W hW => ?_
    rcases Maps.fit_look true K ht (hz W) (hW.trans hb) F hkey with ⟨hrun, _, _⟩ | ⟨e1, _, hm1, hk1, _⟩
    · simpa using hrun
    · exact absurd ⟨e1, hm1, hk1⟩ hex
/-- The numbers of what remains of a tail behind a byte. -/
structure BhList (E : List Ex) (T : List Tl) (τ : List Rx) (b : Nat) (l : List Nat) : Prop where
  of : ∀ i, i ∈ l → ∃ σ, Bh τ b σ ∧ TD E T i σ
  all : ∀ σ, Bh τ b σ → ∃ i, i ∈ l ∧ TD E T i σ
  len : l.length ≤ 1000000
theorem BhList.ext {E E' : List Ex} {T T' : List Tl} {τ : List Rx} {b : Nat} {l : List Nat} (h : BhList E T τ b l) (k : Ext E E') (k' : Ext T T') : BhList E' T' τ b l :=
  ⟨fun i hi => (h.of i hi).imp fun σ hσ => ⟨hσ.1, hσ.2.ext k k'⟩, fun σ hσ => (h.all σ hσ).imp fun i hi => ⟨hi.1, hi.2.ext k k'⟩, h.len⟩
/-- What the map of done readings holds; X: blocks in which no row of it lies. -/
def DnQ (w : World) (B : Nat) (E : List Ex) (T : List Tl) (X : List Nat) (key val : Value) : Prop :=
  ∃ (t b : Nat) (τ : List Rx) (l : List Nat), key = .agg #[.int .i64 ((t : Nat) : Int), .int .u8 ((b : Nat) : Int)] ∧ TD E T t τ ∧ w.ownsRow B 3 1 val l.length (nums64 l) ∧ BhList E T τ b l ∧ ∀ g, val.ownBlock = some g → g ∉ X
structure DnAt (w : World) (B : Nat) (cur : Array Value) (E : List Ex) (T : List Tl) (bD N : Nat) (X : List Nat) : Prop where
  cell : cur[5]? = some (.map (some bD))
  map : MapOf w 130 bD N (DnQ w B E T X)
  base : B ≤ bD
theorem DnQ.step {w w' : World} {B : Nat} {E E' : List Ex} {T T' : List Tl} {X X' bs : List Nat} {key val : Value} (h : DnQ w B E T X key val) (k : Kept [] bs w w') (hE : Ext E E') (hT : Ext T T')
    (hb : ∀ g c fz, w.heap[g]? = some (.cells c 3 fz) → g ∉ X → g ∉ bs) (hX : ∀ g, g ∈ X' → g ∈ X ∨ w.heap.size ≤ g) : DnQ w' B E' T' X' key val := by
  obtain ⟨t, b, τ, l, h1, h2, h3, h4, h5⟩ := h
  refine ⟨t, b, τ, l, h1, h2.ext hE hT, own_kept h3 k (by simp) (fun g e => ?_), h4.ext hE hT, fun g e hm => ?_⟩
  · obtain ⟨c, fz, hc⟩ := own_kind h3 g e
    exact hb g c fz hc (h5 g e)
  · rcases hX g hm with h | h
    · exact h5 g e h
    · have := own_lt h3 g e; omega
theorem DnAt.step {w w' : World} {B : Nat} {cur cur' : Array Value} {E E' : List Ex} {T T' : List Tl} {bD N : Nat} {X X' bs : List Nat} (h : DnAt w B cur E T bD N X) (k : Kept [] bs w w') (hc : cur'[5]? = cur[5]?) (hE : Ext E E') (hT : Ext T T') (hD : bD ∉ bs)
    (hb : ∀ g c fz, w.heap[g]? = some (.cells c 3 fz) → g ∉ X → g ∉ bs) (hX : ∀ g, g ∈ X' → g ∈ X ∨ w.heap.size ≤ g) : DnAt w' B cur' E' T' bD N X' :=
  ⟨hc.trans h.cell, (h.map.kept k hD).mono (Nat.le_refl _) (fun _ _ hq => hq.step k hE hT hb hX), h.base⟩
/-- No block of a reader is a row of numbers. -/
theorem RdAt.noint {w : World} {B kr : Nat} {cur : Array Value} {E : List Ex} {F : List Fa} {T : List Tl} {b1 b2 n0 : Nat} {S : List (List Rx)} (h : RdAt w B kr cur E F T b1 b2 n0 S) : ∀ g c fz, w.heap[g]? = some (.cells c 3 fz) → g ∉ rdBlks kr cur b1 b2 := by
  intro g c fz hc hg
  obtain ⟨vE, hvE, hOE⟩ := h.book.num.row
  obtain ⟨vF, hvF, hOF⟩ := h.book.fac
  obtain ⟨vT, hvT, hOT⟩ := h.tails.row
  have hty : ∀ (t : TypeId) (c' : Array Value) (fz' : Nat × Nat), w.heap[g]? = some (.cells c' t fz') → t = 3 := fun t c' fz' h' => by
    rw [hc] at h'
    injection h' with h'
    injection h' with _ h'
    exact h'.symm
  rcases mem_rdBlks.1 hg with e | e | e | e | e | e
  · subst e
    have h1 : w.heap[g]? = _ := h.book.num.st
    exact absurd (hty _ _ _ h1) (by decide)
  · obtain ⟨es, clock, hb, _⟩ := (h.book.num.some_ b1 rfl).2
    rw [← e, hc] at hb
    cases hb
  · obtain ⟨es, clock, hb, _⟩ := (h.tails.some_ b2 rfl).2
    rw [← e, hc] at hb
    cases hb
  · obtain ⟨c', fz', hc'⟩ := own_kind hOE g ((rowBlk_of hvE g).1 e)
    exact absurd (hty _ _ _ hc') (by decide)
  · obtain ⟨c', fz', hc'⟩ := own_kind hOF g ((rowBlk_of hvF g).1 e)
    exact absurd (hty _ _ _ hc') (by decide)
  · obtain ⟨c', fz', hc'⟩ := own_kind hOT g ((rowBlk_of hvT g).1 e)
    exact absurd (hty _ _ _ hc') (by decide)
theorem read_key (t b : Nat) (ht : t ≤ 9223372036854775807) (hb : b < 256) : ∃ kl, keyOf Try.prog 130 (.agg #[.int .i64 ((t : Nat) : Int), .int .u8 ((b : Nat) : Int)]) = some kl :=
  key_reading _ _ (wf64 (by omega)) (by simp [Lit.wf, IntKind.min, IntKind.max, IntKind.bits, IntKind.signed]; omega)
theorem zero_ints (w : World) : (zeroValue 61).run Try.prog w = .ok (.slice none 0 0) w := by kernel_rfl
theorem pile_new (w : World) (B : Nat) (hB : B ≤ w.heap.size) : PileAt (w.alloc (.cells #[.slice none 0 0, .slice none 0 0] 84)) B w.heap.size [] 0 (.slice none 0 0) (.slice none 0 0) :=
  ⟨St.new _ _ _, World.ownsRow_nil _ _ _ _, World.ownsRow_nil _ _ _ _, by simp, by omega, List.nodup_nil, hB⟩
end Go.Proofs.Ytkdhdlokilgccaa

namespace Go.Proofs.Ytkdhdlokilgccaa
open Go.RowKit Go.Maps Go.WideElems Go.ChangeMaps Go.MapKept
set_option linter.unusedVariables false

def BonePost (w : World) (B kr : Nat) (cur : Array Value) (E : List Ex) (T : List Tl) (b1 b2 n0 : Nat) (S : List (List Rx)) (bD N : Nat) (X : List Nat) (τ : List Rx) (b : Nat) (e : Ending) (w' : World) : Prop :=
  ∃ (cur' : Array Value) (E' : List Ex) (F' : List Fa) (T' : List Tl) (b1' b2' : Nat) (val : Value) (l : List Nat), e = .returned val ∧ RdAt w' B kr cur' E' F' T' b1' b2' n0 S ∧ DnAt w' B cur' E' T' bD (N + 1) X ∧ bD ∉ rdBlks kr cur' b1' b2' ∧
    w'.ownsRow B 3 1 val l.length (nums64 l) ∧ BhList E' T' τ b l ∧ (∀ g, val.ownBlock = some g → g ∉ X ∧ g ∉ rdBlks kr cur' b1' b2') ∧ Ext E E' ∧ Ext T T' ∧ cur'.size = cur.size ∧ Below B w w' ∧ Kept [] (bD :: rdBlks kr cur b1 b2) w w' ∧ (∀ g, g ∈ rdBlks kr cur' b1' b2' → g ∈ rdBlks kr cur b1 b2 ∨ w.heap.size ≤ g)
/-- The loop's state: what is found, what is to be read. -/
structure BoneInv (W : World) (B kr bp : Nat) (cur : Array Value) (E : List Ex) (T : List Tl) (b1 b2 n0 : Nat) (S : List (List Rx)) (τ : List Rx) (b : Nat) (wr : World) (tc : Nat) (τc : List Rx) (cur' : Array Value) (E' : List Ex) (F' : List Fa) (T' : List Tl) (p q : Nat) (l : List Nat) (m : Nat) (vA vI : Value) : Prop where
  rp : RP wr B kr cur' E' F' T' p q n0 S bp l m vA vI
  ee : Ext E E'
  et : Ext T T'
  td : TD E' T' tc τc
  mem : τc ∈ S
  of : ∀ i, i ∈ l → ∃ σ, Bh τ b σ ∧ TD E' T' i σ
  all : ∀ σ, Bh τ b σ → (∃ i, i ∈ l ∧ TD E' T' i σ) ∨ Bh τc b σ
  sub : ∀ σ, Bh τc b σ → Bh τ b σ
  oth : ∀ j, 5 ≤ j → cur'[j]? = cur[j]?
  size : cur'.size = cur.size
  fr : CFr B kr bp W cur b1 b2 (.slice none 0 0) (.slice none 0 0) wr cur' p q vA vI

set_option maxHeartbeats 1000000 in
set_option maxRecDepth 100000 in
/-- .. where it has been told already. -/
theorem bone_known (w : World) (B kr : Nat) (cur : Array Value) (E : List Ex) (F : List Fa) (T : List Tl) (b1 b2 n0 : Nat) (S : List (List Rx)) (bD N : Nat) (X : List Nat) (t b : Nat) (τ : List Rx) (hR : RdAt w B kr cur E F T b1 b2 n0 S) (hD : DnAt w B cur E T bD N X) (hn : bD ∉ rdBlks kr cur b1 b2) (hB : B ≤ w.heap.size) (hb : b < 256) (ht : TD E T t τ)
    (val : Value) (hq : DnQ w B E T X (.agg #[.int .i64 ((t : Nat) : Int), .int .u8 ((b : Nat) : Int)]) val)
    (hrun : ∀ W : World, W.heap[bD]? = w.heap[bD]? → (Instr.lookup 117 (.map (some bD)) (.agg #[.int .i64 ((t : Nat) : Int), .int .u8 ((b : Nat) : Int)]) true).run Try.prog W = .ok (.tuple #[val, .bool true]) W) :
    Calls Try.prog 60 #[.pointer (some ⟨kr, 0, none⟩), .agg #[.int .i64 ((t : Nat) : Int), .int .u8 ((b : Nat) : Int)]] w (BonePost w B kr cur E T b1 b2 n0 S bD N X τ b) := by
  have hw := St.new w 130 #[.int .i64 ((t : Nat) : Int), .int .u8 ((b : Nat) : Int)]
  have hst2 := hR.book.num.st.alloc (.cells #[.int .i64 ((t : Nat) : Int), .int .u8 ((b : Nat) : Int)] 130)
  obtain ⟨x0, x1⟩ := row2 hw
  have c1 : (w.alloc (.cells #[.int .i64 ((t : Nat) : Int), .int .u8 ((b : Nat) : Int)] 130)).cell? ⟨kr, 5, none⟩ = some (.map (some bD)) := by rw [hst2.cell, hD.cell]
  have kb0 : Below w.heap.size w (w.alloc (.cells #[.int .i64 ((t : Nat) : Int), .int .u8 ((b : Nat) : Int)] 130)) := (Below.refl _ _).alloc (Nat.le_refl _) _
  have hrunD := hrun (w.alloc (.cells #[.int .i64 ((t : Nat) : Int), .int .u8 ((b : Nat) : Int)] 130)).drew (kb0.block bD hD.map.lt)
  have HD := Lib.hid (And.intro hR (And.intro hD (And.intro hn (And.intro ht hq))))
  have HB := Lib.hid kb0
  clear hR hD hn ht hq hw hst2 hrun kb0
  go_enter Try.func60, Try.ntmps60
  go_wp2_with fail
  generalize w.alloc (.cells #[.int .i64 ((t : Nat) : Int), .int .u8 ((b : Nat) : Int)] 130) = W at x0 x1 c1 HB hrunD ⊢
  go_still (by kernel_rfl)
  go_wp2_with fail
  go_ret
  obtain ⟨hR, hD, hn, ht, hq⟩ := HD.out
  have hbd : Below w.heap.size w W.drew := HB.out.drew
  obtain ⟨t', b', τ', l, hkey, htd, hrow, hbl, hX⟩ := hq
  have e1 : t' = t ∧ b' = b := by
    injection hkey with hkey
    have h1 := congrArg (fun a : Array Value => a[0]?) hkey
    have h2 := congrArg (fun a : Array Value => a[1]?) hkey
    simp at h1 h2
    omega
  obtain ⟨rfl, rfl⟩ := e1
  obtain rfl := htd.one ht
  have hk : Kept [] (bD :: rdBlks kr cur b1 b2) w W.drew := (Kept.refl _ _ _).below hbd
  refine ⟨cur, E, F, T, b1, b2, val, l, rfl, hR.below hbd, ?_, hn, ownsRow_keep hrow hbd, hbl, fun g e => ⟨hX g e, fun hm => ?_⟩, Ext.refl _, Ext.refl _, rfl, hbd.mono hB, hk, fun _ h => Or.inl h⟩
  · have := hD.step (bs := []) (X' := X) ((Kept.refl _ _ _).below hbd) rfl (Ext.refl _) (Ext.refl _) (by simp) (by simp) (fun g h => Or.inl h)
    exact ⟨this.cell, this.map.mono (by omega) (fun _ _ h => h), this.base⟩
  · obtain ⟨c, fz, hc⟩ := own_kind hrow g e
    exact hR.noint g c fz hc hm
end Go.Proofs.Ytkdhdlokilgccaa

namespace Go.Proofs.Ytkdhdlokilgccaa
open Go.RowKit Go.Maps Go.WideElems Go.ChangeMaps Go.MapKept
set_option linter.unusedVariables false

theorem TD.zero {E : List Ex} {T : List Tl} {τ : List Rx} (h : TD E T 0 τ) : τ = [] := by
  cases h with
  | nil _ => rfl
  | cons _ h _ _ _ => omega
theorem TD.consE {E : List Ex} {T : List Tl} {i : Nat} {τ : List Rx} (h : TD E T i τ) (hi : 0 < i) : ∃ (u : Rx) (ρ : List Rx) (h' r : Nat), τ = u :: ρ ∧ T[i]? = some ⟨(h' : Int), (r : Int)⟩ ∧ r < i ∧ Den E h' u ∧ TD E T r ρ := by
  cases h with
  | nil _ => omega
  | cons h0 _ h1 h2 h3 => exact ⟨_, _, _, _, rfl, h0, h1, h2, h3⟩
/-- The state behind one more head that has the empty string. -/
theorem BoneInv.step {W : World} {B kr bp : Nat} {cur : Array Value} {E : List Ex} {T : List Tl} {b1 b2 n0 : Nat} {S : List (List Rx)} {τ : List Rx} {b : Nat} {wr : World} {tc : Nat} {u : Rx} {ρ : List Rx} {cur' : Array Value} {E' : List Ex} {F' : List Fa} {T' : List Tl} {p q : Nat} {l : List Nat} {m : Nat} {vA vI : Value}
    (h : BoneInv W B kr bp cur E T b1 b2 n0 S τ b wr tc (u :: ρ) cur' E' F' T' p q l m vA vI)
    {w1 w2 : World} {cur2 : Array Value} {E2 : List Ex} {F2 : List Fa} {T2 : List Tl} {p2 q2 : Nat} {l2 : List Nat} {m2 : Nat} {vA2 vI2 : Value} (hF1 : CFr B kr bp wr cur' p q vA vI w1 cur' p q vA vI)
    (hRP : RP w2 B kr cur2 E2 F2 T2 p2 q2 n0 S bp l2 m2 vA2 vI2) (hx1 : Ext E' E2) (hx2 : Ext T' T2) (hl : ∀ i, i ∈ l → i ∈ l2) (hA : ∀ i, i ∈ l2 → i ∈ l ∨ ∃ σ, Rd u b ρ σ ∧ TD E2 T2 i σ) (hC : ∀ σ, Rd u b ρ σ → ∃ i, i ∈ l2 ∧ TD E2 T2 i σ) (ho : ∀ j, 5 ≤ j → cur2[j]? = cur'[j]?) (hz : cur2.size = cur'.size) (hF : CFr B kr bp w1 cur' p q vA vI w2 cur2 p2 q2 vA2 vI2)
    (r : Nat) (hr : TD E' T' r ρ) :
    (Lan u [] → BoneInv W B kr bp cur E T b1 b2 n0 S τ b w2 r ρ cur2 E2 F2 T2 p2 q2 l2 m2 vA2 vI2) ∧
    (¬ Lan u [] → (∀ i, i ∈ l2 → ∃ σ, Bh τ b σ ∧ TD E2 T2 i σ) ∧ (∀ σ, Bh τ b σ → ∃ i, i ∈ l2 ∧ TD E2 T2 i σ)) := by
  have hOf : ∀ i, i ∈ l2 → ∃ σ, Bh τ b σ ∧ TD E2 T2 i σ := fun i hi => by
    rcases hA i hi with h1 | ⟨σ, h1, h2⟩
    · obtain ⟨σ, h3, h4⟩ := h.of i h1
      exact ⟨σ, h3, h4.ext hx1 hx2⟩
    · exact ⟨σ, h.sub σ (Or.inl h1), h2⟩
  refine ⟨fun hn => ⟨hRP, h.ee.trans hx1, h.et.trans hx2, hr.ext hx1 hx2, hRP.rd.si.cl.tail u ρ h.mem, hOf, fun σ hσ => ?_, fun σ hσ => h.sub σ (Or.inr ⟨hn, hσ⟩), fun j hj => (ho j hj).trans (h.oth j hj), hz.trans h.size, (h.fr.trans hF1).trans hF⟩, fun hn => ⟨hOf, fun σ hσ => ?_⟩⟩
  · rcases h.all σ hσ with ⟨i, h1, h2⟩ | h1 | ⟨_, h1⟩
    · exact Or.inl ⟨i, hl i h1, h2.ext hx1 hx2⟩
    · exact Or.inl (hC σ h1)
    · exact Or.inr h1
  · rcases h.all σ hσ with ⟨i, h1, h2⟩ | h1 | ⟨h1, _⟩
    · exact ⟨i, hl i h1, h2.ext hx1 hx2⟩
    · exact hC σ h1
    · exact absurd h1 hn

/-- What is known behind the loop. -/
structure BoneEnd (w A : World) (B kr bp : Nat) (cur : Array Value) (E : List Ex) (T : List Tl) (b1 b2 n0 : Nat) (S : List (List Rx)) (τ : List Rx) (b : Nat) (V : World) (cur' : Array Value) (E' : List Ex) (F' : List Fa) (T' : List Tl) (p q : Nat) (l : List Nat) (m : Nat) (vA vI : Value) : Prop where
  rp : RP V B kr cur' E' F' T' p q n0 S bp l m vA vI
  ee : Ext E E'
  et : Ext T T'
  of : ∀ i, i ∈ l → ∃ σ, Bh τ b σ ∧ TD E' T' i σ
  all : ∀ σ, Bh τ b σ → ∃ i, i ∈ l ∧ TD E' T' i σ
  oth : ∀ j, 5 ≤ j → cur'[j]? = cur[j]?
  size : cur'.size = cur.size
  fr : CFr B kr bp A cur b1 b2 (.slice none 0 0) (.slice none 0 0) V cur' p q vA vI
theorem BoneEnd.drew {w A : World} {B kr bp : Nat} {cur : Array Value} {E : List Ex} {T : List Tl} {b1 b2 n0 : Nat} {S : List (List Rx)} {τ : List Rx} {b : Nat} {V : World} {cur' : Array Value} {E' : List Ex} {F' : List Fa} {T' : List Tl} {p q : Nat} {l : List Nat} {m : Nat} {vA vI : Value}
    (h : BoneEnd w A B kr bp cur E T b1 b2 n0 S τ b V cur' E' F' T' p q l m vA vI) (hB : B ≤ V.heap.size) {V' : World} (k : Below V.heap.size V V') : BoneEnd w A B kr bp cur E T b1 b2 n0 S τ b V' cur' E' F' T' p q l m vA vI :=
  ⟨h.rp.below k, h.ee, h.et, h.of, h.all, h.oth, h.size, h.fr.trans (CFr.of_below _ _ _ _ _ k hB)⟩
/-- The rows that are done, behind the loop; and the new one. -/
theorem BoneEnd.done {w A : World} {B kr bp : Nat} {cur : Array Value} {E : List Ex} {F : List Fa} {T : List Tl} {b1 b2 n0 : Nat} {S : List (List Rx)} {τ : List Rx} {t b : Nat} {V : World} {cur' : Array Value} {E' : List Ex} {F' : List Fa} {T' : List Tl} {p q : Nat} {l : List Nat} {m : Nat} {vA vI : Value} {bD N : Nat} {X : List Nat}
    (h : BoneEnd w A B kr bp cur E T b1 b2 n0 S τ b V cur' E' F' T' p q l m vA vI) (hR : RdAt w B kr cur E F T b1 b2 n0 S) (hD : DnAt w B cur E T bD N X) (hn : bD ∉ rdBlks kr cur b1 b2) (ht : TD E T t τ) (hX : ∀ g, g ∈ X → g < w.heap.size) (hA : Below w.heap.size w A) (hbp : w.heap.size ≤ bp) :
    Kept [] (rdBlks kr cur b1 b2) w V ∧ DnAt V B cur' E' T' bD N X ∧ bD ∉ rdBlks kr cur' p q ∧ DnQ V B E' T' X (.agg #[.int .i64 ((t : Nat) : Int), .int .u8 ((b : Nat) : Int)]) vA ∧ (∀ g, g ∈ rdBlks kr cur' p q → g ∈ rdBlks kr cur b1 b2 ∨ w.heap.size ≤ g) ∧ bp ≠ bD := by
  have hDl := hD.map.lt
  have hAs := hA.size
  have hk : Kept [] (rdBlks kr cur b1 b2) w V := fun i o hi ho hb => by
    have hlt := (Array.getElem?_eq_some_iff.1 hi).1
    refine h.fr.kept i o ((hA.block i hlt).trans hi) ho (fun hm => ?_)
    rcases List.mem_append.1 hm with hm | hm
    · exact hb hm
    · have : i = bp := by simpa [pileBlks, Value.ownBlock] using hm
      omega
  have hsub : ∀ g, g ∈ rdBlks kr cur' p q → g ∈ rdBlks kr cur b1 b2 ∨ w.heap.size ≤ g := fun g hg => (h.fr.subR g hg).imp id (fun e => by omega)
  refine ⟨hk, hD.step hk (h.oth 5 (by decide)) h.ee h.et hn (fun g c fz hc _ => hR.noint g c fz hc) (fun g hg => Or.inl hg), fun hm => ?_, ⟨t, b, τ, l, rfl, ht.ext h.ee h.et, h.rp.pl.all, ⟨h.of, h.all, ?_⟩, fun g e hg => ?_⟩, hsub, by omega⟩
  · rcases hsub bD hm with h1 | h1
    · exact hn h1
    · omega
  · have := nodup_below h.rp.pl.nd h.rp.pl.lt
    have := h.rp.pl.big
    omega
  · have h1 := hX g hg
    rcases h.fr.subP g (mem_pileBlks.2 (Or.inr (Or.inl e))) with h2 | h2
    · have : g = bp := by simpa [pileBlks, Value.ownBlock] using h2
      omega
    · omega
/-- .. and behind the store. -/
theorem BoneEnd.fin {w A : World} {B kr bp : Nat} {cur : Array Value} {E : List Ex} {F : List Fa} {T : List Tl} {b1 b2 n0 : Nat} {S : List (List Rx)} {τ : List Rx} {t b : Nat} {V : World} {cur' : Array Value} {E' : List Ex} {F' : List Fa} {T' : List Tl} {p q : Nat} {l : List Nat} {m : Nat} {vA vI : Value} {bD N : Nat} {X : List Nat}
    (h : BoneEnd w A B kr bp cur E T b1 b2 n0 S τ b V cur' E' F' T' p q l m vA vI) (hR : RdAt w B kr cur E F T b1 b2 n0 S) (hD : DnAt w B cur E T bD N X) (hn : bD ∉ rdBlks kr cur b1 b2) (ht : TD E T t τ) (hX : ∀ g, g ∈ X → g < w.heap.size) (hA : Below w.heap.size w A) (hB : B ≤ w.heap.size) (hbp : w.heap.size ≤ bp)
    {w9 : World} (hM : MapOf w9 130 bD (N + 1) (DnQ V B E' T' X)) (hg : V.grownBy w9 (some bD)) {e : Ending} (he : e = .returned vA) : BonePost w B kr cur E T b1 b2 n0 S bD N X τ b e w9 ∧ St w9 84 bp #[vA, vI] := by
  obtain ⟨hk, hDV, hnV, hq, hsub, hne⟩ := h.done hR hD hn ht hX hA hbp
  have hkg := kept_row hg
  have hmap : ∀ g c tt fz, V.heap[g]? = some (.cells c tt fz) → g ∉ (some bD).toList := fun g c tt fz hc hm => by
    obtain ⟨es, clock, hb, _⟩ := hDV.map
    have e1 : g = bD := by simpa using hm
    rw [← e1, hc] at hb
    cases hb
  obtain ⟨t', b', τ', l', hkey, htd, hrow, hbl, hXr⟩ := hq
  have hAs := hA.size
  have hVs := h.fr.below.size
  refine ⟨⟨cur', E', F', T', p, q, vA, l, he, h.rp.rd.kept hkg (fun g hg hm => by
      have e1 : g = bD := by simpa using hm
      exact hnV (e1 ▸ hg)), ⟨hDV.cell, hM.mono (Nat.le_refl _) (fun _ _ hq => hq.step hkg (Ext.refl _) (Ext.refl _) (fun g c fz hc _ => hmap g c _ fz hc) (fun g h => Or.inl h)), hDV.base⟩, hnV, own_kept h.rp.pl.all hkg (by simp) (fun g e => ?_), ⟨h.of, h.all, ?_⟩, fun g e => ⟨hXr g e, fun hm => ?_⟩, h.ee, h.et, h.size, ?_, ?_, hsub⟩, h.rp.pl.st.kept hkg (by simp) (by simpa using hne)⟩
  · obtain ⟨c, fz, hc⟩ := own_kind h.rp.pl.all g e
    exact hmap g c _ fz hc
  · have := nodup_below h.rp.pl.nd h.rp.pl.lt
    have := h.rp.pl.big
    omega
  · obtain ⟨c, fz, hc⟩ := own_kind h.rp.pl.all g e
    exact h.rp.rd.noint g c fz hc hm
  · exact ((hA.mono hB).trans h.fr.below).grown hg (by omega) (fun g e => by injection e with e; rw [← e]; exact hD.base)
  · exact (hk.mono (fun _ h => h) (fun g hg => List.mem_cons_of_mem _ hg)).grown hg (fun g e => Or.inl (by injection e with e; rw [e]; simp))

set_option maxHeartbeats 2000000 in
set_option maxRecDepth 100000 in
/-- .. where it has not. -/
theorem bone_new (w : World) (B kr : Nat) (cur : Array Value) (E : List Ex) (F : List Fa) (T : List Tl) (b1 b2 n0 : Nat) (S : List (List Rx)) (bD N : Nat) (X : List Nat) (t b : Nat) (τ : List Rx) (hR : RdAt w B kr cur E F T b1 b2 n0 S) (hD : DnAt w B cur E T bD N X) (hn : bD ∉ rdBlks kr cur b1 b2) (hB : B ≤ w.heap.size) (hb : b < 256) (ht : TD E T t τ) (hS : τ ∈ S) (hN : N ≤ 1000000000000) (hXl : ∀ g, g ∈ X → g < w.heap.size)
    (hrun : ∀ W : World, W.heap[bD]? = w.heap[bD]? → (Instr.lookup 117 (.map (some bD)) (.agg #[.int .i64 ((t : Nat) : Int), .int .u8 ((b : Nat) : Int)]) true).run Try.prog W = .ok (.tuple #[.slice none 0 0, .bool false]) W) :
    Calls Try.prog 60 #[.pointer (some ⟨kr, 0, none⟩), .agg #[.int .i64 ((t : Nat) : Int), .int .u8 ((b : Nat) : Int)]] w (BonePost w B kr cur E T b1 b2 n0 S bD N X τ b) := by
  have htl := ht.lt
  have hTl := hR.si.tlen
  obtain ⟨kl, hkl⟩ := read_key t b (by omega) hb
  have hw := St.new w 130 #[.int .i64 ((t : Nat) : Int), .int .u8 ((b : Nat) : Int)]
  have hst2 := hR.book.num.st.alloc (.cells #[.int .i64 ((t : Nat) : Int), .int .u8 ((b : Nat) : Int)] 130)
  obtain ⟨x0, x1⟩ := row2 hw
  have c1 : (w.alloc (.cells #[.int .i64 ((t : Nat) : Int), .int .u8 ((b : Nat) : Int)] 130)).cell? ⟨kr, 5, none⟩ = some (.map (some bD)) := by rw [hst2.cell, hD.cell]
  have kb0 : Below w.heap.size w (w.alloc (.cells #[.int .i64 ((t : Nat) : Int), .int .u8 ((b : Nat) : Int)] 130)) := (Below.refl _ _).alloc (Nat.le_refl _) _
  have hrunD := hrun (w.alloc (.cells #[.int .i64 ((t : Nat) : Int), .int .u8 ((b : Nat) : Int)] 130)).drew (kb0.block bD hD.map.lt)
  have hsW : (w.alloc (.cells #[.int .i64 ((t : Nat) : Int), .int .u8 ((b : Nat) : Int)] 130)).heap.size = w.heap.size + 1 := by simp
  have HD := Lib.hid (And.intro hR (And.intro hD (And.intro hn (And.intro ht (And.intro hS hXl)))))
  have HB := Lib.hid kb0
  have HW := Lib.hid hw
  have HKL := Lib.hid hkl
  clear hR hD hn ht hw hst2 hrun kb0 hS hXl hkl htl hTl
  go_enter Try.func60, Try.ntmps60
  go_wp2_with fail
  generalize w.alloc (.cells #[.int .i64 ((t : Nat) : Int), .int .u8 ((b : Nat) : Int)] 130) = W at x0 x1 c1 HB hrunD HW hsW ⊢
  go_still (by kernel_rfl)
  have hsize : W.heap.size = w.heap.size + 1 := hsW
  have HSZ := Lib.hid hsize
  clear hsW hsize hrunD c1 x0 x1
  have hsW : W.heap.size = w.heap.size + 1 := HSZ.out
  have hB1 : B ≤ W.heap.size := by omega
  have hP : PileAt ((W.alloc (.cells #[.slice none 0 0, .slice none 0 0] 84)).drew) B W.heap.size [] 0 (.slice none 0 0) (.slice none 0 0) := pile_new W.drew B hB1
  have hbp : Below w.heap.size w ((W.alloc (.cells #[.slice none 0 0, .slice none 0 0] 84)).drew) := (HB.out.alloc (by omega) _).drew
  have hBox : St ((W.alloc (.cells #[.slice none 0 0, .slice none 0 0] 84)).drew) 130 w.heap.size #[.int .i64 ((t : Nat) : Int), .int .u8 ((b : Nat) : Int)] := St.drew (HW.out.alloc _)
  have hRP : RP ((W.alloc (.cells #[.slice none 0 0, .slice none 0 0] 84)).drew) B kr cur E F T b1 b2 n0 S W.heap.size [] 0 (.slice none 0 0) (.slice none 0 0) :=
    ⟨HD.out.1.below hbp, hP, fun g hg hm => by
      have h1 := HD.out.1.lt g hm
      have h2 : g = W.heap.size := by simpa [pileBlks, Value.ownBlock] using hg
      omega⟩
  have hinv : BoneInv ((W.alloc (.cells #[.slice none 0 0, .slice none 0 0] 84)).drew) B kr W.heap.size cur E T b1 b2 n0 S τ b ((W.alloc (.cells #[.slice none 0 0, .slice none 0 0] 84)).drew) t τ cur E F T b1 b2 [] 0 (.slice none 0 0) (.slice none 0 0) :=
    ⟨hRP, Ext.refl _, Ext.refl _, HD.out.2.2.2.1, HD.out.2.2.2.2.1, by simp, fun σ h => Or.inr h, fun σ h => h, fun _ _ => rfl, rfl, ⟨Below.refl _ _, Kept.refl _ _ _, fun _ h => Or.inl h, fun _ h => Or.inl h⟩⟩
  have HI0 := Lib.hid hinv
  have HBP := Lib.hid (And.intro hbp hBox)
  obtain ⟨bp, hbpe⟩ : ∃ bp, W.heap.size = bp := ⟨_, rfl⟩
  have hbps : bp < ((W.alloc (.cells #[.slice none 0 0, .slice none 0 0] 84)).drew).heap.size := by rw [← hbpe]; show W.heap.size < (W.alloc _).heap.size; simp
  have hB2 : B ≤ ((W.alloc (.cells #[.slice none 0 0, .slice none 0 0] 84)).drew).heap.size := by omega
  rw [hbpe] at HI0
  obtain ⟨x0, x1⟩ := row2 hBox
  have HBE := Lib.hid hbpe
  have hbpw : bp = w.heap.size + 1 := by omega
  have HBW := Lib.hid hbpw
  clear hsW hB1 hP hbp hBox hRP hinv hbpw
  go_wp2_with fail
  have hAs : w.heap.size ≤ ((W.alloc (.cells #[.slice none 0 0, .slice none 0 0] 84)).drew).heap.size := by show w.heap.size ≤ (W.alloc _).heap.size; simp; have := HSZ.out; omega
  have HAS := Lib.hid hAs
  have hbw : w.heap.size ≤ bp := by have := HBW.out; omega
  clear x0 x1 hAs
  generalize ((W.alloc (.cells #[.slice none 0 0, .slice none 0 0] 84)).drew) = A at HI0 HBP HAS hbps hB2 ⊢
  go_loopw [8] (fun tv wr => ∃ (tc : Nat) (τc : List Rx) (cur' : Array Value) (E' : List Ex) (F' : List Fa) (T' : List Tl) (p q : Nat) (l : List Nat) (m : Nat) (vA vI : Value), tv = .int .i64 ((tc : Nat) : Int) ∧ Hid (BoneInv A B kr bp cur E T b1 b2 n0 S τ b wr tc τc cur' E' F' T' p q l m vA vI)) (fun tv _ => (intOf tv).toNat)
  case atStart => exact ⟨t, τ, cur, E, F, T, b1, b2, [], 0, _, _, rfl, HI0⟩
  case round =>
    obtain ⟨tc, τc, cur', E', F', T', p, q, l, m, vA, vI, rfl, HI⟩ := hrel
    by_cases htc : tc = 0
    · subst htc
      have e0 := HI.out.td.zero
      subst e0
      have HE := Lib.hid (show BoneEnd w A B kr bp cur E T b1 b2 n0 S τ b wr cur' E' F' T' p q l m vA vI from ⟨HI.out.rp, HI.out.ee, HI.out.et, HI.out.of, fun σ hσ => (HI.out.all σ hσ).elim id (fun h => h.elim), HI.out.oth, HI.out.size, HI.out.fr⟩)
      have hBV : B ≤ wr.heap.size := by have := HE.out.fr.below.size; have := HAS.out; omega
      have hE2 := HE.out.drew hBV (Below.refl _ _).drew
      obtain ⟨hk, hDV, hnV, hq, hsub, hne⟩ := hE2.done HD.out.1 HD.out.2.1 HD.out.2.2.1 HD.out.2.2.2.1 HD.out.2.2.2.2.2 HBP.out.1 hbw
      have d5 : wr.cell? ⟨kr, 5, none⟩ = some (.map (some bD)) := by rw [HE.out.rp.rd.book.num.st.cell, HE.out.oth 5 (by decide)]; exact HD.out.2.1.cell
      have hnr : w.heap.size ∉ rdBlks kr cur b1 b2 := fun hm => by have := HD.out.1.lt _ hm; omega
      have hnp : w.heap.size ∉ pileBlks bp (.slice none 0 0) (.slice none 0 0) := fun hm => by
        have : w.heap.size = bp := by simpa [pileBlks, Value.ownBlock] using hm
        have := HBW.out
        omega
      have hBx := HE.out.fr.st HBP.out.2 hnr hnp
      obtain ⟨x0, x1⟩ := row2 hBx
      obtain ⟨p0, p1⟩ := row2 HE.out.rp.pl.st
      have hM := hDV.map
      have HE2 := Lib.hid hE2
      have HQ := Lib.hid hq
      have hkl := HKL.out
      clear hk hDV hnV hq hsub hne hnr hnp hBx hE2
      go_wp2_with fail
      go_still_tail 7, (by kernel_rfl)
      change wpList _ _ _ _ _ wr.drew
      go_wp2_with (at_mapUpdate; refine wpList_store_any _ rfl _ _ _ 117 rfl 130 61 law_reading Try.underlying117 bD N (DnQ wr.drew B E' T' X) (DnQ wr.drew B E' T' X) rfl hM (by unfold maxLen; omega) _ _ kl rfl rfl hkl (fun _ _ h _ => h) HQ.out ?_)
      intro w9 hM9 hg9
      obtain ⟨hpost, hS9⟩ := HE2.out.fin HD.out.1 HD.out.2.1 HD.out.2.2.1 HD.out.2.2.2.1 HD.out.2.2.2.2.2 HBP.out.1 hB hbw hM9 hg9 rfl
      obtain ⟨s0, s1⟩ := row2 hS9
      have HPO := Lib.hid hpost
      clear hpost hM hS9 hM9 hg9 x0 x1 p0 p1 d5 hkl
      go_wp2_with fail
      go_ret
      exact HPO.out
    · obtain ⟨u, ρ, h', r, rfl, hTt, hrt, hdu, hdr⟩ := HI.out.td.consE (by omega)
      obtain ⟨gT, cT, c3, hgT, hnT, hT4, hcT1, hcT2, hy⟩ := HI.out.rp.rd.at_tail hTt
      have y0 := hy 0 (by decide)
      have y1 := hy 1 (by decide)
      simp only [tlCells, List.getElem?_cons_zero, List.getElem?_cons_succ, Nat.add_zero] at y0 y1
      obtain ⟨nT, hnT'⟩ : ∃ nT, T'.length = nT := ⟨_, rfl⟩
      rw [hnT'] at c3 hnT hT4 hcT1
      have hkb : kr < wr.heap.size := HI.out.rp.rd.book.num.st.lt
      have iT : (tc : Int) < (nT : Int) := by omega
      unfold maxLen at hcT2
      have i0 : ((tc : Int) != 0) = true := by simp; omega
      have i1 : ((tc : Int) == 0) = false := by simp; omega
      have hnr : w.heap.size ∉ rdBlks kr cur b1 b2 := fun hm => by have := HD.out.1.lt _ hm; omega
      have hnp : w.heap.size ∉ pileBlks bp (.slice none 0 0) (.slice none 0 0) := fun hm => by
        have : w.heap.size = bp := by simpa [pileBlks, Value.ownBlock] using hm
        have := HBW.out
        omega
      have hBx := HI.out.fr.st HBP.out.2 hnr hnp
      have hBwr : B ≤ wr.heap.size := by have := HI.out.fr.below.size; have := HAS.out; omega
      have hal : Below wr.heap.size wr ((wr.alloc (.cells #[.int .i64 ((h' : Nat) : Int), .int .i64 ((r : Nat) : Int)] 126))) := (Below.refl _ _).alloc (Nat.le_refl _) _
      have hBx1 := hBx.alloc (.cells #[.int .i64 ((h' : Nat) : Int), .int .i64 ((r : Nat) : Int)] 126)
      have hTx1 := St.new wr 126 #[.int .i64 ((h' : Nat) : Int), .int .i64 ((r : Nat) : Int)]
      have hRP1 := HI.out.rp.below hal
      have hF1 : CFr B kr bp wr cur' p q vA vI ((wr.alloc (.cells #[.int .i64 ((h' : Nat) : Int), .int .i64 ((r : Nat) : Int)] 126))) cur' p q vA vI := CFr.of_below _ _ _ _ _ hal hBwr
      have hB1 : B ≤ ((wr.alloc (.cells #[.int .i64 ((h' : Nat) : Int), .int .i64 ((r : Nat) : Int)] 126))).heap.size := by have := hal.size; omega
      have hxr : wr.heap.size ∉ rdBlks kr cur' p q := fun hm => by have := HI.out.rp.rd.lt _ hm; omega
      have hxp : wr.heap.size ∉ pileBlks bp vA vI := fun hm => by have := HI.out.rp.pl.mem_lt _ hm; omega
      have hxw : w.heap.size < wr.heap.size := by have := HI.out.fr.below.size; have := HBW.out; omega
      have HX1 := Lib.hid (And.intro hRP1 (And.intro hF1 (And.intro hBx1 (And.intro hTx1 (And.intro hxr hxp)))))
      have hKu : ∀ σ, σ ∈ Kt u ρ → σ ∈ S := fun σ hσ => HI.out.rp.rd.si.cl.read _ HI.out.mem σ (List.mem_append_left _ hσ)
      have HU := Lib.hid (And.intro hKu (And.intro hdu (And.intro hdr hTt)))
      clear hy hnT' hnr hnp hBx hal hRP1 hF1 hBx1 hTx1 hxr hxp hKu hdu hdr hTt
      go_upto_region 8 with (fail)
      clear c3 y0 y1
      generalize ((wr.alloc (.cells #[.int .i64 ((h' : Nat) : Int), .int .i64 ((r : Nat) : Int)] 126))) = W1 at HX1 hB1 ⊢
      obtain ⟨x0, x1⟩ := row2 HX1.out.2.2.1
      obtain ⟨t0, t1⟩ := row2 HX1.out.2.2.2.1
      go_wp2_with fail
      refine (read_any u W1 B kr cur' E' F' T' p q n0 S bp l m vA vI h' b r ρ HX1.out.1 hB1 HU.out.2.1 hb HU.out.2.2.1 HU.out.1).mono ?_
      rintro e2 V2 ⟨cur2, E2, F2, T2, p2, q2, l2, m2, vA2, vI2, rfl, hRP2, hx1, hx2, hl2, hA2, hC2, ho2, hz2, hF2⟩
      have hst := HI.out.step HX1.out.2.1 hRP2 hx1 hx2 hl2 hA2 hC2 ho2 hz2 hF2 r HU.out.2.2.1
      have hT2 := hF2.st HX1.out.2.2.2.1 HX1.out.2.2.2.2.1 HX1.out.2.2.2.2.2
      have hB2' : B ≤ V2.heap.size := by have := hF2.below.size; omega
      obtain ⟨gF, cF, f, c2, hgF, hnF, hF8, hcF1, hcF2, hfo, hz⟩ := hRP2.rd.fact (HU.out.2.1.ext hx1)
      have z0 := hz 0 (by decide)
      simp only [faCells, List.getElem?_cons_zero, Nat.add_zero] at z0
      obtain ⟨nF, hnF'⟩ : ∃ nF, F2.length = nF := ⟨_, rfl⟩
      rw [hnF'] at c2 hnF hF8 hcF1
      have hkb2 : kr < V2.heap.size := hRP2.rd.book.num.st.lt
      have iF : (h' : Int) < (nF : Int) := by omega
      have iF0 : (0 : Int) ≤ (h' : Int) := by omega
      unfold maxLen at hcF2
      have hEnd : ¬ Lan u [] → BoneEnd w A B kr bp cur E T b1 b2 n0 S τ b V2 cur2 E2 F2 T2 p2 q2 l2 m2 vA2 vI2 := fun hn => ⟨hRP2, HI.out.ee.trans hx1, HI.out.et.trans hx2, (hst.2 hn).1, (hst.2 hn).2, fun j hj => (ho2 j hj).trans (HI.out.oth j hj), hz2.trans HI.out.size, (HI.out.fr.trans HX1.out.2.1).trans hF2⟩
      have HS := Lib.hid (And.intro hst.1 (And.intro hEnd hfo))
      have HT2 := Lib.hid hT2
      clear hst hRP2 hx1 hx2 hl2 hA2 hC2 ho2 hz2 hF2 hz hnF' hfo hEnd x0 x1 t0 t1
      obtain ⟨t0, t1⟩ := row2 hT2
      clear hT2
      by_cases hnul : Lan u []
      · have hfe : f.e = true := HS.out.2.2.1.2 hnul
        rw [hfe] at z0
        have HI2 := Lib.hid (HS.out.1 hnul)
        clear hfe hnul
        go_wp2_with fail
        go_quiet (fail)
        rename_i nq
        have hI3 : BoneInv A B kr bp cur E T b1 b2 n0 S τ b (V2.drewN nq) r ρ cur2 E2 F2 T2 p2 q2 l2 m2 vA2 vI2 := by
          have h := HI2.out
          exact ⟨h.rp.below (below_drewN _ _), h.ee, h.et, h.td, h.mem, h.of, h.all, h.sub, h.oth, h.size, h.fr.trans (CFr.of_below _ _ _ _ _ (below_drewN _ _) hB2')⟩
        have HI3 := Lib.hid hI3
        clear hI3
        go_wp2_with fail
        go_roundw
        case rel => exact ⟨r, ρ, cur2, E2, F2, T2, p2, q2, l2, m2, vA2, vI2, by go_num, HI3⟩
        case measure => simp [intOf]; omega
      · have hfe : f.e = false := by
          cases h : f.e with
          | false => rfl
          | true => exact absurd (HS.out.2.2.1.1 h) hnul
        rw [hfe] at z0
        have hE0 := HS.out.2.1 hnul
        clear hfe hnul
        have HE0 := Lib.hid hE0
        clear hE0
        go_wp2_with fail
        go_quiet (fail)
        rename_i nq
        have HE := Lib.hid (HE0.out.drew hB2' (below_drewN V2 nq))
        clear t0 t1 c2 z0
        generalize V2.drewN nq = V at HE ⊢
        have hBV : B ≤ V.heap.size := by have := HE.out.fr.below.size; have := HAS.out; omega
        have hE2 := HE.out.drew hBV (Below.refl _ _).drew
        obtain ⟨hk, hDV, hnV, hq, hsub, hne⟩ := hE2.done HD.out.1 HD.out.2.1 HD.out.2.2.1 HD.out.2.2.2.1 HD.out.2.2.2.2.2 HBP.out.1 hbw
        have d5 : V.cell? ⟨kr, 5, none⟩ = some (.map (some bD)) := by rw [HE.out.rp.rd.book.num.st.cell, HE.out.oth 5 (by decide)]; exact HD.out.2.1.cell
        have hnr : w.heap.size ∉ rdBlks kr cur b1 b2 := fun hm => by have := HD.out.1.lt _ hm; omega
        have hnp : w.heap.size ∉ pileBlks bp (.slice none 0 0) (.slice none 0 0) := fun hm => by
          have : w.heap.size = bp := by simpa [pileBlks, Value.ownBlock] using hm
          have := HBW.out
          omega
        have hBx := HE.out.fr.st HBP.out.2 hnr hnp
        obtain ⟨x0, x1⟩ := row2 hBx
        obtain ⟨p0, p1⟩ := row2 HE.out.rp.pl.st
        have hM := hDV.map
        have HE2 := Lib.hid hE2
        have HQ := Lib.hid hq
        have hkl := HKL.out
        clear hk hDV hnV hq hsub hne hnr hnp hBx hE2
        go_wp2_with fail
        go_still_tail 7, (by kernel_rfl)
        change wpList _ _ _ _ _ V.drew
        go_wp2_with (at_mapUpdate; refine wpList_store_any _ rfl _ _ _ 117 rfl 130 61 law_reading Try.underlying117 bD N (DnQ V.drew B E2 T2 X) (DnQ V.drew B E2 T2 X) rfl hM (by unfold maxLen; omega) _ _ kl rfl rfl hkl (fun _ _ h _ => h) HQ.out ?_)
        intro w9 hM9 hg9
        obtain ⟨hpost, hS9⟩ := HE2.out.fin HD.out.1 HD.out.2.1 HD.out.2.2.1 HD.out.2.2.2.1 HD.out.2.2.2.2.2 HBP.out.1 hB hbw hM9 hg9 rfl
        obtain ⟨s0, s1⟩ := row2 hS9
        have HPO := Lib.hid hpost
        clear hpost hM hS9 hM9 hg9 x0 x1 p0 p1 d5 hkl
        go_wp2_with fail
        go_ret
        exact HPO.out
end Go.Proofs.Ytkdhdlokilgccaa
