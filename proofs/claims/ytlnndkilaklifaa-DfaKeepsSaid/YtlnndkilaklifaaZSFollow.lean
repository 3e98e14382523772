import Derived.Test.YtlnndkilaklifaaZHolders
import Derived.Test.YtlnndkilaklifaaZNByte
namespace Go.Proofs.Ytlnndkilaklifaa
open Go.RowKit Go.Maps Go.WideElems Go.ChangeMaps Go.MapKept
set_option linter.unusedVariables false
set_option linter.unusedSimpArgs false

/-- A maker that gathers a set. V is the world in which that began, bs the blocks that may change; P tells which states are in it, l lists them. cs: the maker's cells, but the list. -/
structure MkR (V : World) (B : Nat) (bs : List Nat) (bm gI m : Nat) (cs : Array Value) (P : Nat → Bool) (l : List Nat) (vL : Value) (wr : World) : Prop where
  kept : Kept [] bs V wr
  below : Below B V wr
  sm : St wr 93 bm (cs.setIfInBounds 262 vL)
  sz : cs.size = 263
  cI : cs[261]? = some (.slice (some ⟨gI, 0, none⟩) m m)
  inn : wr.ownsRow B 5 1 (.slice (some ⟨gI, 0, none⟩) m m) m (u8s (rowL P m))
  lst : wr.ownsRow B 3 1 vL l.length (nums64 l)
  loc : ∀ b, vL.ownBlock = some b → b ∈ bs ∨ V.heap.size ≤ b
  inb : bm ∈ bs ∧ gI ∈ bs
  lo : B ≤ bm ∧ B ≤ gI ∧ B ≤ V.heap.size
theorem MkR.keep {V wr w1 : World} {B bm gI m : Nat} {bs : List Nat} {cs : Array Value} {P : Nat → Bool} {l : List Nat} {vL : Value} (h : MkR V B bs bm gI m cs P l vL wr) (k : Below wr.heap.size wr w1) : MkR V B bs bm gI m cs P l vL w1 :=
  ⟨h.kept.below k, h.below.trans (k.mono (Nat.le_trans h.lo.2.2 h.below.size)), h.sm.keep k, h.sz, h.cI, ownsRow_keep h.inn k, ownsRow_keep h.lst k, h.loc, h.inb, h.lo⟩
theorem MkR.hB {V wr : World} {B bm gI m : Nat} {bs : List Nat} {cs : Array Value} {P : Nat → Bool} {l : List Nat} {vL : Value} (h : MkR V B bs bm gI m cs P l vL wr) : B ≤ wr.heap.size := Nat.le_trans h.lo.2.2 h.below.size
/-- The cells that enter reads. -/
theorem MkR.cells {V wr : World} {B bm gI m : Nat} {bs : List Nat} {cs : Array Value} {P : Nat → Bool} {l : List Nat} {vL : Value} (h : MkR V B bs bm gI m cs P l vL wr) :
    wr.cell? ⟨bm, 261, none⟩ = some (.slice (some ⟨gI, 0, none⟩) m m) ∧ wr.cell? ⟨bm, 262, none⟩ = some vL ∧ wr.frozen? ⟨bm, 262, none⟩ = false := by
  refine ⟨?_, ?_, h.sm.thaw_ 262⟩
  · rw [h.sm.at_, Array.getElem?_setIfInBounds_ne (by decide), h.cI]
  · rw [h.sm.at_, Array.getElem?_setIfInBounds_self_of_lt (by rw [h.sz]; decide)]
/-- A store of a byte. -/
theorem MkR.put {V wr : World} {B bm gI m : Nat} {bs : List Nat} {cs : Array Value} {P : Nat → Bool} {l : List Nat} {vL : Value} (h : MkR V B bs bm gI m cs P l vL wr) (s : Nat) (hs : s / 8 < m) : MkR V B bs bm gI m cs (ins P s) l vL (wr.setCell ⟨gI, s / 8, none⟩ (.int .u8 ((by8 (ins P s) (s / 8) : Nat) : Int))) := by
  have hset : ∀ {B t n : Nat} {u : Value} {xs : List Value}, wr.ownsRow B t 1 u n xs → t ≠ 5 → (wr.setCell ⟨gI, s / 8, none⟩ (.int .u8 ((by8 (ins P s) (s / 8) : Nat) : Int))).ownsRow B t 1 u n xs := fun ho ht =>
    own_kept (ts := []) (bs := [gI]) ho ((Kept.refl _ _ _).setCell _ _ (Or.inl (by simp))) (by simp) (fun g hg e => by
      simp at e
      subst e
      exact own_kinds ho h.inn ht g hg rfl)
  refine ⟨h.kept.setCell _ _ (Or.inl h.inb.2), h.below.setCell (p := ⟨gI, s / 8, none⟩) h.lo.2.1 _, h.sm.far (p := ⟨gI, s / 8, none⟩) (fun e => own_ne h.inn h.sm (by decide) gI rfl e.symm) _, h.sz, h.cI, ?_, hset h.lst (by decide), h.loc, h.inb, h.lo⟩
  rw [← rowL_set]
  exact own_put h.inn (s / 8) hs _
theorem MkR.cell {V wr : World} {B bm gI m : Nat} {bs : List Nat} {cs : Array Value} {P : Nat → Bool} {l : List Nat} {vL : Value} (h : MkR V B bs bm gI m cs P l vL wr) (j : Nat) (hj : j < m) : wr.cell? ⟨gI, j, none⟩ = some (.int .u8 ((by8 P j : Nat) : Int)) ∧ wr.frozen? ⟨gI, j, none⟩ = false := by
  obtain ⟨g, e, _, _, hc⟩ := ownsRow_read h.inn (by omega)
  injection e with e
  injection e with e
  subst e
  obtain ⟨h1, h2⟩ := hc j (by omega)
  exact ⟨by rw [h1]; simp [u8s, rowL, hj], h2⟩
theorem MkR.app {V W w5 : World} {B bm gI m : Nat} {bs : List Nat} {cs : Array Value} {P : Nat → Bool} {l : List Nat} {vL v' : Value} (h : MkR V B bs bm gI m cs P l vL W) (s : Nat) (ho : w5.ownsRow B 3 1 v' (l.length + 1) (nums64 l ++ [.int .i64 ((s : Nat) : Int)])) (hg : W.grownBy w5 vL.ownBlock)
    (hat : v'.ownBlock = vL.ownBlock ∨ v'.ownBlock = some W.heap.size) : MkR V B bs bm gI m cs P (l ++ [s]) v' (w5.setCell ⟨bm, 262, none⟩ v') := by
  have hsm := h.sm.grown_own h.lst (by decide) hg
  have hB : Below B V w5 := h.below.grown hg h.hB (fun g e => own_above h.lst g e)
  refine ⟨(h.kept.grown hg (fun g e => (h.loc g e).elim Or.inl (fun x => Or.inr (Or.inl x)))).setCell _ _ (Or.inl h.inb.1), hB.setCell (p := ⟨bm, 262, none⟩) h.lo.1 _, ?_, h.sz, h.cI, own_set (own_grown_own h.inn h.lst (by decide) hg) hsm (by decide) _ _, ?_, fun b e1 => ?_, h.inb, h.lo⟩
  · have := hsm.set 262 v'
    rwa [Array.setIfInBounds_setIfInBounds] at this
  · rw [nums64_snoc, List.length_append]
    exact own_set ho hsm (by decide) _ _
  · rcases hat with h1 | h1
    · exact h.loc b (by rw [← h1]; exact e1)
    · rw [h1] at e1
      injection e1 with e1
      exact Or.inr (by rw [← e1]; exact h.below.size)
theorem bits_and8 (f : Nat → Bool) (k : Nat) : bits .and .u8 ((by8 f (k / 8) : Nat) : Int) ((2 : Int) ^ (k % 8) % 256) = if f k then ((2 ^ (k % 8) : Nat) : Int) else 0 := by
  have hr : k % 8 < 8 := Nat.mod_lt _ (by decide)
  have h1 : 2 ^ (k % 8) < 2 ^ 8 := Nat.pow_lt_pow_right (by decide) hr
  have e : ((2 : Int) ^ (k % 8)) % 256 = ((2 ^ (k % 8) : Nat) : Int) := by
    have h2 : ((2 : Int) ^ (k % 8)) = ((2 ^ (k % 8) : Nat) : Int) := by simp
    rw [h2]
    generalize 2 ^ (k % 8) = x at h1
    omega
  have hk : 8 * (k / 8) + k % 8 = k := by omega
  rw [e, u8_and_nat _ _ (by8_lt _ _) h1]
  have h3 : by8 f (k / 8) &&& 2 ^ (k % 8) = if f k then 2 ^ (k % 8) else 0 := by
    refine Nat.eq_of_testBit_eq fun j => ?_
    rw [Nat.testBit_and, by8_bit, Nat.testBit_two_pow]
    by_cases ej : k % 8 = j
    · subst ej
      rw [hk]
      cases hf : f k <;> simp [hr]
    · cases hf : f k <;> simp [ej, Nat.testBit_two_pow]
  rw [h3]
  split <;> rfl
def MEntPost (V : World) (B : Nat) (bs : List Nat) (bm gI m : Nat) (cs : Array Value) (P : Nat → Bool) (l : List Nat) (s : Nat) (e : Ending) (w' : World) : Prop :=
  ∃ vL', e = .returned (.tuple #[]) ∧ MkR V B bs bm gI m cs (ins P s) (if P s = true then l else l ++ [s]) vL' w'

set_option maxHeartbeats 1000000 in
set_option maxRecDepth 100000 in
theorem menter_any (V : World) (B : Nat) (bs : List Nat) (bm gI m : Nat) (cs : Array Value) (P : Nat → Bool) (l : List Nat) (vL : Value) (wr : World) (h : MkR V B bs bm gI m cs P l vL wr) (hm : m ≤ 1000000) (hl : l.length ≤ 1000000) (s : Nat) (hs : s / 8 < m) (hs2 : s ≤ 1000000) :
    Calls Try.prog 82 #[.pointer (some ⟨bm, 0, none⟩), .int .i64 ((s : Nat) : Int)] wr (MEntPost V B bs bm gI m cs P l s) := by
  obtain ⟨aL, cL, rfl⟩ := ownsRow_slice h.lst
  obtain ⟨c0, c1, c2⟩ := h.cells
  obtain ⟨d0, d1⟩ := h.cell (s / 8) hs
  have H := Lib.hid h
  have hbt := Lib.hid (bits_or8 P s)
  have hba := bits_and8 P s
  rcases hp : P s with _ | _
  · rw [hp, if_neg (by decide)] at hba
    have h1 := h.put s hs
    obtain ⟨q, hq⟩ : ∃ q, l.length = q := ⟨_, rfl⟩
    have H1 := Lib.hid h1
    obtain ⟨e0, e1, e2⟩ := h1.cells
    have hO := h1.lst
    rw [hq] at hO e1 c1 hl
    obtain ⟨i0, hi, hz0, hz1, hz2⟩ := info_parts Try.info_int9
    have HP := Lib.hid (And.intro hp hq)
    have hV : B ≤ (wr.setCell ⟨gI, s / 8, none⟩ (.int .u8 ((by8 (ins P s) (s / 8) : Nat) : Int))).heap.size := h1.hB
    clear h h1 hp hq
    go_enter Try.func82, Try.ntmps82
    go_upto_region 3 with fail
    rw [hbt.out]
    generalize wr.setCell ⟨gI, s / 8, none⟩ (.int .u8 ((by8 (ins P s) (s / 8) : Nat) : Int)) = W at H1 hO e0 e1 e2 hV ⊢
    clear c0 c1 c2 d0 d1 hba
    go_wp2_with (at_builtin; refine wpList_append_own_at _ rfl _ _ 25 rfl B 3 i0 (.int .i64 0) 1 8 Try.underlying25 hi hz0 hz1 hz2 rfl (by decide) _ _ _ rfl (hO.alloc _) ⟨W.heap.size, 0, none⟩ 1 1 [.int .i64 ((s : Nat) : Int)] rfl rfl (cell_one_new _ _ _) ?d2 ?d3 ?d4 ?d5 ?_)
    case d2 => intro u hu; simp at hu; subst hu; rfl
    case d3 => unfold maxLen; omega
    case d4 => omega
    case d5 => simp; omega
    intro v' w5 hown5 hgrow5 _ hat5
    obtain ⟨a5, c5, rfl⟩ := ownsRow_slice hown5
    have h2 := H1.out.keep (al W (.cells #[.int .i64 ((s : Nat) : Int)] 3))
    have hsw5 := h2.sm.grown_own h2.lst (by decide) (by rw [HP.out.2]; exact hgrow5)
    have p3 : w5.cell? ⟨bm, 262, none⟩ = some (.slice aL q cL) := by rw [hsw5.at_, Array.getElem?_setIfInBounds_self_of_lt (by rw [h2.sz]; decide), HP.out.2]
    have pf := hsw5.thaw_ 262
    have HF := Lib.hid (h2.app s (v' := .slice a5 (q + 1) c5) (by rw [HP.out.2]; exact hown5) (by rw [HP.out.2]; exact hgrow5) (by rw [HP.out.2, show (W.alloc (.cells #[.int .i64 ((s : Nat) : Int)] 3)).heap.size = W.heap.size + 1 by simp]; exact hat5))
    clear hown5 hgrow5 hat5 h2 hsw5 hO e0 e1 e2
    go_wp2_with fail
    refine bodyPost_ret (results_none rfl _ _ _) rfl ?_
    exact ⟨.slice a5 (q + 1) c5, rfl, by rw [if_neg (by rw [HP.out.1]; decide)]; exact HF.out⟩
  · rw [hp, if_pos rfl] at hba
    have HP := Lib.hid hp
    obtain ⟨d, hd, hd0⟩ : ∃ d : Nat, 2 ^ (s % 8) = d ∧ 0 < d := ⟨_, rfl, Nat.two_pow_pos _⟩
    rw [hd] at hba
    have h0 : ¬ ((d : Int) = 0) := by omega
    have h1 : ¬ (d = 0) := by omega
    clear h hp hd
    go_enter Try.func82, Try.ntmps82
    go_wp2_with fail
    refine bodyPost_ret (results_none rfl _ _ _) rfl ?_
    refine ⟨.slice aL l.length cL, rfl, ?_⟩
    rw [if_pos HP.out, show ins P s = P from by funext j; by_cases e : j = s; subst e; simp [ins, HP.out]; simp [ins, e]]
    exact H.out
end Go.Proofs.Ytlnndkilaklifaa

namespace Go.Proofs.Ytlnndkilaklifaa
open Go.RowKit Go.Maps Go.WideElems Go.ChangeMaps Go.MapKept
set_option linter.unusedVariables false
set_option linter.unusedSimpArgs false

/-- Numbers in memory, in a block under B. -/
def IAt (w : World) (B : Nat) (a : Option Addr) (l : List Nat) : Prop := 0 < l.length → ∃ g off, a = some ⟨g, off, none⟩ ∧ g < B ∧ ∀ j (h : j < l.length), w.cell? ⟨g, off + j, none⟩ = some (.int .i64 ((l[j] : Nat) : Int))
theorem IAt.below {w w' : World} {B : Nat} {a : Option Addr} {l : List Nat} (h : IAt w B a l) (k : Below B w w') : IAt w' B a l := by
  intro h0
  obtain ⟨g, off, e, hg, hc⟩ := h h0
  exact ⟨g, off, e, hg, fun j hj => (k.cell (p := ⟨g, off + j, none⟩) hg).trans (hc j hj)⟩
/-- A net's free edges, by the states. -/
structure NetFr (w : World) (B bn gF M cF : Nat) (aF : Nat → Option Addr) (cR : Nat → Nat) (L : List En) : Prop where
  blk : bn < B ∧ gF < B
  fld : w.cell? ⟨bn, 258, none⟩ = some (.slice (some ⟨gF, 0, none⟩) M cF)
  row : ∀ i, i < M → w.cell? ⟨gF, i, none⟩ = some (.slice (aF i) (rowF L i).length (cR i))
  at_ : ∀ i, i < M → IAt w B (aF i) (rowF L i)
theorem NetFr.below {w w' : World} {B bn gF M cF : Nat} {aF : Nat → Option Addr} {cR : Nat → Nat} {L : List En} (h : NetFr w B bn gF M cF aF cR L) (k : Below B w w') : NetFr w' B bn gF M cF aF cR L :=
  ⟨h.blk, (k.cell (p := ⟨bn, 258, none⟩) h.blk.1).trans h.fld, fun i hi => (k.cell (p := ⟨gF, i, none⟩) h.blk.2).trans (h.row i hi), fun i hi => (h.at_ i hi).below k⟩

/-- A maker that has gathered the states of l. -/
structure MkA (V : World) (B : Nat) (bs : List Nat) (bm gI m M : Nat) (cs : Array Value) (l : List Nat) (vL : Value) (wr : World) : Prop where
  r : MkR V B bs bm gI m cs (fun x => decide (x ∈ l)) l vL wr
  nd : l.Nodup
  lt : ∀ x ∈ l, x < M
theorem MkA.len {V wr : World} {B bm gI m M : Nat} {bs : List Nat} {cs : Array Value} {l : List Nat} {vL : Value} (h : MkA V B bs bm gI m M cs l vL wr) : l.length ≤ M := nodup_below h.nd h.lt
theorem MkA.keep {V wr w1 : World} {B bm gI m M : Nat} {bs : List Nat} {cs : Array Value} {l : List Nat} {vL : Value} (h : MkA V B bs bm gI m M cs l vL wr) (k : Below wr.heap.size wr w1) : MkA V B bs bm gI m M cs l vL w1 := ⟨h.r.keep k, h.nd, h.lt⟩
def MEntP (V : World) (B : Nat) (bs : List Nat) (bm gI m M : Nat) (cs : Array Value) (l : List Nat) (s : Nat) (e : Ending) (w' : World) : Prop :=
  ∃ l' vL', e = .returned (.tuple #[]) ∧ MkA V B bs bm gI m M cs l' vL' w' ∧ Ent l l' s
theorem menter_wk (V : World) (B : Nat) (bs : List Nat) (bm gI m M : Nat) (cs : Array Value) (l : List Nat) (vL : Value) (wr : World) (h : MkA V B bs bm gI m M cs l vL wr) (hM : M ≤ 100000) (hm : (M + 7) / 8 = m) (s : Nat) (hs : s < M) :
    Calls Try.prog 82 #[.pointer (some ⟨bm, 0, none⟩), .int .i64 ((s : Nat) : Int)] wr (MEntP V B bs bm gI m M cs l s) := by
  have hll := h.len
  refine (menter_any V B bs bm gI m cs _ l vL wr h.r (by omega) (by omega) s (by omega) (by omega)).mono ?_
  rintro e w' ⟨vL', rfl, h1⟩
  by_cases hm : s ∈ l
  · rw [if_pos (by simpa using hm)] at h1
    refine ⟨l, vL', rfl, ⟨?_, h.nd, h.lt⟩, fun x => ⟨Or.inl, fun h => h.elim id (fun e => e ▸ hm)⟩, List.prefix_refl _⟩
    rwa [show ins (fun x => decide (x ∈ l)) s = fun x => decide (x ∈ l) from by funext j; by_cases e : j = s; subst e; simp [ins, hm]; simp [ins, e]] at h1
  · rw [if_neg (by simpa using hm)] at h1
    refine ⟨l ++ [s], vL', rfl, ⟨?_, ?_, ?_⟩, fun x => by simp, List.prefix_append _ _⟩
    · rwa [show ins (fun x => decide (x ∈ l)) s = fun x => decide (x ∈ l ++ [s]) from by funext j; by_cases e : j = s; subst e; simp [ins]; simp [ins, e]] at h1
    · refine List.nodup_append.2 ⟨h.nd, by simp, fun a ha b hb e => ?_⟩
      rw [List.mem_singleton.1 hb] at e
      exact hm (e ▸ ha)
    · intro x hx
      rcases List.mem_append.1 hx with hx | hx
      · exact h.lt x hx
      · rw [List.mem_singleton.1 hx]; exact hs
def MFrPost (V : World) (B : Nat) (bs : List Nat) (bm gI m M : Nat) (cs : Array Value) (L : List En) (l : List Nat) (e : Ending) (w' : World) : Prop :=
  ∃ l' vL', e = .returned (.tuple #[]) ∧ MkA V B bs bm gI m M cs l' vL' w' ∧ ∀ x, x ∈ l' ↔ FR L (fun y => y ∈ l) x

set_option maxHeartbeats 2000000 in
set_option maxRecDepth 100000 in
theorem mfollow_any (V : World) (B : Nat) (bs : List Nat) (bm gI m M bn gF cF : Nat) (cs : Array Value) (aF : Nat → Option Addr) (cR : Nat → Nat) (L : List En) (HV : NetFr V B bn gF M cF aF cR L) (hc0 : cs[0]? = some (.pointer (some ⟨bn, 0, none⟩))) (hE : ∀ e ∈ L, e.f < M ∧ e.t < M) (hM : M ≤ 100000) (hm : (M + 7) / 8 = m) (hL : L.length ≤ 1000)
    (l : List Nat) (vL : Value) (wr : World) (h : MkA V B bs bm gI m M cs l vL wr) :
    Calls Try.prog 74 #[.pointer (some ⟨bm, 0, none⟩)] wr (MFrPost V B bs bm gI m M cs L l) := by
  have H := Lib.hid (And.intro HV (And.intro hE (And.intro hL (And.intro hc0 hm))))
  have H0 := Lib.hid h
  clear HV hE hL h hc0 hm
  go_enter Try.func74, Try.ntmps74
  go_wp2_with fail
  go_loopw [2, 4] (fun v _ wq => ∃ (i : Nat) (l1 : List Nat) (vL1 : Value), v = .int .i64 i ∧ i ≤ l1.length ∧ l1.length ≤ M ∧ Hid (MkA V B bs bm gI m M cs l1 vL1 wq) ∧ Hid (l <+: l1 ∧ (∀ x ∈ l1, FR L (fun y => y ∈ l) x) ∧ Clo L l1 i)) (fun v _ _ => M + 1 - (intOf v).toNat)
  case atStart => exact ⟨0, l, vL, rfl, Nat.zero_le _, H0.out.len, H0, List.prefix_refl _, fun x hx => .base hx, fun j _ h => absurd h (Nat.not_lt_zero _)⟩
  case round =>
    obtain ⟨i, l1, vL1, rfl, hi, hl1, HA, HC⟩ := hrel
    obtain ⟨aL, cL, rfl⟩ := ownsRow_slice HA.out.r.lst
    obtain ⟨_, c3, _⟩ := HA.out.r.cells
    have c0 : wr.cell? ⟨bm, 0, none⟩ = some (.pointer (some ⟨bn, 0, none⟩)) := by rw [HA.out.r.sm.at_, Array.getElem?_setIfInBounds_ne (by decide), H.out.2.2.2.1]
    have hfr := H.out.1.below HA.out.r.below
    have f0 := hfr.fld
    obtain ⟨q, hq⟩ : ∃ q, l1.length = q := ⟨_, rfl⟩
    by_cases hlt : i < l1.length
    · obtain ⟨gl, rfl, _, _, hcl⟩ := ownsRow_read HA.out.r.lst (by omega)
      have d0 := (hcl i (by omega)).1
      rw [nums64_get l1 i hlt] at d0
      have hs := HA.out.lt l1[i] (List.getElem_mem _)
      have HX : Hid (∀ (l2 : List Nat), l1 <+: l2 → (∀ t ∈ rowF L l1[i], t ∈ l2) → Clo L l2 (i + 1)) := by
        intro l2 hp ht j hj hji e he hb hf
        by_cases e1 : j = i
        · subst e1
          have h1 : l1[j] = l2[j] := hp.getElem hlt
          exact ht _ ((rowF_mem L _ _).2 ⟨e, he, hb, by rw [h1]; exact hf, rfl⟩)
        · exact HC.out.2.2.pre (by omega) hp j hj (by omega) e he hb hf
      have HFR : Hid (∀ t ∈ rowF L l1[i], FR L (fun y => y ∈ l) t) := by
        intro t ht
        obtain ⟨e, he, hb, hf, rfl⟩ := (rowF_mem L _ _).1 ht
        exact .step e (HC.out.2.1 _ (List.getElem_mem hlt)) he hb hf rfl
      have HTM : Hid (∀ t ∈ rowF L l1[i], t < M) := by
        intro t ht
        obtain ⟨e, he, hb, hf, rfl⟩ := (rowF_mem L _ _).1 ht
        exact (H.out.2.1 e he).2
      have k0 := hfr.row l1[i] hs
      have HRw := Lib.hid (fun (W : World) (hb : Below B V W) => (H.out.1.below hb).at_ l1[i] hs)
      obtain ⟨aR, haR⟩ : ∃ aR, aF l1[i] = aR := ⟨_, rfl⟩
      obtain ⟨cR', hcR⟩ : ∃ cR', cR l1[i] = cR' := ⟨_, rfl⟩
      rw [haR, hcR] at k0
      rw [haR] at HRw
      clear haR hcR
      generalize l1[i] = st at d0 hs HX HFR HTM k0 HRw
      clear hfr hcl
      obtain ⟨p, hp⟩ : ∃ p, (rowF L st).length = p := ⟨_, rfl⟩
      have hpl : p ≤ 1000 := by rw [← hp]; exact Nat.le_trans (rowF_len L st) H.out.2.2.1
      have HP := Lib.hid hp
      rw [hp] at k0
      have HQ := Lib.hid hq
      have i1 : (i : Int) < (q : Int) := by omega
      have i2 : (st : Int) < (M : Int) := by omega
      have i3 : i < q := by omega
      rw [hq] at c3
      clear hp hq hlt hi
      go_wp2_with fail
      go_quiet (fail)
      obtain ⟨wo, hwo⟩ : ∃ wo : World, wr.drewN nq = wo := ⟨_, rfl⟩
      have hB0 : Below wr.heap.size wr wo := by rw [← hwo]; exact below_drewN (Below.refl _ _) _
      have HA0 := Lib.hid (HA.out.keep hB0)
      have HWO := Lib.hid hwo
      clear hwo hB0 c0 c3 f0 d0 k0
      go_wp2_with fail
      rw [HWO.out]
      go_loopw [4, 31] (fun _ v wq => ∃ (k : Nat) (l2 : List Nat) (vL2 : Value), v = .int .i64 k ∧ k ≤ p ∧ Hid (MkA V B bs bm gI m M cs l2 vL2 wq) ∧ Hid (l1 <+: l2 ∧ (∀ x ∈ l2, FR L (fun y => y ∈ l) x) ∧ ∀ t ∈ (rowF L st).take k, t ∈ l2)) (fun _ v _ => p - (intOf v).toNat)
      case atStart => exact ⟨0, l1, _, rfl, Nat.zero_le _, HA0, List.prefix_refl _, HC.out.2.1, by simp⟩
      case round =>
        obtain ⟨k, l2, vL2, rfl, hk, HB, HD⟩ := hrel
        clear HA0 HWO
        by_cases hkp : k < p
        · have hkl : k < (rowF L st).length := by rw [HP.out]; exact hkp
          obtain ⟨gr, offr, rfl, _, hcr⟩ := (HRw.out wr HB.out.r.below) (by omega)
          have d0 := hcr k hkl
          have htm := HTM.out (rowF L st)[k] (List.getElem_mem _)
          have htf := HFR.out (rowF L st)[k] (List.getElem_mem _)
          have HTK : Hid ((rowF L st).take (k + 1) = (rowF L st).take k ++ [(rowF L st)[k]]) := List.take_succ_eq_append_getElem hkl
          generalize (rowF L st)[k] = t at d0 htm htf HTK
          have HTF := Lib.hid htf
          have i5 : (k : Int) < (p : Int) := by omega
          clear hcr hkl htf
          go_wp2_with fail
          refine (menter_wk V B bs bm gI m M cs l2 vL2 wr HB.out hM H.out.2.2.2.2 t htm).mono ?_
          rintro e w2 ⟨l3, vL3, rfl, h3, hent⟩
          have HZ : Hid (l1 <+: l3 ∧ (∀ x ∈ l3, FR L (fun y => y ∈ l) x) ∧ ∀ t ∈ (rowF L st).take (k + 1), t ∈ l3) := by
            refine ⟨HD.out.1.trans hent.pre, fun x hx => ?_, fun y hy => ?_⟩
            · rcases (hent.mem x).1 hx with h | rfl
              · exact HD.out.2.1 x h
              · exact HTF.out
            · rw [HTK.out] at hy
              rcases List.mem_append.1 hy with h | h
              · exact (hent.mem y).2 (Or.inl (HD.out.2.2 y h))
              · exact (hent.mem y).2 (Or.inr (List.mem_singleton.1 h))
          have H3 := Lib.hid h3
          clear h3 hent d0
          go_wp2_with fail
          go_roundw
          case rel => exact ⟨k + 1, l3, vL3, by go_num, by omega, H3, HZ⟩
          case measure => simp [intOf]; omega
        · obtain rfl : k = p := by omega
          have HZ : Hid (l <+: l2 ∧ (∀ x ∈ l2, FR L (fun y => y ∈ l) x) ∧ Clo L l2 (i + 1)) := by
            refine ⟨HC.out.1.trans HD.out.1, HD.out.2.1, HX.out l2 HD.out.1 (fun t ht => HD.out.2.2 t ?_)⟩
            rwa [List.take_of_length_le (by rw [HP.out]; exact Nat.le_refl _)]
          have hl2 := HB.out.len
          have hil : i + 1 ≤ l2.length := by have := HD.out.1.length_le; have := HQ.out; omega
          go_wp2_with fail
          go_roundw
          case rel => exact ⟨i + 1, l2, vL2, by go_num, hil, hl2, HB, HZ⟩
          case measure => simp [intOf]; omega
    · have hiq : i = l1.length := by omega
      have i1 : ¬ ((i : Int) < (q : Int)) := by omega
      rw [hq] at c3
      have HZ : Hid (∀ x, x ∈ l1 ↔ FR L (fun y => y ∈ l) x) := fun x => by
        refine ⟨HC.out.2.1 x, FR.within (C := fun x => x ∈ l1) (fun y hy => HC.out.1.subset hy) (fun e he hb hf => ?_)⟩
        obtain ⟨j, hj, ej⟩ := List.getElem_of_mem hf
        exact HC.out.2.2 j hj (by omega) e he hb ej.symm
      clear hlt hi hiq hq hfr
      go_wp2_with fail
      refine bodyPost_ret (results_none rfl _ _ _) rfl ?_
      exact ⟨l1, _, rfl, HA.out, HZ.out⟩
end Go.Proofs.Ytlnndkilaklifaa
