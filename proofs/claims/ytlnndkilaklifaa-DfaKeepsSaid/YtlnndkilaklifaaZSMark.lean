import Derived.Test.YtlnndkilaklifaaZClasses
import Derived.Test.YtlnndkilaklifaaZNByte
import Derived.Test.YtlnndkilaklifaaZNUCopy
import Derived.Test.YtlnndkilaklifaaZSFollow
import Derived.Laws.CopyOwn
namespace Go.Proofs.Ytlnndkilaklifaa
open Go.RowKit Go.Maps Go.WideElems Go.ChangeMaps Go.MapKept
set_option linter.unusedVariables false
set_option linter.unusedSimpArgs false

/-- clear of a row that fills its block. -/
theorem run_clear_full (P : Program) (w : World) (T ty elem : TypeId) (z : Value) (g m c : Nat) (cur : Array Value) (t : TypeId) (hu : P.underlying T = some (.slice elem)) (hz : ∀ w, (zeroValue elem).run P w = .ok z w) (hz1 : z.cells = #[z]) (ho : z.oneCell' = true)
    (hg : w.heap[g]? = some (.cells cur t (0, 0))) (hm : cur.size = m) :
    (Builtin.clear_ #[T] ty #[.slice (some ⟨g, 0, none⟩) m c]).run P w = .ok (.tuple #[]) (w.setRow g (List.replicate m z).toArray) := by
  have hst := run_storeCells_at P g 0 t (List.replicate m z) 0 cur w hg (by simp [hm]) (fun v hv => by rw [List.eq_of_mem_replicate hv]; exact ho)
  have hst2 : (cur.toList.take (0 + 0) ++ List.replicate m z ++ cur.toList.drop (0 + 0 + (List.replicate m z).length)).toArray = (List.replicate m z).toArray := by
    rw [List.drop_eq_nil_of_le (by simp [hm])]
    simp
  rw [hst2] at hst
  have hzc : (Builtin.zeroCells z.cells m).toList = List.replicate m z := by
    rw [hz1]
    refine List.ext_getElem (by simp [Builtin.zeroCells]) fun i h1 h2 => ?_
    simp [Builtin.zeroCells, Nat.mod_one]
  match m, hst, hm, hzc with
  | 0, hst, hm, _ =>
    have : cur = #[] := Array.eq_empty_of_size_eq_zero hm
    subst this
    have h1 := setRow_self w g #[] t (0, 0) hg
    simp [Builtin.clear_, run_underlying hu, h1]
  | m + 1, hst, _, hzc =>
    simp [Builtin.clear_, run_underlying hu, hz, hzc, hst]
theorem wpList_clear_full {P : Program} {w : World} {ops : Array Oper} {rest : List Oper} {o : Oper} {a : Act} {Q : Exit → Act → World → Prop} (hgd : o.guard = none) (d : Operand) (T : TypeId)
    (ho : o.op = .call { callee := .builtin .clear, args := #[d], argTypes := #[T] }) (elem : TypeId) (z : Value) (hu : P.underlying T = some (.slice elem)) (hz : ∀ w, (zeroValue elem).run P w = .ok z w) (hz1 : z.cells = #[z]) (hz2 : z.oneCell' = true)
    (g m c : Nat) (hd : a.eval d = .slice (some ⟨g, 0, none⟩) m c) (cur : Array Value) (t : TypeId) (hg : w.heap[g]? = some (.cells cur t (0, 0))) (hm : cur.size = m)
    (h : wpList P ops Q rest (a.put o.dst (.tuple #[])) (w.setRow g (List.replicate m z).toArray)) : wpList P ops Q (o :: rest) a w := by
  refine wpList_plain hgd fun K hK => ?_
  have hrun := run_clear_full P w T o.type elem z g m c cur t hu hz hz1 hz2 hg hm
  unfold Oper.wp
  simp [execOp, ho, resolve, invoke, builtin, hd, hrun, Result.andThen]
  exact hK _ _ h

/-- No state is in it. -/
theorem MkR.clear {V wr : World} {B bm gI m : Nat} {bs : List Nat} {cs : Array Value} {P : Nat → Bool} {l : List Nat} {aL : Option Addr} {n cL : Nat} (h : MkR V B bs bm gI m cs P l (.slice aL n cL) wr) (hn : l.length = n) :
    MkR V B bs bm gI m cs (fun _ => false) [] (.slice aL 0 cL) ((wr.setRow gI (List.replicate m (.int .u8 0)).toArray).setCell ⟨bm, 262, none⟩ (.slice aL 0 cL)) := by
  obtain ⟨hg1, hg2, hg3, hg4⟩ := own_full h.inn
  have hk : Kept [] [gI] wr (wr.setRow gI (List.replicate m (.int .u8 0)).toArray) := fun k o hk _ hn => by
    rw [setRow_other _ _ _ _ (by simpa using hn)]
    exact hk
  have hsm := h.sm.kept hk (by simp) (by simp only [List.mem_singleton]; exact fun e => own_ne h.inn h.sm (by decide) gI rfl e.symm)
  have hl : wr.ownsRow B 3 1 (.slice aL n cL) n (nums64 l) := by rw [← hn]; have := h.lst; rwa [hn] at this ⊢
  have hlst := own_kept hl hk (by simp) (fun g hg e => by
      simp only [List.mem_singleton] at e
      subst e
      exact own_kinds hl h.inn (by decide) g hg rfl)
  have hinn := own_refill h.inn (ys := List.replicate m (.int .u8 0)) (by simp)
  refine ⟨(h.kept.trans (hk.mono (by simp) (fun x hx => by rw [List.mem_singleton.1 hx]; exact h.inb.2))).setCell _ _ (Or.inl h.inb.1), (below_setRow h.below h.lo.2.1 _).setCell (p := ⟨bm, 262, none⟩) h.lo.1 _, ?_, h.sz, h.cI, ?_, own_set (own_zero hlst) hsm (by decide) _ _, ?_, h.inb, h.lo⟩
  · have := hsm.set 262 (.slice aL 0 cL)
    rwa [Array.setIfInBounds_setIfInBounds] at this
  · rw [rowL_zero]
    exact own_set hinn hsm (by decide) _ _
  · intro b e
    refine h.loc b ?_
    cases aL with
    | none => simp [Value.ownBlock] at e
    | some ad => simpa [Value.ownBlock] using e
def MGaPost (V : World) (B : Nat) (bs : List Nat) (bm gI m M : Nat) (cs : Array Value) (st : List Nat) (e : Ending) (w' : World) : Prop :=
  ∃ l' vL', e = .returned (.tuple #[]) ∧ MkA V B bs bm gI m M cs l' vL' w' ∧ ∀ x, x ∈ l' ↔ x ∈ st

set_option maxHeartbeats 2000000 in
set_option maxRecDepth 100000 in
theorem mgather_any (V : World) (B : Nat) (bs : List Nat) (bm gI m M : Nat) (cs : Array Value) (P : Nat → Bool) (l : List Nat) (vL : Value) (wr : World) (h : MkR V B bs bm gI m cs P l vL wr) (hM : M ≤ 100000) (hm : (M + 7) / 8 = m) (hll : l.length ≤ 1000000)
    (a : Option Addr) (n c : Nat) (st : List Nat) (hst : st.length = n) (hn : n ≤ 1000000) (hlt : ∀ x ∈ st, x < M) (hr : ∀ W, Kept [] bs V W → IAt W W.heap.size a st) :
    Calls Try.prog 73 #[.pointer (some ⟨bm, 0, none⟩), .slice a n c] wr (MGaPost V B bs bm gI m M cs st) := by
  obtain ⟨aL, cL, rfl⟩ := ownsRow_slice h.lst
  obtain ⟨c1, c2, c3⟩ := h.cells
  obtain ⟨q, hq⟩ : ∃ q, l.length = q := ⟨_, rfl⟩
  rw [hq] at c2 hll
  have hc := h.clear (n := l.length) rfl
  have HC := Lib.hid hc
  have HG := Lib.hid (own_full h.inn)
  have H := Lib.hid (And.intro hst (And.intro hlt (And.intro hr hm)))
  have d1 : (wr.setRow gI (List.replicate m (.int .u8 0)).toArray).cell? ⟨bm, 262, none⟩ = some (.slice aL q cL) := by
    have hk : Kept [] [gI] wr (wr.setRow gI (List.replicate m (.int .u8 0)).toArray) := fun k o hk _ hn => by
      rw [setRow_other _ _ _ _ (by simpa using hn)]
      exact hk
    have hsm := h.sm.kept hk (by simp) (by simp only [List.mem_singleton]; exact fun e => own_ne h.inn h.sm (by decide) gI rfl e.symm)
    rw [hsm.at_, Array.getElem?_setIfInBounds_self_of_lt (by rw [h.sz]; decide), hq]
  have d2 : (wr.setRow gI (List.replicate m (.int .u8 0)).toArray).frozen? ⟨bm, 262, none⟩ = false := by
    have hk : Kept [] [gI] wr (wr.setRow gI (List.replicate m (.int .u8 0)).toArray) := fun k o hk _ hn => by
      rw [setRow_other _ _ _ _ (by simpa using hn)]
      exact hk
    have hsm := h.sm.kept hk (by simp) (by simp only [List.mem_singleton]; exact fun e => own_ne h.inn h.sm (by decide) gI rfl e.symm)
    exact hsm.thaw_ 262
  have hz := zero_u8
  have hrun := run_clear_full Try.prog wr 91 0 5 (.int .u8 0) gI m m _ 5 Try.underlying91 hz rfl rfl HG.out.1 (by have := HG.out.2.2.2; simpa using this)
  generalize wr.setRow gI (List.replicate m (.int .u8 0)).toArray = W1 at HC d1 d2 hrun
  clear h hc hst hlt hr hm hq hz
  go_enter Try.func73, Try.ntmps73
  go_wp2_with fail
  generalize W1.setCell ⟨bm, 262, none⟩ (.slice aL 0 cL) = W0 at HC ⊢
  clear c1 c2 c3 d1 d2 HG hrun
  go_loopw [5, 20] (fun _ v wq => ∃ (k : Nat) (l2 : List Nat) (vL2 : Value), v = .int .i64 k ∧ k ≤ n ∧ Hid (MkA V B bs bm gI m M cs l2 vL2 wq) ∧ Hid (∀ x, x ∈ l2 ↔ x ∈ st.take k)) (fun _ v _ => n - (intOf v).toNat)
  case atStart => exact ⟨0, [], _, rfl, Nat.zero_le _, ⟨by simpa using HC.out, List.nodup_nil, by simp⟩, fun x => by simp⟩
  case round =>
    obtain ⟨k, l2, vL2, rfl, hk, HB, HD⟩ := hrel
    clear HC
    by_cases hkp : k < n
    · have hkl : k < st.length := by rw [H.out.1]; exact hkp
      obtain ⟨gr, offr, rfl, _, hcr⟩ := (H.out.2.2.1 wr HB.out.r.kept) (by omega)
      have d0 := hcr k hkl
      have htm := H.out.2.1 st[k] (List.getElem_mem _)
      have HTK : Hid (st.take (k + 1) = st.take k ++ [st[k]]) := List.take_succ_eq_append_getElem hkl
      generalize st[k] = t at d0 htm HTK
      have i5 : (k : Int) < (n : Int) := by omega
      clear hcr hkl
      go_wp2_with fail
      refine (menter_wk V B bs bm gI m M cs l2 vL2 wr HB.out hM H.out.2.2.2 t htm).mono ?_
      rintro e w2 ⟨l3, vL3, rfl, h3, hent⟩
      have HZ : Hid (∀ x, x ∈ l3 ↔ x ∈ st.take (k + 1)) := fun x => by
        rw [HTK.out, hent.mem, HD.out x]
        simp
      have H3 := Lib.hid h3
      clear h3 hent d0
      go_wp2_with fail
      go_roundw
      case rel => exact ⟨k + 1, l3, vL3, by go_num, by omega, H3, HZ⟩
      case measure => simp [intOf]; omega
    · obtain rfl : k = n := by omega
      have HZ : Hid (∀ x, x ∈ l2 ↔ x ∈ st) := fun x => by
        rw [HD.out x, List.take_of_length_le (by rw [H.out.1]; exact Nat.le_refl _)]
      go_wp2_with fail
      refine bodyPost_ret (results_none rfl _ _ _) rfl ?_
      exact ⟨l2, _, rfl, HB.out, HZ.out⟩
end Go.Proofs.Ytlnndkilaklifaa

namespace Go.Proofs.Ytlnndkilaklifaa
open Go.RowKit Go.Maps Go.WideElems Go.ChangeMaps Go.MapKept
set_option linter.unusedVariables false
set_option linter.unusedSimpArgs false

/-- The least mark of some states; -1: they have none. -/
def Least (mk : Nat → Int) (S : Nat → Prop) (r : Int) : Prop :=
  (r = -1 ∧ ∀ x, S x → mk x = -1) ∨ (0 ≤ r ∧ (∃ x, S x ∧ mk x = r) ∧ ∀ x, S x → mk x = -1 ∨ r ≤ mk x)
theorem Least.congr {mk : Nat → Int} {S S' : Nat → Prop} {r : Int} (h : Least mk S r) (e : ∀ x, S x ↔ S' x) : Least mk S' r := by
  rcases h with ⟨h1, h2⟩ | ⟨h1, ⟨x, hx, h2⟩, h3⟩
  · exact Or.inl ⟨h1, fun x hx => h2 x ((e x).2 hx)⟩
  · exact Or.inr ⟨h1, ⟨x, (e x).1 hx, h2⟩, fun x hx => h3 x ((e x).2 hx)⟩
theorem Least.none (mk : Nat → Int) : Least mk (fun x => x ∈ ([] : List Nat)) (-1) := Or.inl ⟨rfl, fun x hx => by simp at hx⟩
theorem Least.uniq {mk : Nat → Int} {S : Nat → Prop} {r r' : Int} (h : Least mk S r) (h' : Least mk S r') : r = r' := by
  rcases h with ⟨h1, h2⟩ | ⟨h1, ⟨x, hx, h2⟩, h3⟩ <;> rcases h' with ⟨g1, g2⟩ | ⟨g1, ⟨y, hy, g2⟩, g3⟩
  · omega
  · have := h2 y hy; omega
  · have := g2 x hx; omega
  · have := h3 y hy; have := g3 x hx; omega
theorem Least.skip {mk : Nat → Int} {l : List Nat} {r : Int} {x : Nat} (h : Least mk (fun y => y ∈ l) r) (hx : mk x = -1 ∨ (r ≠ -1 ∧ r ≤ mk x)) : Least mk (fun y => y ∈ l ++ [x]) r := by
  rcases h with ⟨h1, h2⟩ | ⟨h1, ⟨y, hy, h2⟩, h3⟩
  · refine Or.inl ⟨h1, fun y hy => ?_⟩
    rcases List.mem_append.1 hy with hy | hy
    · exact h2 y hy
    · rw [List.mem_singleton.1 hy]; omega
  · refine Or.inr ⟨h1, ⟨y, List.mem_append.2 (Or.inl hy), h2⟩, fun z hz => ?_⟩
    rcases List.mem_append.1 hz with hz | hz
    · exact h3 z hz
    · rw [List.mem_singleton.1 hz]; omega
theorem Least.take {mk : Nat → Int} {l : List Nat} {r : Int} {x : Nat} (h : Least mk (fun y => y ∈ l) r) (h0 : 0 ≤ mk x) (hx : r = -1 ∨ mk x ≤ r) : Least mk (fun y => y ∈ l ++ [x]) (mk x) := by
  refine Or.inr ⟨h0, ⟨x, by simp, rfl⟩, fun z hz => ?_⟩
  rcases List.mem_append.1 hz with hz | hz
  · rcases h with ⟨h1, h2⟩ | ⟨h1, _, h3⟩
    · exact Or.inl (h2 z hz)
    · rcases h3 z hz with h | h
      · exact Or.inl h
      · exact Or.inr (by omega)
  · rw [List.mem_singleton.1 hz]; exact Or.inr (Int.le_refl _)
/-- A net's marks, by the states. -/
structure NetMk (w : World) (B bn gM M cM : Nat) (mk : Nat → Int) : Prop where
  blk : bn < B ∧ gM < B
  fld : w.cell? ⟨bn, 257, none⟩ = some (.slice (some ⟨gM, 0, none⟩) M cM)
  at_ : ∀ i, i < M → w.cell? ⟨gM, i, none⟩ = some (.int .i64 (mk i))
theorem NetMk.below {w w' : World} {B bn gM M cM : Nat} {mk : Nat → Int} (h : NetMk w B bn gM M cM mk) (k : Below B w w') : NetMk w' B bn gM M cM mk :=
  ⟨h.blk, (k.cell (p := ⟨bn, 257, none⟩) h.blk.1).trans h.fld, fun i hi => (k.cell (p := ⟨gM, i, none⟩) h.blk.2).trans (h.at_ i hi)⟩

set_option maxHeartbeats 2000000 in
set_option maxRecDepth 100000 in
theorem smallest_any (V : World) (B : Nat) (bs : List Nat) (bm gI m M bn gM cM : Nat) (cs : Array Value) (mk : Nat → Int) (HV : NetMk V B bn gM M cM mk) (hmk : ∀ i, i < M → -1 ≤ mk i) (hc0 : cs[0]? = some (.pointer (some ⟨bn, 0, none⟩))) (hM : M ≤ 100000)
    (l : List Nat) (vL : Value) (wr : World) (h : MkA V B bs bm gI m M cs l vL wr) :
    Calls Try.prog 83 #[.pointer (some ⟨bm, 0, none⟩)] wr fun e w' => ∃ r, e = .returned (.int .i64 r) ∧ Least mk (fun x => x ∈ l) r ∧ w' = wr := by
  obtain ⟨aL, cL, rfl⟩ := ownsRow_slice h.r.lst
  obtain ⟨_, c3, _⟩ := h.r.cells
  have c0 : wr.cell? ⟨bm, 0, none⟩ = some (.pointer (some ⟨bn, 0, none⟩)) := by rw [h.r.sm.at_, Array.getElem?_setIfInBounds_ne (by decide), hc0]
  have hmm := HV.below h.r.below
  have f0 := hmm.fld
  obtain ⟨q, hq⟩ : ∃ q, l.length = q := ⟨_, rfl⟩
  have hqM : q ≤ M := by rw [← hq]; exact h.len
  rw [hq] at c3
  have H := Lib.hid (And.intro h (And.intro hmm (And.intro hmk hq)))
  clear h HV hmm hmk hc0 hq
  go_enter Try.func83, Try.ntmps83
  go_wp2_with fail
  go_loopw [3, 5, 6, 12] (fun v3 _ _ v wq => ∃ (k : Nat) (r : Int), v = .int .i64 k ∧ k ≤ q ∧ v3 = .int .i64 r ∧ -1 ≤ r ∧ wq = wr ∧ Hid (Least mk (fun x => x ∈ l.take k) r)) (fun _ _ _ v _ => q - (intOf v).toNat)
  case atStart => exact ⟨0, -1, rfl, Nat.zero_le _, rfl, Int.le_refl _, rfl, by show Least _ _ _; simpa using Least.none mk⟩
  case round =>
    obtain ⟨k, r, rfl, hk, rfl, hr, rfl, HL⟩ := hrel
    by_cases hlt : k < q
    · have hkl : k < l.length := by rw [H.out.2.2.2]; exact hlt
      obtain ⟨gl, rfl, _, _, hcl⟩ := ownsRow_read H.out.1.r.lst (by omega)
      have d0 := (hcl k (by omega)).1
      rw [nums64_get l k hkl] at d0
      have hs := H.out.1.lt l[k] (List.getElem_mem _)
      have d1 := H.out.2.1.at_ l[k] hs
      have hm1 := H.out.2.2.1 l[k] hs
      have HTK : Hid (l.take (k + 1) = l.take k ++ [l[k]]) := List.take_succ_eq_append_getElem hkl
      generalize l[k] = x at d0 d1 hs hm1 HTK
      have HS : Hid (∀ r', (mk x = -1 ∨ (r ≠ -1 ∧ r ≤ mk x)) → r' = r → Least mk (fun y => y ∈ l.take (k + 1)) r') := fun r' h e => by rw [e, HTK.out]; exact HL.out.skip h
      have HT : Hid (0 ≤ mk x → (r = -1 ∨ mk x ≤ r) → ∀ r', r' = mk x → Least mk (fun y => y ∈ l.take (k + 1)) r') := fun h0 h r' e => by rw [e, HTK.out]; exact HL.out.take h0 h
      generalize mk x = y at d1 hm1 HS HT
      have i1 : (k : Int) < (q : Int) := by omega
      have i2 : (x : Int) < (M : Int) := by omega
      clear hcl hkl HTK
      by_cases hy : y = -1
      · subst hy
        have HZ := Lib.hid (HS.out r (Or.inl rfl) rfl)
        go_wp2_with fail
        go_roundw
        case rel => exact ⟨k + 1, r, by go_num, by omega, rfl, hr, trivial, HZ⟩
        case measure => simp [intOf]; omega
      · by_cases hr1 : r = -1
        · subst hr1
          have HZ := Lib.hid (HT.out (by omega) (Or.inl rfl) y rfl)
          go_wp2_with fail
          go_roundw
          case rel => exact ⟨k + 1, y, by go_num, by omega, rfl, by omega, trivial, HZ⟩
          case measure => simp [intOf]; omega
        · rcases Int.lt_or_le y r with hyr | hyr
          · have HZ := Lib.hid (HT.out (by omega) (Or.inr (by omega)) y rfl)
            go_wp2_with fail
            go_roundw
            case rel => exact ⟨k + 1, y, by go_num, by omega, rfl, by omega, trivial, HZ⟩
            case measure => simp [intOf]; omega
          · have HZ := Lib.hid (HS.out r (Or.inr ⟨hr1, by omega⟩) rfl)
            have hyd : decide (y < r) = false := by simp; omega
            have hb1 : (y != -1) = true := by simpa using hy
            have hb2 : (r == -1) = false := by simpa using hr1
            go_wp2_with fail
            go_roundw
            case rel => exact ⟨k + 1, r, by go_num, by omega, rfl, hr, trivial, HZ⟩
            case measure => simp [intOf]; omega
    · obtain rfl : k = q := by omega
      have HZ : Hid (Least mk (fun x => x ∈ l) r) := by
        have := HL.out
        rwa [List.take_of_length_le (by rw [H.out.2.2.2]; exact Nat.le_refl _)] at this
      go_wp2_with fail
      go_ret
      exact ⟨r, rfl, HZ.out, rfl⟩
end Go.Proofs.Ytlnndkilaklifaa
