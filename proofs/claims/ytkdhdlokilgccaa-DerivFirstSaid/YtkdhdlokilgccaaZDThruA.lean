import Derived.Test.YtkdhdlokilgccaaZChk
import Derived.Test.YtkdhdlokilgccaaZDPieces
import Derived.Test.YtkdhdlokilgccaaZRefOf
import Derived.Deep.RegionWith
import Derived.Lib.SliceRun
import Derived.Lib.AppendZerosOnto
namespace Go.Proofs.Ytkdhdlokilgccaa
open Go.RowKit
set_option linter.unusedVariables false

theorem Try.info_pc : (Try.prog.info? 66).map (fun i => (i.zero, i.size, i.bytes)) = some (some (.agg #[.int .i64 0, .int .u64 0, .int .u64 0, .int .u64 0, .int .u64 0]), 5, 40) := by kernel_rfl
theorem pcs_one_cell (l : List Pc) : ∀ u ∈ pcs l, u.oneCell' = true := by
  intro u hu
  simp only [pcs, List.mem_flatMap, pcCells] at hu
  obtain ⟨x, _, hx⟩ := hu
  simp at hx
  rcases hx with rfl | rfl | rfl | rfl | rfl <;> rfl

set_option maxHeartbeats 1000000 in
set_option maxRecDepth 100000 in
theorem clone_any (l : List Pc) (g off m cap : Nat) (w : World) (hL : RxAt w (some ⟨g, off, none⟩) l) (hm : l.length = m) (hp : 1 ≤ m) (hmax : m ≤ 100000) :
    Calls Try.prog 34 #[.slice (some ⟨g, off, none⟩) m cap] w fun e w' => ∃ a c, e = .returned (.slice a m c) ∧ w'.ownsRow w.heap.size 66 5 (.slice a m c) m (pcs l) ∧ Below w.heap.size w w' := by
  obtain ⟨i0, hi, hz0, hz1, hz2⟩ := info_parts Try.info_pc
  obtain ⟨g', off', e, hg, hc⟩ := hL (by omega)
  simp at e
  obtain ⟨rfl, rfl⟩ := e
  have hlen : (pcs l).length = m * 5 := by rw [pcs_length, hm]
  have HC := Lib.hid hc
  have HN := Lib.hid hm
  have hO := own_lit w w.heap.size 66 5 #[] 0 rfl (Nat.le_refl _) (by unfold maxLen; omega)
  clear hc hL hm
  have hN : ∀ W, (binOp .eql 23 (.slice (some ⟨g, off, none⟩) m cap) (.slice none 0 0)).run Try.prog W = .ok (.bool false) W := fun W => by
    have := Lib.run_eql_slice_nil W 23 66 (some ⟨g, off, none⟩) m cap 0 0 Try.underlying23
    simpa using this
  go_enter Try.func34, Try.ntmps34
  go_wp2_with (at_builtin; refine wpList_append_own _ rfl _ _ 23 rfl w.heap.size 66 i0 (.agg #[.int .i64 0, .int .u64 0, .int .u64 0, .int .u64 0, .int .u64 0]) 5 40 Try.underlying23 hi hz0 hz1 hz2 rfl (by decide) _ _ _ rfl hO ⟨g, off, none⟩ m cap (pcs l) rfl hlen ?d1 ?d2 ?d3 ?d4 ?d5 ?_)
  case d1 =>
    intro j u hj
    have hjl : j < l.length * 5 := by
      have := (List.getElem?_eq_some_iff.1 hj).1
      rw [pcs_length] at this; exact this
    have h1 := HC.out j hjl
    rw [h1, hj]
  case d2 => exact pcs_one_cell l
  case d3 => unfold maxLen; omega
  case d4 => omega
  intro v' w5 hown5 hgrow5 _
  have hB5 : Below w.heap.size w w5 := ((Below.refl _ w).alloc (Nat.le_refl _) _).trans (grown_kept hgrow5 hO (by simp))
  obtain ⟨a5, c5, rfl⟩ := ownsRow_slice hown5
  have HO5 : Hid (w5.ownsRow w.heap.size 66 5 (.slice a5 m c5) m (pcs l)) := by
    show World.ownsRow _ _ _ _ _ _ _
    simpa using hown5
  clear hown5 hgrow5 hO
  go_wp2_with fail
  go_ret
  exact ⟨a5, c5, by first | rfl | simp, HO5.out, hB5⟩
end Go.Proofs.Ytkdhdlokilgccaa

namespace Go.Proofs.Ytkdhdlokilgccaa
open Go.RowKit Go.Maps Go.WideElems Go.ChangeMaps Go.MapKept
set_option linter.unusedVariables false

/-- A row of pieces, as an argument. -/
theorem row_rx {w : World} {B : Nat} {a : Option Addr} {n c : Nat} {l : List Pc} (h : w.ownsRow B 66 5 (.slice a n c) n (pcs l)) (hn : l.length = n) : RxAt w a l := by
  intro h0
  obtain ⟨g, rfl, _, hg, hc⟩ := ownsRow_read h (by omega)
  exact ⟨g, 0, rfl, hg, fun j hj => by rw [Nat.zero_add, (hc j (by omega)).1]⟩
theorem row_cap {w : World} {B e k : Nat} {a : Option Addr} {n c : Nat} {xs : List Value} (h : w.ownsRow B e k (.slice a n c) n xs) : n ≤ c ∧ c ≤ maxLen := by
  rcases h.2 with ⟨h1, h2⟩ | ⟨g, cap, cu, h1, _, _, h2, h3, _⟩
  · injection h1 with _ _ h4
    subst h4
    exact ⟨by omega, by unfold maxLen; omega⟩
  · injection h1 with _ _ h4
    subst h4
    exact ⟨h2, h3⟩
/-- Not more tails than there may be. -/
theorem SI.tcount {E : List Ex} {F : List Fa} {T : List Tl} {n0 : Nat} {S : List (List Rx)} (h : SI E F T n0 S) : T.length ≤ S.length := by
  have hex : ∃ f : Nat → List Rx, ∀ i, i < T.length → TD E T i (f i) ∧ f i ∈ S := by
    refine ⟨fun i => if hh : i < T.length then (h.td i hh).choose else [], fun i hi => ?_⟩
    simp only [dif_pos hi]
    exact (h.td i hi).choose_spec
  obtain ⟨f, hf⟩ := hex
  have h1 : ((List.range T.length).map f).Nodup := by
    refine List.pairwise_map.2 ?_
    refine List.Pairwise.imp_of_mem (fun {a b} ha hb hab e => ?_) List.nodup_range
    have ha' := hf a (by simpa using ha)
    have hb' := hf b (by simpa using hb)
    rw [e] at ha'
    exact hab (ha'.1.inj h.inv h.nd hb'.1)
  have h2 := h1.length_le_of_subset (l₂ := S) (fun x hx => by
    obtain ⟨i, hi, rfl⟩ := List.mem_map.1 hx
    exact (hf i (by simpa using hi)).2)
  simpa using h2
theorem allTails_len (t : Rx) (n : Nat) (ht : t.flat.length ≤ n) : (allTails t).length ≤ (2 * n) * (n + 1) := by
  have h1 := flatMap_sfx (pre t [] :: Kt t []) n (fun σ h => by
    rcases List.mem_cons.1 h with rfl | h
    · have := pre_length t []; simp at this; omega
    · have := K_each t [] σ h; simp at this; omega)
  have h2 := K_length t []
  have hp := t.flat_pos
  have h3 : (pre t [] :: Kt t []).length ≤ 2 * n := by simp; omega
  unfold allTails
  have := Nat.mul_le_mul_right (n + 1) h3
  omega
theorem DnAt.plain {w : World} {B : Nat} {cur : Array Value} {E : List Ex} {T : List Tl} {bD N : Nat} {X : List Nat} (h : DnAt w B cur E T bD N X) : DnAt w B cur E T bD N [] :=
  h.step (bs := []) (Kept.refl _ _ _) rfl (Ext.refl _) (Ext.refl _) (by simp) (by simp) (fun g hg => by cases hg)
theorem DnAt.belowD {w w' : World} {B : Nat} {cur : Array Value} {E : List Ex} {T : List Tl} {bD N : Nat} (h : DnAt w B cur E T bD N []) (k : Below w.heap.size w w') : DnAt w' B cur E T bD N [] :=
  h.step (bs := []) ((Kept.refl _ _ _).below k) rfl (Ext.refl _) (Ext.refl _) (by simp) (by simp) (fun g hg => by cases hg)
/-- What is left behind a text: the tails of a pile. -/
structure ThSt (B kr bD n0 : Nat) (S : List (List Rx)) (t : Rx) (L : List Nat) (wr : World) (cur : Array Value) (E : List Ex) (F : List Fa) (T : List Tl) (b1 b2 ba : Nat) (l : List Nat) (m : Nat) (vA vI : Value) (N : Nat) : Prop where
  rp : RP wr B kr cur E F T b1 b2 n0 S ba l m vA vI
  dn : DnAt wr B cur E T bD N []
  nb : bD ∉ rdBlks kr cur b1 b2
  npb : ∀ g, g ∈ pileBlks ba vA vI → g ≠ bD
  td : ∀ i, i ∈ l → ∃ τ, TD E T i τ
  lan : ∀ s, (∃ i τ, i ∈ l ∧ TD E T i τ ∧ TLan τ s) ↔ Lan t (L ++ s)
theorem ThSt.below {B kr bD n0 : Nat} {S : List (List Rx)} {t : Rx} {L : List Nat} {wr w' : World} {cur : Array Value} {E : List Ex} {F : List Fa} {T : List Tl} {b1 b2 ba : Nat} {l : List Nat} {m : Nat} {vA vI : Value} {N : Nat} (h : ThSt B kr bD n0 S t L wr cur E F T b1 b2 ba l m vA vI N) (k : Below wr.heap.size wr w') : ThSt B kr bD n0 S t L w' cur E F T b1 b2 ba l m vA vI N :=
  ⟨h.rp.below k, h.dn.belowD k, h.nb, h.npb, h.td, h.lan⟩
/-- At the start. -/
theorem ThSt.start {w : World} {B kr : Nat} {cur : Array Value} {E : List Ex} {F : List Fa} {T : List Tl} {b1 b2 n0 bD i m : Nat} {l : List Nat} {vA vI : Value} {bl : Nat} {u t : Rx} (hR : RP w B kr cur E F T b1 b2 n0 (allTails u) bl l m vA vI) (hl : ∀ j, j ∈ l ↔ j = i) (hD : DnAt w B cur E T bD 0 []) (hn : bD ∉ rdBlks kr cur b1 b2)
    (hp : ∀ g, g ∈ pileBlks bl vA vI → g ≠ bD) (ht : TD E T i (pre u [])) (hw : u.wf) (hL : ∀ s, Lan u s ↔ Lan t s) : ThSt B kr bD n0 (allTails u) t [] w cur E F T b1 b2 bl l m vA vI 0 := by
  refine ⟨hR, hD, hn, hp, fun j hj => ⟨pre u [], by rw [(hl j).1 hj]; exact ht⟩, fun s => ?_⟩
  have h0 : TLan (pre u []) s ↔ Lan t s := by
    rw [pre_lan u hw]
    constructor
    · rintro ⟨a, b, rfl, ha, hb⟩
      rw [show b = [] from hb, List.append_nil]; exact (hL a).1 ha
    · exact fun h => ⟨s, [], by simp, (hL s).2 h, rfl⟩
  rw [List.nil_append, ← h0]
  constructor
  · rintro ⟨j, τ, hj, hd, hs⟩
    rw [(hl j).1 hj] at hd
    rw [ht.one hd]; exact hs
  · exact fun h => ⟨i, _, (hl i).2 rfl, ht, h⟩
/-- One byte on. -/
theorem ThSt.next {B kr bD n0 : Nat} {S : List (List Rx)} {t : Rx} {L : List Nat} {w : World} {cur : Array Value} {E : List Ex} {F : List Fa} {T : List Tl} {b1 b2 ba : Nat} {l : List Nat} {m : Nat} {vA vI : Value} {N : Nat} (h : ThSt B kr bD n0 S t L w cur E F T b1 b2 ba l m vA vI N) {b : Nat} (hb : b < 256)
    {wr : World} {cur' : Array Value} {E' : List Ex} {F' : List Fa} {T' : List Tl} {p q ba' : Nat} {l' : List Nat} {m' : Nat} {vA' vI' : Value} (hI : BehInv w B kr bD cur E T b1 b2 n0 S ba' b l (N + l.length) wr cur' E' F' T' p q l' m' vA' vI') :
    ThSt B kr bD n0 S t (L ++ [b]) wr cur' E' F' T' p q ba' l' m' vA' vI' (N + l.length) := by
  have hlt := h.dn.map.lt
  refine ⟨hI.rp, hI.dn.plain, hI.nb, fun g hg e => by have := hI.new g hg; omega, fun i hi => ?_, fun s => ?_⟩
  · obtain ⟨_, _, σ, _, _, _, hd⟩ := hI.of i hi
    exact ⟨σ, hd⟩
  · rw [List.append_assoc, List.singleton_append, ← h.lan]
    constructor
    · rintro ⟨i, σ, hi, hd, hs⟩
      obtain ⟨j, τ, σ', hj, hdj, hB, hd'⟩ := hI.of i hi
      rw [hd.one hd'] at hs
      exact ⟨j, τ, hj, hdj, (bh_lan τ hdj.wf b hb s).1 ⟨σ', hB, hs⟩⟩
    · rintro ⟨j, τ, hj, hdj, hs⟩
      obtain ⟨σ, hB, hs'⟩ := (bh_lan τ hdj.wf b hb s).2 hs
      obtain ⟨i, hi, hd⟩ := hI.all j hj τ σ hdj hB
      exact ⟨i, σ, hi, hd, hs'⟩
/-- What is written of them. -/
def ThR (H : Nat) (w' : World) (t : Rx) (K : Nat) (L : List Nat) (v : Value) (n : Nat) : Prop :=
  ∃ (u : Rx) (a : Option Addr) (c : Nat), v = .slice a n c ∧ (∀ g o x, a = some ⟨g, o, x⟩ → H ≤ g) ∧ u.wf ∧ u.flat.length = n ∧ RxAt w' a u.flat ∧ n ≤ c ∧ c ≤ maxLen ∧ n ≤ K ∧ ∀ s, Lan u s ↔ Lan t (L ++ s)
/-- An expression of the tails that are left. -/
theorem ThSt.expr {B kr bD n0 : Nat} {S : List (List Rx)} {t : Rx} {L : List Nat} {w w' : World} {cur : Array Value} {E : List Ex} {F : List Fa} {T : List Tl} {b1 b2 ba : Nat} {l : List Nat} {m : Nat} {vA vI : Value} {N : Nat} (h : ThSt B kr bD n0 S t L w cur E F T b1 b2 ba l m vA vI N) {f : Nat → Option (List Nat)} (hO : Out w B kr cur E F T b1 b2 n0 S ba l m vA vI f)
    {bt bL : Nat} {u : Rx} {v : Value} {l0 : List Nat} (h0 : f 0 = some l0) (hA : AheadT E T f l 0 l0 u) (hT : TrAt w w' kr ba bt bL T f v u.flat) : ThR w.heap.size w' t (S.length * 402) L v u.flat.length := by
  obtain ⟨a, c, rfl⟩ := ownsRow_slice hT.row
  obtain ⟨h1, h2⟩ := row_cap hT.row
  obtain ⟨q1, q2, q3, q4⟩ := hA
  have hT0 : 0 < T.length := (List.getElem?_eq_some_iff.1 hO.rd.si.zero).1
  refine ⟨u, a, c, rfl, fun g o x e => ?_, q1, rfl, row_rx hT.row rfl, h1, h2, ?_, fun s => ?_⟩
  · subst e
    rcases hT.row.2 with ⟨e1, _⟩ | ⟨g', cap, cu, e1, h3, _⟩
    · cases e1
    · injection e1 with e2
      injection e2 with e3
      injection e3 with e4
      omega
  · have h3 := hO.rd.si.tcount
    have h4 := subSum_le hO.rd.si.inv T f l 0
    have h5 := hO.kids h0
    have h6 : vv E T f l 0 = 1 + optv f l 0 := by unfold vv; rw [hsz_zero]
    have h7 := Nat.mul_le_mul_right 402 h3
    by_cases hn : l0 = []
    · have := q3 hn; omega
    · have := q4 hn; omega
  · rw [q2, ahead_all hT0, ← h.lan]
theorem ThR.set {H : Nat} {w' : World} {t : Rx} {K : Nat} {L : List Nat} {v : Value} {n : Nat} (h : ThR H w' t K L v n) {p : Addr} (hp : p.block < H) (x : Value) : ThR H (w'.setCell p x) t K L v n := by
  obtain ⟨u, a, c, h1, h2, h3, h4, h5, h6, h7, h8, h9⟩ := h
  refine ⟨u, a, c, h1, h2, h3, h4, fun h0 => ?_, h6, h7, h8, h9⟩
  obtain ⟨g, off, rfl, hg, hc⟩ := h5 h0
  have hgp : g ≠ p.block := by have := h2 g off none rfl; omega
  have hh := Below.heap_setCell w' p x g hgp
  refine ⟨g, off, rfl, by rw [show (w'.setCell p x).heap.size = w'.heap.size by simp [World.setCell]]; exact hg, fun j hj => ?_⟩
  rw [← hc j hj]
  unfold World.cell?
  simp only [hh]
theorem ThR.more {H H' : Nat} {w' : World} {t : Rx} {K K' : Nat} {L : List Nat} {v : Value} {n : Nat} (h : ThR H w' t K L v n) (hK : K ≤ K') (hH : H' ≤ H) : ThR H' w' t K' L v n := by
  obtain ⟨u, a, c, h1, h2, h3, h4, h5, h6, h7, h8, h9⟩ := h
  exact ⟨u, a, c, h1, fun g o x e => Nat.le_trans hH (h2 g o x e), h3, h4, h5, h6, h7, by omega, h9⟩
/-- What Through gives of a valid expression. -/
def ThPost (t : Rx) (L : List Nat) (most : Int) (K : Nat) (w : World) (e : Ending) (w' : World) : Prop :=
  Below w.heap.size w w' ∧ ∃ (vd : Bool) (v : Value) (k : Nat), e = .returned (.tuple #[.agg #[.bool vd, v], .int .i64 ((k : Nat) : Int)]) ∧
    ((vd = true ∧ v = .slice none 0 0 ∧ k < L.length ∧ ∀ s, ¬ Lan t (L.take (k + 1) ++ s)) ∨
     (vd = false ∧ ∃ n : Nat, ThR w.heap.size w' t K (L.take (k + 1)) v n ∧ ((k < L.length ∧ most < (n : Int)) ∨ k = L.length)))
end Go.Proofs.Ytkdhdlokilgccaa
