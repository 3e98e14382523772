import Derived.Test.YtjhfgiflcenjpaaDoorZRefParts
import Derived.Test.YtjhfgiflcenjpaaDoorZRxAwake
import Derived.Test.YtjhfgiflcenjpaaDoorZRxSets
import Derived.Test.YtjhfgiflcenjpaaDoorZStart
import Derived.Deep.RegionWith
import Derived.Lib.SliceRun
import Derived.Lib.AppendZerosOnto
namespace Go.Proofs.YtjhfgiflcenjpaaDoor
open Go.RowKit
set_option linter.unusedVariables false

theorem Tryd.info_pc : (Tryd.prog.info? 35).map (fun i => (i.zero, i.size, i.bytes)) = some (some (.agg #[.int .i64 0, .int .u64 0, .int .u64 0, .int .u64 0, .int .u64 0]), 5, 40) := by kernel_rfl
theorem pcs_one_cell (l : List Pc) : ∀ u ∈ pcs l, u.oneCell' = true := by
  intro u hu
  simp only [pcs, List.mem_flatMap, pcCells] at hu
  obtain ⟨x, _, hx⟩ := hu
  simp at hx
  rcases hx with rfl | rfl | rfl | rfl | rfl <;> rfl

set_option maxHeartbeats 1000000 in
set_option maxRecDepth 100000 in
theorem clone_any (l : List Pc) (g off m cap : Nat) (w : World) (hL : RxAt w (some ⟨g, off, none⟩) l) (hm : l.length = m) (hp : 1 ≤ m) (hmax : m ≤ 100000) :
    Calls Tryd.prog 24 #[.slice (some ⟨g, off, none⟩) m cap] w fun e w' => ∃ a c, e = .returned (.slice a m c) ∧ w'.ownsRow w.heap.size 35 5 (.slice a m c) m (pcs l) ∧ Below w.heap.size w w' := by
  obtain ⟨i0, hi, hz0, hz1, hz2⟩ := info_parts Tryd.info_pc
  obtain ⟨g', off', e, hg, hc⟩ := hL (by omega)
  simp at e
  obtain ⟨rfl, rfl⟩ := e
  have hlen : (pcs l).length = m * 5 := by rw [pcs_length, hm]
  have HC := Lib.hid hc
  have HN := Lib.hid hm
  have hO := own_lit w w.heap.size 35 5 #[] 0 rfl (Nat.le_refl _) (by unfold maxLen; omega)
  clear hc hL hm
  have hN : ∀ W, (binOp .eql 23 (.slice (some ⟨g, off, none⟩) m cap) (.slice none 0 0)).run Tryd.prog W = .ok (.bool false) W := fun W => by
    have := Lib.run_eql_slice_nil W 23 35 (some ⟨g, off, none⟩) m cap 0 0 Tryd.underlying23
    simpa using this
  go_enter Tryd.func24, Tryd.ntmps24
  go_wp2_with (at_builtin; refine wpList_append_own _ rfl _ _ 23 rfl w.heap.size 35 i0 (.agg #[.int .i64 0, .int .u64 0, .int .u64 0, .int .u64 0, .int .u64 0]) 5 40 Tryd.underlying23 hi hz0 hz1 hz2 rfl (by decide) _ _ _ rfl hO ⟨g, off, none⟩ m cap (pcs l) rfl hlen ?d1 ?d2 ?d3 ?d4 ?d5 ?_)
  case d1 =>
    intro j u hj
    have hjl : j < l.length * 5 := by
      have := (List.getElem?_eq_some_iff.1 hj).1
      rw [pcs_length] at this; exact this
    have h1 := HC.out j hjl
    rw [h1, hj]
  case d2 => exact pcs_one_cell l
  case d3 => unfold maxLen; omega
  case d4 => omega
  intro v' w5 hown5 hgrow5 _
  have hB5 : Below w.heap.size w w5 := ((Below.refl _ w).alloc (Nat.le_refl _) _).trans (grown_kept hgrow5 hO (by simp))
  obtain ⟨a5, c5, rfl⟩ := ownsRow_slice hown5
  have HO5 : Hid (w5.ownsRow w.heap.size 35 5 (.slice a5 m c5) m (pcs l)) := by
    show World.ownsRow _ _ _ _ _ _ _
    simpa using hown5
  clear hown5 hgrow5 hO
  go_wp2_with fail
  go_ret
  exact ⟨a5, c5, by first | rfl | simp, HO5.out, hB5⟩
end Go.Proofs.YtjhfgiflcenjpaaDoor

namespace Go.Proofs.YtjhfgiflcenjpaaDoor
open Go.RowKit Go.Lib
set_option linter.unusedVariables false

/-- A row of zero pieces, of which none is taken yet. -/
theorem zeros_own (w : World) (base : Nat) (v : Array Value) (G : Nat) (hb : base ≤ w.heap.size) (hv : v.size = G * 5) (hG : G ≤ maxLen) : (w.alloc (.cells v 35)).ownsRow base 35 5 (.slice (some ⟨w.heap.size, 0, none⟩) 0 G) 0 [] :=
  ⟨rfl, Or.inr ⟨w.heap.size, G, v, rfl, hb, St.new w _ v, Nat.zero_le _, hG, hv, by simp⟩⟩

set_option maxHeartbeats 1000000 in
set_option maxRecDepth 100000 in
theorem grow_any (n : Nat) (w : World) (hn : 1 ≤ n) (hmax : n ≤ 100000) :
    Calls Tryd.prog 33 #[.slice none 0 0, .int .i64 n] w fun e w' => ∃ a c, e = .returned (.slice a 0 c) ∧ w'.ownsRow w.heap.size 35 5 (.slice a 0 c) 0 [] ∧ Below w.heap.size w w' := by
  obtain ⟨i0, hi, hz0, hz1, hz2⟩ := info_parts Tryd.info_pc
  have hold : (Builtin.firstCells i0.size 0 (.slice none 0 0)).run Tryd.prog w.drew = .ok #[] w.drew := run_firstCells_none w.drew i0.size 0 0 0
  have hrz : ∀ ty, (Builtin.append_ #[23, 3] ty #[.slice none 0 0, .int .i64 n]).run Tryd.prog w =
      .ok (.slice (some ⟨w.heap.size, 0, none⟩) n (grownCap w n 0 35)) (w.drew.alloc (.cells ((#[] : Array Value) ++ Builtin.zeroCells (Value.agg #[.int .i64 0, .int .u64 0, .int .u64 0, .int .u64 0, .int .u64 0]).cells n ++ Builtin.zeroCells (Value.agg #[.int .i64 0, .int .u64 0, .int .u64 0, .int .u64 0, .int .u64 0]).cells (grownCap w n 0 35 - n)) 35)) := fun ty => by
    have h := Lib.run_append_grow_zeros w 23 3 ty 35 i0 (.agg #[.int .i64 0, .int .u64 0, .int .u64 0, .int .u64 0, .int .u64 0]) .i64 .i64 Tryd.underlying23 Tryd.underlying3 hi hz0 none 0 0 [] hold n (by omega) (by rw [hz1]; decide) (by omega) (by omega)
      (by rw [hz2]; omega)
      (growslice_fits (by omega) (by rw [hz2]; omega))
    simpa using h
  obtain ⟨G, hG⟩ : ∃ G, G = grownCap w n 0 35 := ⟨_, rfl⟩
  have hGn : n ≤ G := by rw [hG]; exact grownCap_ge w _ _ _
  have hG63 : G ≤ maxLen := by rw [hG]; exact grownCap_le_maxLen w n 0 35 (by unfold maxLen; omega)
  rw [← hG] at hrz
  have hG2 : G ≤ 9223372036854775807 := by unfold maxLen at hG63; omega
  obtain ⟨cs, hcs⟩ : ∃ cs : Array Value, cs = ((#[] : Array Value) ++ Builtin.zeroCells (Value.agg #[.int .i64 0, .int .u64 0, .int .u64 0, .int .u64 0, .int .u64 0]).cells n ++ Builtin.zeroCells (Value.agg #[.int .i64 0, .int .u64 0, .int .u64 0, .int .u64 0, .int .u64 0]).cells (G - n)) := ⟨_, rfl⟩
  have hz : cs.size = G * 5 := by rw [hcs]; simp [Builtin.zeroCells, Value.cells]; omega
  rw [← hcs] at hrz
  have hO : Hid ((w.alloc (.cells cs 35)).drew.ownsRow w.heap.size 35 5 (.slice (some ⟨w.heap.size, 0, none⟩) 0 G) 0 []) :=
    zeros_own w.drew w.heap.size cs G (Nat.le_refl _) hz hG63
  have hB : Below w.heap.size w (w.alloc (.cells cs 35)).drew := ((Below.refl _ w).drew).alloc (Nat.le_refl _) _
  clear hcs hz
  have HR := Lib.hid hrz
  have HB := Lib.hid hB
  clear hold hrz hB hG hG63
  go_enter Tryd.func33, Tryd.ntmps33
  go_wp2_with (at_builtin; refine Lib.wpList_append_run _ rfl _ _ _ _ rfl _ _ rfl rfl _ _ (HR.out _) ?_)
  all_goals
    go_ret
    exact ⟨_, _, rfl, hO.out, HB.out⟩
end Go.Proofs.YtjhfgiflcenjpaaDoor

namespace Go.Proofs.YtjhfgiflcenjpaaDoor
open Go.RowKit
set_option linter.unusedVariables false

/-- A row of expressions in memory. -/
def PartsAt (w : World) (b : Nat) (L : List (List Pc)) : Prop :=
  ∀ i (h : i < L.length), ∃ g off c, w.cell? ⟨b, i, none⟩ = some (.slice (some ⟨g, off, none⟩) L[i].length c) ∧ RxAt w (some ⟨g, off, none⟩) L[i] ∧ 1 ≤ L[i].length ∧ b < w.heap.size
def flen (L : List (List Pc)) (k : Nat) : Nat := (L.take k).flatten.length
def fpcs (L : List (List Pc)) (k : Nat) : List Value := pcs (L.take k).flatten
theorem flen_succ (L : List (List Pc)) (k : Nat) (h : k < L.length) : flen L (k + 1) = flen L k + L[k].length := by
  unfold flen; rw [List.take_succ_eq_append_getElem h, List.flatten_append, List.length_append]; simp
theorem fpcs_succ (L : List (List Pc)) (k : Nat) (h : k < L.length) : fpcs L (k + 1) = fpcs L k ++ pcs L[k] := by
  unfold fpcs; rw [List.take_succ_eq_append_getElem h, List.flatten_append]; simp [pcs]
theorem flen_le (L : List (List Pc)) (k : Nat) : flen L k ≤ L.flatten.length := by
  unfold flen
  have h : L.flatten.length = (L.take k).flatten.length + (L.drop k).flatten.length := by
    rw [← List.length_append, ← List.flatten_append, List.take_append_drop]
  omega

set_option maxHeartbeats 1000000 in
set_option maxRecDepth 100000 in
theorem concat_any (L : List (List Pc)) (b m cap N : Nat) (w : World) (hL : PartsAt w b L) (hm : L.length = m) (hm2 : m ≤ 2) (hN : L.flatten.length = N) (hp : 1 ≤ N) (hmax : N ≤ 100000) :
    Calls Tryd.prog 26 #[.slice (some ⟨b, 0, none⟩) m cap] w fun e w' => ∃ a c, e = .returned (.slice a N c) ∧ w'.ownsRow w.heap.size 35 5 (.slice a N c) N (pcs L.flatten) ∧ Below w.heap.size w w' := by
  obtain ⟨i0, hi, hz0, hz1, hz2⟩ := info_parts Tryd.info_pc
  have HL := Lib.hid hL
  have HM := Lib.hid hm
  have HF : Hid (∀ k, flen L k ≤ N) := Lib.hid fun k => by rw [← hN]; exact flen_le L k
  have HE : Hid (flen L m = N ∧ fpcs L m = pcs L.flatten) := Lib.hid ⟨by unfold flen; rw [← hm, List.take_length, hN], by unfold fpcs; rw [← hm, List.take_length]⟩
  clear hL hm hN
  go_enter Tryd.func26, Tryd.ntmps26
  go_wp2_with fail
  go_loopw [3, 11] (fun s i wr => ∃ k : Nat, i = .int .i64 k ∧ s = .int .i64 (flen L k) ∧ k ≤ m ∧ w = wr) (fun _ i _ => m - (intOf i).toNat)
  case atStart => exact ⟨0, rfl, rfl, Nat.zero_le _, rfl⟩
  case round =>
    obtain ⟨k, rfl, rfl, hk, rfl⟩ := hrel
    by_cases hlt : k < m
    · have hkl : k < L.length := by rw [HM.out]; exact hlt
      obtain ⟨g, off, c, hc, hR, h1, hb⟩ := HL.out k hkl
      have HS := Lib.hid (flen_succ L k hkl)
      obtain ⟨n, hn⟩ : ∃ n, L[k].length = n := ⟨_, rfl⟩
      rw [hn] at hc HS h1
      have hle := HF.out (k + 1)
      rw [HS.out] at hle
      obtain ⟨f, hf⟩ : ∃ f, flen L k = f := ⟨_, rfl⟩
      rw [hf] at hle HS ⊢
      clear hn hR hf hkl
      have hw1 : IntKind.i64.wrap ((f : Int) + n) = (f : Int) + n := by rw [IntKind.wrap_i64]; omega
      go_wp2_with fail
      go_roundw
      case rel => exact ⟨k + 1, by go_num, by rw [HS.out]; simp, by omega, by first | trivial | rfl⟩
      case measure => simp [intOf]; omega
    · obtain rfl : k = m := by omega
      rw [HE.out.1]
      go_wp2_with fail
      refine (grow_any N _ hp hmax).mono ?_
      rintro e w2 ⟨a2, c2, rfl, hO2, hb2⟩
      have HO2 : Hid (w2.ownsRow w.heap.size 35 5 (.slice a2 0 c2) (flen L 0) (fpcs L 0)) := Lib.hid hO2
      clear hO2
      go_wp2_with fail
      go_loopw [6, 27] (fun v i wx => ∃ q : Nat, i = .int .i64 q ∧ q ≤ k ∧ Hid (wx.ownsRow w.heap.size 35 5 v (flen L q) (fpcs L q)) ∧ Below w.heap.size w wx) (fun _ i _ => k - (intOf i).toNat)
      case atStart => exact ⟨0, rfl, Nat.zero_le _, HO2, hb2⟩
      case round =>
        obtain ⟨q, rfl, hq, HO, hbel⟩ := hrel
        by_cases hlt : q < k
        · have hkl : q < L.length := by rw [HM.out]; exact hlt
          obtain ⟨g, off, c, hc, hR, h1, hb⟩ := HL.out q hkl
          have HS := Lib.hid (flen_succ L q hkl)
          have HP := Lib.hid (fpcs_succ L q hkl)
          have hR2 := hR.below hbel
          have hc2 := (hbel.cell (p := ⟨b, q, none⟩) hb).trans hc
          obtain ⟨l, hl⟩ : ∃ l, L[q] = l := ⟨_, rfl⟩
          rw [hl] at hR2 HS HP h1 hc2
          obtain ⟨n, hn⟩ : ∃ n, l.length = n := ⟨_, rfl⟩
          have hpl : (pcs l).length = n * 5 := by rw [pcs_length, hn]
          obtain ⟨g', off', e, hg, hcc⟩ := hR2 (by omega)
          simp at e
          obtain ⟨rfl, rfl⟩ := e
          rw [hn] at hc2 HS h1 hcc
          have HCC := Lib.hid hcc
          have hle := HF.out (q + 1)
          rw [HS.out] at hle
          have hO := HO.out
          obtain ⟨f, hf⟩ : ∃ f, flen L q = f := ⟨_, rfl⟩
          obtain ⟨F, hFF⟩ : ∃ F, fpcs L q = F := ⟨_, rfl⟩
          rw [hf] at hle HS hO
          rw [hFF] at hO HP
          obtain ⟨a3, c3, rfl⟩ := ownsRow_slice hO
          have hsz := hbel.size
          clear hl hn hR hR2 hc hkl hf hFF hcc HO
          go_wp2_with (at_builtin; refine wpList_append_own _ rfl _ _ 23 rfl w.heap.size 35 i0 (.agg #[.int .i64 0, .int .u64 0, .int .u64 0, .int .u64 0, .int .u64 0]) 5 40 Tryd.underlying23 hi hz0 hz1 hz2 rfl (by decide) _ _ _ rfl hO ⟨g, off, none⟩ n c (pcs l) rfl hpl ?d1 ?d2 ?d3 ?d4 ?d5 ?_)
          case d1 =>
            intro j u hj
            have hjl : j < n * 5 := by
              have := (List.getElem?_eq_some_iff.1 hj).1
              rw [hpl] at this; exact this
            have h1 := HCC.out j hjl
            rw [show (⟨g, off, none⟩ : Addr).add j = ⟨g, off + j, none⟩ from by unfold Addr.add; split <;> simp_all]
            rw [h1, hj]
          case d2 => exact pcs_one_cell l
          case d3 => unfold maxLen; omega
          case d4 => omega
          case d5 => omega
          intro v' w5 hown5 hgrow5 _
          have hb5 : Below w.heap.size w w5 := hbel.trans (grown_kept hgrow5 hO hsz)
          have HO5 : Hid (w5.ownsRow w.heap.size 35 5 v' (flen L (q + 1)) (fpcs L (q + 1))) := by
            rw [HS.out, HP.out]; exact hown5
          clear hown5 hgrow5 hO
          go_wp2_with fail
          go_roundw
          case rel => exact ⟨q + 1, by go_num, by omega, HO5, hb5⟩
          case measure => simp [intOf]; omega
        · obtain rfl : q = k := by omega
          rw [HE.out.1, HE.out.2] at HO
          obtain ⟨a3, c3, rfl⟩ := ownsRow_slice HO.out
          go_wp2_with fail
          go_ret
          exact ⟨a3, c3, rfl, HO.out, hbel⟩
end Go.Proofs.YtjhfgiflcenjpaaDoor

namespace Go.Proofs.YtjhfgiflcenjpaaDoor
open Go.RowKit
set_option linter.unusedVariables false

set_option maxHeartbeats 1000000 in
set_option maxRecDepth 100000 in
theorem join_any (kk : Int) (L : List (List Pc)) (b m cap N : Nat) (w : World) (hL : PartsAt w b L) (hm : L.length = m) (h1 : 1 ≤ m) (hm2 : m ≤ 2) (ht : takesZ kk = m) (hN : L.flatten.length = N) (hp : 1 ≤ N) (hmax : N ≤ 99999) :
    Calls Tryd.prog 16 #[.int .i64 kk, .slice (some ⟨b, 0, none⟩) m cap] w fun e w' => ∃ a c, e = .returned (.slice a (N + 1) c) ∧ w'.ownsRow w.heap.size 35 5 (.slice a (N + 1) c) (N + 1) (pcs L.flatten ++ [.int .i64 kk, .int .u64 0, .int .u64 0, .int .u64 0, .int .u64 0]) ∧ Below w.heap.size w w' := by
  obtain ⟨i0, hi, hz0, hz1, hz2⟩ := info_parts Tryd.info_pc
  have HT := Lib.hid ht
  have HC := Lib.hid (concat_any L b m cap N w hL hm hm2 hN hp (by omega))
  clear hL hm ht hN
  have e0 : decide ((m : Int) = 0) = false := by simp; omega
  go_enter Tryd.func16, Tryd.ntmps16
  go_wp2_with fail
  refine (takes_any kk _).mono ?_
  rintro e w1 ⟨rfl, rfl⟩
  rw [HT.out]
  go_wp2_with fail
  refine HC.out.mono ?_
  rintro e w2 ⟨a2, c2, rfl, hO2, hb2⟩
  have hsz := hb2.size
  clear HC
  go_wp2_with (at_builtin; refine wpList_append_own _ rfl _ _ 23 rfl _ 35 i0 (.agg #[.int .i64 0, .int .u64 0, .int .u64 0, .int .u64 0, .int .u64 0]) 5 40 Tryd.underlying23 hi hz0 hz1 hz2 rfl (by decide) _ _ _ rfl (hO2.alloc _) ⟨w2.heap.size, 0, none⟩ 1 1 [.int .i64 kk, .int .u64 0, .int .u64 0, .int .u64 0, .int .u64 0] rfl rfl ?d1 ?d2 ?d3 ?d4 ?d5 ?_)
  case d1 =>
    intro j u hj
    match j, hj with
    | 0, hj => simp at hj; subst hj; simp [Addr.add]
    | 1, hj => simp at hj; subst hj; simp [Addr.add]
    | 2, hj => simp at hj; subst hj; simp [Addr.add]
    | 3, hj => simp at hj; subst hj; simp [Addr.add]
    | 4, hj => simp at hj; subst hj; simp [Addr.add]
  case d2 => intro u hu; simp at hu; rcases hu with rfl | rfl <;> rfl
  case d3 => unfold maxLen; omega
  case d4 => omega
  case d5 => simp; omega
  intro v' w5 hown5 hgrow5 _
  have hb5 : Below w.heap.size w w5 := hb2.trans (((Below.refl _ _).alloc (by first | exact hsz | omega) _).trans (grown_kept hgrow5 (hO2.alloc _) (by first | omega | (simp; omega))))
  obtain ⟨a5, c5, rfl⟩ := ownsRow_slice hown5
  have HO5 := Lib.hid hown5
  clear hown5 hgrow5 hO2
  go_wp2_with fail
  go_ret
  exact ⟨a5, c5, rfl, HO5.out, hb5⟩
end Go.Proofs.YtjhfgiflcenjpaaDoor

namespace Go.Proofs.YtjhfgiflcenjpaaDoor
open Go.RowKit
set_option linter.unusedVariables false

set_option maxHeartbeats 1000000 in
set_option maxRecDepth 100000 in
/-- One operand: the pieces ahead of the last. -/
theorem parts_un (l : List Pc) (x : Pc) (g off n cap : Nat) (w : World) (hL : RxAt w (some ⟨g, off, none⟩) (l ++ [x])) (hn : l.length = n) (hp : 1 ≤ n) (hmax : n ≤ 99999) (hcap : n + 1 ≤ cap) (hc6 : cap ≤ 9223372036854775807) (ht : takesZ x.k = 1) :
    Calls Tryd.prog 10 #[.slice (some ⟨g, off, none⟩) (n + 1) cap] w fun e w' => ∃ b c, e = .returned (.slice (some ⟨b, 0, none⟩) 1 c) ∧ PartsAt w' b [l] ∧ w.heap.size ≤ b ∧ Below w.heap.size w w' := by
  have hxl : (l ++ [x])[n]'(by simp; omega) = x := by simp [← hn]
  obtain ⟨g', off', e, hg, c0, c1, c2, c3, c4⟩ := hL.get n (by simp; omega)
  simp at e
  obtain ⟨rfl, rfl⟩ := e
  rw [hxl] at c0
  have hLl : RxAt w (some ⟨g, off, none⟩) l := by
    intro h0
    obtain ⟨g', off', e, hg', hc⟩ := hL (by simp)
    refine ⟨g', off', e, hg', fun j hj => ?_⟩
    rw [hc j (by simp; omega)]
    show (pcs (l ++ [x]))[j]? = _
    rw [pcs_append, List.getElem?_append_left (by rw [pcs_length]; exact hj)]
  have HCl := Lib.hid (clone_any l g off n cap w hLl hn hp (by omega))
  have HT := Lib.hid ht
  have HN := Lib.hid hn
  clear hL hLl c1 c2 c3 c4 hxl hn
  go_enter Tryd.func10, Tryd.ntmps10
  go_wp2_with fail
  refine (takes_any x.k _).mono ?_
  rintro e w1 ⟨rfl, rfl⟩
  rw [HT.out]
  go_wp2_with fail
  refine HCl.out.mono ?_
  rintro e w2 ⟨a2, k2, rfl, hO2, hb2⟩
  obtain ⟨g2, rfl, hg2, hg3, _⟩ := ownsRow_read hO2 (by omega)
  have hR2 := Lib.hid (own_at hO2 HN.out)
  have hsz := hb2.size
  clear hO2 HCl
  go_wp2_with fail
  go_ret
  have kb : Below w2.heap.size w2 (w2.alloc (.cells #[.slice (some ⟨g2, 0, none⟩) n k2] 23)) := (Below.refl _ _).alloc (Nat.le_refl _) _
  refine ⟨w2.heap.size, 1, rfl, ?_, hsz, hb2.trans (kb.mono hsz)⟩
  intro i hi
  match i, hi with
  | 0, _ =>
    refine ⟨g2, 0, k2, ?_, hR2.out.below kb, ?_, ?_⟩
    · show _ = some (Value.slice (some ⟨g2, 0, none⟩) l.length k2)
      rw [HN.out]
      simp
    · show 1 ≤ l.length
      rw [HN.out]; exact hp
    · simp
end Go.Proofs.YtjhfgiflcenjpaaDoor

namespace Go.Proofs.YtjhfgiflcenjpaaDoor
open Go.RowKit
set_option linter.unusedVariables false

set_option maxHeartbeats 2000000 in
set_option maxRecDepth 100000 in
/-- Two operands: the pieces ahead of where the second begins, and those from there to the last. -/
theorem parts_bin (A B : List Pc) (x : Pc) (g off n cap ma mb : Nat) (w : World) (hL : RxAt w (some ⟨g, off, none⟩) (A ++ (B ++ [x]))) (ha : A.length = ma) (hb : B.length = mb) (hn : ma + mb = n) (hpa : 1 ≤ ma) (hpb : 1 ≤ mb) (hst : startT (A ++ (B ++ [x])) (n - 1) = ma) (hmax : n ≤ 99999) (hcap : n + 1 ≤ cap) (hc6 : cap ≤ 9223372036854775807) (ht : takesZ x.k = 2) :
    Calls Tryd.prog 10 #[.slice (some ⟨g, off, none⟩) (n + 1) cap] w fun e w' => ∃ b c, e = .returned (.slice (some ⟨b, 0, none⟩) 2 c) ∧ PartsAt w' b [A, B] ∧ w.heap.size ≤ b ∧ Below w.heap.size w w' := by
  have hlen : (A ++ (B ++ [x])).length = n + 1 := by simp; omega
  have hxl : (A ++ (B ++ [x]))[n]'(by omega) = x := by
    rw [List.getElem_append_right (by omega), List.getElem_append_right (by omega)]; simp
  obtain ⟨g', off', e, hg, c0, c1, c2, c3, c4⟩ := hL.get n (by omega)
  simp at e
  obtain ⟨rfl, rfl⟩ := e
  rw [hxl] at c0
  have hLA : RxAt w (some ⟨g, off, none⟩) A := by
    intro h0
    obtain ⟨g', off', e, hg', hc⟩ := hL (by omega)
    refine ⟨g', off', e, hg', fun j hj => ?_⟩
    rw [hc j (by omega), pcs_append, List.getElem?_append_left (by rw [pcs_length]; exact hj)]
  have hLB : RxAt w (some ⟨g, off + ma * 5, none⟩) B := by
    intro h0
    obtain ⟨g', off', e, hg', hc⟩ := hL (by omega)
    simp at e
    obtain ⟨rfl, rfl⟩ := e
    refine ⟨g, off + ma * 5, rfl, hg', fun j hj => ?_⟩
    have := hc (ma * 5 + j) (by omega)
    rw [show off + ma * 5 + j = off + (ma * 5 + j) by omega, this, pcs_append, List.getElem?_append_right (by have h1 := pcs_length A; omega), pcs_append, List.getElem?_append_left (by have h1 := pcs_length A; have h2 := pcs_length B; omega)]
    congr 1
    rw [pcs_length]; omega
  obtain ⟨q, hq⟩ : ∃ q, n - 1 = q := ⟨_, rfl⟩
  rw [hq] at hst
  have eq1 : ((n : Nat) : Int) - 1 = ((q : Nat) : Int) := by omega
  have hS := start_any (A ++ (B ++ [x])) (some ⟨g, off, none⟩) (n + 1) cap w hL hlen (by omega) q (by omega)
  rw [hst] at hS
  have HS := Lib.hid hS
  have HLA := Lib.hid hLA
  have HLB := Lib.hid hLB
  have HT := Lib.hid ht
  have HA := Lib.hid ha
  have HB := Lib.hid hb
  have hmb : n - ma = mb := by omega
  have hman : ma ≤ n := by omega
  have hmac : ma ≤ cap := by omega
  have hnc : n ≤ cap := by omega
  clear hL hLA hLB c1 c2 c3 c4 hxl hlen hS hst hq
  go_enter Tryd.func10, Tryd.ntmps10
  go_wp2_with fail
  refine (takes_any x.k _).mono ?_
  rintro e w1 ⟨rfl, rfl⟩
  rw [HT.out]
  go_wp2_with fail
  refine HS.out.mono ?_
  rintro e w2 ⟨rfl, rfl⟩
  go_wp2_with fail
  have hb0 : Below w.heap.size w w := Below.refl _ _
  clear HS
  go_region_with (first
    | (go_at_call 24; refine (clone_any A g off ma cap _ (HLA.out.below (by first | exact hbB | exact hbB.drew | exact hb0 | exact hb0.drew)) HA.out hpa (by omega)).mono ?_; rintro e wA ⟨aA, kA, rfl, hOA, hbA'⟩; (have hbA : Below w.heap.size w wA := (by first | exact hbB.trans (hbA'.mono hbB.size) | exact hbB.drew.trans (hbA'.mono hbB.size) | exact hb0.trans (hbA'.mono hb0.size) | exact hb0.drew.trans (hbA'.mono hb0.size))); (obtain ⟨gA, rfl, hgA, hgA3, _⟩ := ownsRow_read hOA (by omega)); (have hRA := own_at hOA HA.out))
    | (go_at_call 24; refine (clone_any B g (off + ma * 5) mb (cap - ma) _ (HLB.out.below (by first | exact hbA | exact hbA.drew | exact hb0 | exact hb0.drew)) HB.out hpb (by omega)).mono ?_; rintro e wB ⟨aB, kB, rfl, hOB, hbB'⟩; (have hbB : Below w.heap.size w wB := (by first | exact hbA.trans (hbB'.mono hbA.size) | exact hbA.drew.trans (hbB'.mono hbA.size) | exact hb0.trans (hbB'.mono hb0.size) | exact hb0.drew.trans (hbB'.mono hb0.size))); (obtain ⟨gB, rfl, hgB, hgB3, _⟩ := ownsRow_read hOB (by omega)); (have hRB := own_at hOB HB.out)))
  all_goals go_wp2_with fail
  all_goals go_ret
  all_goals
    have kb : Below wB.heap.size wB (wB.alloc (.cells #[.slice (some ⟨gA, 0, none⟩) ma kA, .slice (some ⟨gB, 0, none⟩) mb kB] 23)) := (Below.refl _ _).alloc (Nat.le_refl _) _
    have hRA2 := (hRA.below hbB').below kb
    have hRB2 := hRB.below kb
    refine ⟨wB.heap.size, 2, rfl, ?_, hbB.size, hbB.trans (kb.mono hbB.size)⟩
    intro i hi
    match i, hi with
    | 0, _ =>
      refine ⟨gA, 0, kA, ?_, hRA2, ?_, ?_⟩
      · show _ = some (Value.slice (some ⟨gA, 0, none⟩) A.length kA)
        rw [HA.out]; simp
      · show 1 ≤ A.length
        rw [HA.out]; exact hpa
      · simp
    | 1, _ =>
      refine ⟨gB, 0, kB, ?_, hRB2, ?_, ?_⟩
      · show _ = some (Value.slice (some ⟨gB, 0, none⟩) B.length kB)
        rw [HB.out]; simp
      · show 1 ≤ B.length
        rw [HB.out]; exact hpb
      · simp
end Go.Proofs.YtjhfgiflcenjpaaDoor

namespace Go.Proofs.YtjhfgiflcenjpaaDoor
open Go.RowKit
set_option linter.unusedVariables false

/-- The operands of an expression. -/
def Rx.kids : Rx → List (List Pc)
  | .leaf _ => []
  | .un _ a => [a.flat]
  | .bin _ a b => [a.flat, b.flat]
theorem Rx.kids_flat (t : Rx) : t.flat = t.kids.flatten ++ [t.top] := by cases t <;> simp [Rx.flat, Rx.kids, Rx.top]
theorem Rx.kids_takes (t : Rx) (hw : t.wf) : takesZ t.top.k = t.kids.length := by cases t <;> exact hw.1
theorem Rx.kids_two (t : Rx) : t.kids.length ≤ 2 := by cases t <;> simp [Rx.kids]
/-- A row of expressions, none where there are none. -/
def PartsIn (w : World) (a : Option Addr) (L : List (List Pc)) : Prop :=
  ∀ i (h : i < L.length), ∃ b g off c, a = some ⟨b, 0, none⟩ ∧ w.cell? ⟨b, i, none⟩ = some (.slice (some ⟨g, off, none⟩) L[i].length c) ∧ RxAt w (some ⟨g, off, none⟩) L[i] ∧ 1 ≤ L[i].length ∧ b < w.heap.size
theorem PartsIn.below {w w' : World} {a : Option Addr} {L : List (List Pc)} (h : PartsIn w a L) (k : Below w.heap.size w w') : PartsIn w' a L := by
  intro i hi
  obtain ⟨b, g, off, c, e, h1, h2, h3, h4⟩ := h i hi
  have := k.size
  exact ⟨b, g, off, c, e, (k.cell (p := ⟨b, i, none⟩) h4).trans h1, h2.below k, h3, by omega⟩
theorem PartsIn.at {w : World} {a : Option Addr} {L : List (List Pc)} (h : PartsIn w a L) (h1 : 1 ≤ L.length) : ∃ b, a = some ⟨b, 0, none⟩ ∧ PartsAt w b L := by
  obtain ⟨b, _, _, _, e, _⟩ := h 0 (by omega)
  refine ⟨b, e, fun i hi => ?_⟩
  obtain ⟨b', g, off, c, e', h1, h2, h3, h4⟩ := h i hi
  rw [e] at e'
  simp at e'
  subst e'
  exact ⟨g, off, c, h1, h2, h3, h4⟩
theorem PartsAt.to {w : World} {b : Nat} {L : List (List Pc)} (h : PartsAt w b L) : PartsIn w (some ⟨b, 0, none⟩) L := fun i hi => by
  obtain ⟨g, off, c, h1, h2, h3, h4⟩ := h i hi
  exact ⟨b, g, off, c, rfl, h1, h2, h3, h4⟩

set_option maxHeartbeats 1000000 in
set_option maxRecDepth 100000 in
theorem parts_leaf (x : Pc) (g off cap : Nat) (w : World) (hL : RxAt w (some ⟨g, off, none⟩) [x]) (ht : takesZ x.k = 0) :
    Calls Tryd.prog 10 #[.slice (some ⟨g, off, none⟩) 1 cap] w fun e w' => e = .returned (.slice none 0 0) ∧ Below w.heap.size w w' := by
  obtain ⟨g', off', e, hg, c0, -⟩ := hL.get 0 (by simp)
  simp at e
  obtain ⟨rfl, rfl⟩ := e
  simp at c0
  have HT := Lib.hid ht
  clear hL ht
  go_enter Tryd.func10, Tryd.ntmps10
  go_wp2_with fail
  refine (takes_any x.k _).mono ?_
  rintro e w1 ⟨rfl, rfl⟩
  rw [HT.out]
  go_wp2_with fail
  go_ret
  exact ⟨rfl, Below.refl _ _⟩

/-- What the program gives for the parts of any expression. -/
theorem parts_t (t : Rx) (ht : t.wf) (g off n cap : Nat) (w : World) (hL : RxAt w (some ⟨g, off, none⟩) t.flat) (hn : t.flat.length = n) (hmax : n ≤ 400) (hcap : n ≤ cap ∧ cap ≤ maxLen) :
    Calls Tryd.prog 10 #[.slice (some ⟨g, off, none⟩) n cap] w fun e w' => ∃ a c, e = .returned (.slice a t.kids.length c) ∧ PartsIn w' a t.kids ∧ Below w.heap.size w w' := by
  obtain ⟨hc1, hc2⟩ := hcap
  unfold maxLen at hc2
  match t, ht, hL, hn with
  | .leaf x, ht, hL, hn =>
    obtain rfl : n = 1 := by rw [← hn]; rfl
    refine (parts_leaf x g off cap w hL ht.1).mono ?_
    rintro e w' ⟨rfl, b⟩
    exact ⟨none, 0, rfl, fun i hi => absurd hi (by simp [Rx.kids]), b⟩
  | .un x s, ht, hL, hn =>
    have hp := s.flat_pos
    have hln : s.flat.length + 1 = n := by rw [← hn]; simp [Rx.flat]
    subst hln
    refine (parts_un s.flat x g off s.flat.length cap w hL rfl hp (by omega) hc1 (by omega) ht.1).mono ?_
    rintro e w' ⟨b, c, rfl, hP, _, hb⟩
    exact ⟨_, c, rfl, hP.to, hb⟩
  | .bin x s u, ht, hL, hn =>
    have hp := s.flat_pos
    have hp2 := u.flat_pos
    have hln : s.flat.length + u.flat.length + 1 = n := by rw [← hn]; simp [Rx.flat]; omega
    subst hln
    refine (parts_bin s.flat u.flat x g off (s.flat.length + u.flat.length) cap s.flat.length u.flat.length w hL rfl rfl rfl hp hp2 ?_ (by omega) hc1 (by omega) ht.1).mono ?_
    · exact startT_tree s.flat [x] u ht.2.2.2 _ (by omega)
    rintro e w' ⟨b, c, rfl, hP, _, hb⟩
    exact ⟨_, c, rfl, hP.to, hb⟩

/-- .. and the reference. -/
theorem rparts_t (t : Rx) (ht : t.wf) (g off n cap : Nat) (w : World) (hL : RxAt w (some ⟨g, off, none⟩) t.flat) (hn : t.flat.length = n) (hmax : n ≤ 400) (hcap : n ≤ cap ∧ cap ≤ maxLen) :
    Calls Tryd.prog 11 #[.slice (some ⟨g, off, none⟩) n cap] w fun e w' => ∃ a c, e = .returned (.slice a t.kids.length c) ∧ PartsIn w' a t.kids ∧ Below w.heap.size w w' := by
  obtain ⟨g', off', e, hg, hcc⟩ := hL t.flat_pos
  simp at e
  obtain ⟨rfl, rfl⟩ := e
  match t, ht, hL, hn with
  | .leaf x, ht, hL, hn =>
    refine (rparts_leaf x ht.1 g off n cap w hL (by rw [← hn]; rfl)).mono ?_
    rintro e w' ⟨a, c, rfl, hO, b⟩
    exact ⟨a, c, rfl, fun i hi => absurd hi (by simp [Rx.kids]), b⟩
  | .un x s, ht, hL, hn =>
    have hp := s.flat_pos
    have hln : s.flat.length + 1 = n := by rw [← hn]; simp [Rx.flat]
    refine (rparts_un x s ht.2.2 ht.1 g off n cap w hL s.flat.length rfl hln.symm (by omega) hcap).mono ?_
    rintro e w' ⟨a, c, rfl, hO, b⟩
    refine ⟨a, c, rfl, ?_, b⟩
    obtain ⟨gr, ha, _, hgr, hc⟩ := ownsRow_read hO (by simp)
    subst ha
    intro i hi
    have h0 : i = 0 := by simp [Rx.kids] at hi; omega
    subst h0
    refine ⟨gr, g, off, cap, rfl, (hc 0 (by simp)).1, ?_, hp, hgr⟩
    have hs : RxAt w (some ⟨g, off, none⟩) s.flat := fun _ => ⟨g, off, rfl, hg, fun j hj => by
      rw [hcc j (by simp [Rx.flat] at hj ⊢; omega)]
      show (pcs (s.flat ++ [x]))[j]? = _
      rw [pcs_append, List.getElem?_append_left (by rw [pcs_length]; exact hj)]⟩
    exact hs.below b
  | .bin x s u, ht, hL, hn =>
    have hp := s.flat_pos
    have hp2 := u.flat_pos
    have hln : s.flat.length + u.flat.length + 1 = n := by rw [← hn]; simp [Rx.flat]; omega
    refine (rparts_bin x s u ht.2.2.1 ht.2.2.2 ht.1 g off n cap w hL s.flat.length u.flat.length rfl rfl hln.symm (by omega) hcap).mono ?_
    rintro e w' ⟨a, c, rfl, hO, b⟩
    refine ⟨a, c, rfl, ?_, b⟩
    obtain ⟨gr, ha, _, hgr, hc⟩ := ownsRow_read hO (by simp)
    subst ha
    have hs : RxAt w (some ⟨g, off, none⟩) s.flat := fun _ => ⟨g, off, rfl, hg, fun j hj => by
      rw [hcc j (by simp [Rx.flat] at hj ⊢; omega)]
      show (pcs (s.flat ++ (u.flat ++ [x])))[j]? = _
      rw [pcs_append, List.getElem?_append_left (by rw [pcs_length]; exact hj)]⟩
    have hu : RxAt w (some ⟨g, off + s.flat.length * 5, none⟩) u.flat := fun _ => ⟨g, _, rfl, hg, fun j hj => by
      have h1 := hcc (s.flat.length * 5 + j) (by simp [Rx.flat] at hj ⊢; omega)
      rw [show off + s.flat.length * 5 + j = off + (s.flat.length * 5 + j) by omega, h1]
      show (pcs (s.flat ++ (u.flat ++ [x])))[_]? = _
      have e5 := pcs_length s.flat
      have e6 := pcs_length u.flat
      rw [pcs_append, List.getElem?_append_right (by omega), pcs_append, List.getElem?_append_left (by omega)]
      congr 1
      omega⟩
    intro i hi
    have h2 : i = 0 ∨ i = 1 := by simp [Rx.kids] at hi; omega
    rcases h2 with rfl | rfl
    · exact ⟨gr, g, off, cap, rfl, (hc 0 (by simp)).1, hs.below b, hp, hgr⟩
    · exact ⟨gr, g, _, _, rfl, (hc 1 (by simp)).1, hu.below b, hp2, hgr⟩
end Go.Proofs.YtjhfgiflcenjpaaDoor
