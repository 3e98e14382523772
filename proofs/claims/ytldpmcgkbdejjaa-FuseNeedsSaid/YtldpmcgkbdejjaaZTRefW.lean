import Derived.Test.YtldpmcgkbdejjaaZNNew
import Derived.Test.YtldpmcgkbdejjaaZSClose
import Derived.Test.YtldpmcgkbdejjaaZSLeadN
import Derived.Test.YtldpmcgkbdejjaaZSVar
import Derived.BigFrame
import Derived.Scope
import Derived.Deep.RegionHeld
import Derived.Deep.RegionHeld3
import Derived.OrdersHeld
import Derived.Maps.AppendAt
namespace Go.Proofs.Ytldpmcgkbdejjaa
open Go.RowKit Go.Maps Go.WideElems Go.ChangeMaps Go.MapKept
set_option linter.unusedVariables false
set_option linter.unusedSimpArgs false

/-- A deterministic automaton: its classes, its rows, its marks, as they lie. -/
structure Dd where
  cD : Array Value
  K : Nat → Nat
  aN : Option Addr
  n : Nat
  cN : Nat
  A : Nat → Option Addr
  Cp : Nat → Nat
  len : Nat → Nat
  nx : Nat → Nat → Int
  aM : Option Addr
  m : Nat
  cM : Nat
  q : Nat → Int
/-- .. in memory. -/
structure DM (w : World) (D : Dd) : Prop where
  sz : D.cD.size = 258
  one : ∀ v ∈ D.cD.toList, v.oneCell' = true
  cl : ∀ j, j < 256 → D.cD[j]? = some (.int .u8 ((D.K j : Nat) : Int))
  kl : ∀ j, j < 256 → D.K j < 256
  fN : D.cD[256]? = some (.slice D.aN D.n D.cN)
  fM : D.cD[257]? = some (.slice D.aM D.m D.cM)
  rN : ZsAt w D.aN D.n D.A D.Cp D.len D.nx
  rM : ZAt w D.aM D.m D.q
theorem DM.below {w w' : World} {D : Dd} (h : DM w D) (k : Below w.heap.size w w') : DM w' D := ⟨h.sz, h.one, h.cl, h.kl, h.fN, h.fM, h.rN.below k, h.rM.below k⟩
/-- The automaton's box. -/
structure DBx (w : World) (b : Nat) (D : Dd) : Prop where
  st : St w 26 b D.cD
  dm : DM w D
theorem DBx.keep {w w' : World} {b : Nat} {D : Dd} (h : DBx w b D) (k : Below w.heap.size w w') : DBx w' b D := ⟨h.st.keep k, h.dm.below k⟩
theorem DBx.new {w : World} {D : Dd} (h : DM w D) : DBx (w.alloc (.cells D.cD 26)) w.heap.size D := ⟨St.new _ _ _, h.below (al w _)⟩
theorem DBx.f1 {w : World} {b : Nat} {D : Dd} (h : DBx w b D) : w.cell? ⟨b, 256, none⟩ = some (.slice D.aN D.n D.cN) := by rw [h.st.at_, h.dm.fN]
theorem DBx.f2 {w : World} {b : Nat} {D : Dd} (h : DBx w b D) : w.cell? ⟨b, 257, none⟩ = some (.slice D.aM D.m D.cM) := by rw [h.st.at_, h.dm.fM]
theorem DBx.f0 {w : World} {b : Nat} {D : Dd} (h : DBx w b D) (j : Nat) (hj : j < 256) : w.cell? ⟨b, j, none⟩ = some (.int .u8 ((D.K j : Nat) : Int)) := by rw [h.st.at_, h.dm.cl j hj]
theorem DM.info {w : World} {D : Dd} (h : DM w D) : (Try.prog.info? 26).map (·.size) = some D.cD.size := by rw [info_dfa9, h.sz]
/-- The row of a state. -/
theorem DM.row {w : World} {D : Dd} (h : DM w D) (i : Nat) (hi : i < D.n) : ∃ g off, D.aN = some ⟨g, off, none⟩ ∧ g < w.heap.size ∧ w.cell? ⟨g, off + i, none⟩ = some (.slice (D.A i) (D.len i) (D.Cp i)) ∧ ZAt w (D.A i) (D.len i) (D.nx i) := by
  obtain ⟨g, off, e, hg, hc⟩ := h.rN (by omega)
  exact ⟨g, off, e, hg, hc i hi⟩
/-- How many classes there are. -/
def IsC (K : Nat → Nat) (C : Nat) : Prop := (∀ j, j < 256 → K j < C) ∧ ∃ j, j < 256 ∧ K j + 1 = C
theorem IsC.uniq {K : Nat → Nat} {C C' : Nat} (h : IsC K C) (h' : IsC K C') : C = C' := by
  obtain ⟨j, hj, e⟩ := h.2
  obtain ⟨j', hj', e'⟩ := h'.2
  have := h.1 j' hj'
  have := h'.1 j hj
  omega
/-- It may be. -/
structure DR (D : Dd) (C : Nat) : Prop where
  c : IsC D.K C
  n1 : 1 ≤ D.n
  n2 : D.n ≤ 32768
  m : D.m = D.n
  gap : ∀ c, c < C → ∃ j, j < 256 ∧ D.K j = c
  len : ∀ i, i < D.n → D.len i = C
  q : ∀ i, i < D.n → -1 ≤ D.q i ∧ D.q i < 32768
  nx : ∀ i c, i < D.n → c < C → -1 ≤ D.nx i c ∧ D.nx i c < (D.n : Int)
theorem DR.c256 {D : Dd} {C : Nat} (h : DR D C) (hk : ∀ j, j < 256 → D.K j < 256) : 1 ≤ C ∧ C ≤ 256 := by
  obtain ⟨j, hj, e⟩ := h.c.2
  have := hk j hj
  omega
/-- The classes alone. -/
def clsOf (K : Nat → Nat) : Array Value := ((List.range 256).map fun j => Value.int .u8 ((K j : Nat) : Int)).toArray
theorem clsOf_at (K : Nat → Nat) (j : Nat) (hj : j < 256) : (clsOf K)[j]? = some (.int .u8 ((K j : Nat) : Int)) := by simp [clsOf, hj]
theorem clsOf_size (K : Nat → Nat) : (clsOf K).size = 256 := by simp [clsOf]
theorem clsOf_info (K : Nat → Nat) : (Try.prog.info? 22).map (·.size) = some (clsOf K).size := by rw [clsOf_size]; kernel_rfl
theorem DBx.clsPart {w : World} {b : Nat} {D : Dd} (h : DBx w b D) : ∀ j v, (clsOf D.K).toList[j]? = some v → w.cell? ((⟨b, 0, none⟩ : Addr).add j) = some v := fun j v hj => by
  have hl : j < 256 := by
    have := (List.getElem?_eq_some_iff.1 hj).1
    simpa [clsOf_size] using this
  have e : (⟨b, 0, none⟩ : Addr).add j = ⟨b, j, none⟩ := by unfold Addr.add; split <;> simp_all
  rw [e, h.f0 j hl, ← hj, Array.getElem?_toList, clsOf_at _ j hl]
theorem St.clsPart {w : World} {b t : Nat} {K : Nat → Nat} (h : St w t b (clsOf K)) : ∀ j v, (clsOf K).toList[j]? = some v → w.cell? ((⟨b, 0, none⟩ : Addr).add j) = some v := h.part
/-- A guarded load of an array, or of a struct. -/
theorem wpList_load_any9 {P : Program} {ops : Array Oper} {rest : List Oper} {o : Oper} {a : Act} {w : World} {Q : Exit → Act → World → Prop} (hw : Region.wanted o (yielded ops a.tmps) = true) (ty : TypeId) (x : Operand) (ho : o.op = .load ty x)
    (ad : Addr) (hx : a.eval x = .pointer (some ad)) (cs : Array Value) (d : TypeDesc) (hc : ∀ j v, cs.toList[j]? = some v → w.cell? (ad.add j) = some v)
    (hu : P.underlying ty = some d) (hd : (match d with | .struct _ | .array _ _ => true | _ => false) = true) (hi : (P.info? ty).map (·.size) = some cs.size)
    (h : wpList P ops Q rest (a.put o.dst (.agg cs)) w) : wpList P ops Q (o :: rest) a w :=
  BigFrame.wpList_want hw fun _ hK => by
    unfold Oper.wp execOp
    simp only [ho, hx, Instr.loadAt, Instr.sureAddr, Sem.run_bind, Sem.run_pure, Result.andThen_ok, run_loadVar_part w ad ty cs d hc hu hd hi]
    exact hK _ _ h

set_option maxHeartbeats 1000000 in
set_option maxRecDepth 100000 in
theorem tcount_any (K : Nat → Nat) (C : Nat) (hC : IsC K C) (hk : ∀ j, j < 256 → K j < 256) (w : World) :
    Calls Try.prog 69 #[.agg (clsOf K)] w fun e w' => e = .returned (.int .i64 ((C : Nat) : Int)) ∧ Below w.heap.size w w' := by
  have hB := al w (.cells (clsOf K) 22)
  have hS := St.new w 22 (clsOf K)
  have hM := Lib.hid (max_any K 256 256 w.heap.size (by omega) (by omega) hk (w.alloc (.cells (clsOf K) 22)) (fun j hj => by rw [hS.at_, clsOf_at K j hj]))
  have HB := Lib.hid hB
  have HT : Hid (∀ x, (∀ j, j < 256 → K j ≤ x) → (∃ j, j < 256 ∧ K j = x) → x + 1 = C ∧ x < 256) := fun x h1 h2 => by
    obtain ⟨j, hj, e⟩ := hC.2
    obtain ⟨j', hj', rfl⟩ := h2
    have := hC.1 j' hj'
    have := h1 j hj
    have := hk j' hj'
    omega
  clear hB hS
  go_enter Try.func69, Try.ntmps69
  go_wp2_with fail
  refine hM.out.mono ?_
  rintro e w2 ⟨x, rfl, h1, h2, rfl⟩
  obtain ⟨hx, hx2⟩ := HT.out x h1 h2
  have HX := Lib.hid hx
  clear h1 h2 hx
  go_wp2_with fail
  go_ret
  exact ⟨by rw [← HX.out]; first | rfl | (simp; done), HB.out⟩
end Go.Proofs.Ytldpmcgkbdejjaa

namespace Go.Proofs.Ytldpmcgkbdejjaa
open Go.RowKit Go.Maps Go.WideElems Go.ChangeMaps Go.MapKept
set_option linter.unusedVariables false
set_option linter.unusedSimpArgs false

set_option maxHeartbeats 1000000 in
set_option maxRecDepth 100000 in
theorem exists_any (D : Dd) (s : Int) (w : World) (hD : DM w D) :
    Calls Try.prog 65 #[.agg D.cD, .int .i64 s] w fun e w' => e = .returned (.bool (decide (0 ≤ s ∧ s < (D.n : Int)))) ∧ Below w.heap.size w w' := by
  have HB := Lib.hid (And.intro (DBx.new hD) (al w (.cells D.cD 26)))
  clear hD
  go_enter Try.func65, Try.ntmps65
  go_upto_region 1 with fail
  generalize w.alloc (.cells D.cD 26) = W0 at HB ⊢
  obtain ⟨b0, hb0⟩ : ∃ b0, w.heap.size = b0 := ⟨_, rfl⟩
  have Hb0 := Lib.hid hb0
  rw [hb0] at HB
  rw [hb0]
  clear hb0
  have f1 := HB.out.1.f1
  by_cases h0 : 0 ≤ s
  · by_cases h1 : s < (D.n : Int)
    · have HZ : Hid (decide (0 ≤ s ∧ s < (D.n : Int)) = true) := by show _ = _; simp [h0, h1]
      go_wp2_with fail
      go_ret
      exact ⟨by rw [HZ.out]; first | rfl | simp [h0, h1], by first | exact HB.out.2 | (rw [Hb0.out]; exact HB.out.2)⟩
    · have HZ : Hid (decide (0 ≤ s ∧ s < (D.n : Int)) = false) := by show _ = _; simp; omega
      go_wp2_with fail
      go_ret
      exact ⟨by first | (rw [HZ.out]; rfl) | (rw [show decide (0 ≤ s ∧ s < (D.n : Int)) = false from HZ.out]; rfl) | (have := HZ.out; simp_all), by first | exact HB.out.2 | (rw [Hb0.out]; exact HB.out.2)⟩
  · have HZ : Hid (decide (0 ≤ s ∧ s < (D.n : Int)) = false) := by show _ = _; simp; omega
    go_wp2_with fail
    go_ret
    exact ⟨by first | (rw [HZ.out]; rfl) | (rw [show decide (0 ≤ s ∧ s < (D.n : Int)) = false from HZ.out]; rfl) | (have := HZ.out; simp_all), by first | exact HB.out.2 | (rw [Hb0.out]; exact HB.out.2)⟩

set_option maxHeartbeats 1000000 in
set_option maxRecDepth 100000 in
theorem classesRight_yes (K : Nat → Nat) (C : Nat) (hC : IsC K C) (hk : ∀ j, j < 256 → K j < 256) (hg : ∀ c, c < C → ∃ j, j < 256 ∧ K j = c) (w : World) :
    Calls Try.prog 59 #[.agg (clsOf K)] w fun e w' => e = .returned (.bool true) ∧ Below w.heap.size w w' := by
  have hC256 : C ≤ 256 := by
    obtain ⟨j, hj, e⟩ := hC.2
    have := hk j hj
    omega
  have HB := Lib.hid (And.intro (St.new w 22 (clsOf K)) (And.intro (al w (.cells (clsOf K) 22)) (And.intro hC (And.intro hk hg))))
  have hinfo := clsOf_info K
  clear hC hk hg
  go_enter Try.func59, Try.ntmps59
  go_wp2_with fail
  generalize w.alloc (.cells (clsOf K) 22) = W0 at HB ⊢
  obtain ⟨b0, hb0⟩ : ∃ b0, w.heap.size = b0 := ⟨_, rfl⟩
  have Hb0 := Lib.hid hb0
  rw [hb0] at HB
  rw [hb0]
  clear hb0
  have HCn := Lib.hid (tcount_any K C HB.out.2.2.1 HB.out.2.2.2.1 W0)
  refine wp_scope_straight (wp_seq (wp_label ?_))
  go_wp2_with (refine wpList_load_part rfl 22 _ rfl ⟨b0, 0, none⟩ rfl (clsOf K) (.array 256 5) HB.out.1.clsPart Try.underlying22 rfl hinfo ?_)
  refine HCn.out.mono ?_
  rintro e w1 ⟨rfl, b1⟩
  have H1 := Lib.hid (And.intro (HB.out.1.keep b1) (HB.out.2.1.trans (b1.mono (by have := HB.out.2.1.size; have := Hb0.out; omega))))
  clear b1 HCn
  go_wp2_with fail
  go_loopw [3, 5, 8, 12] (fun _ _ v _ wr => ∃ (c : Nat), v = .int .i64 c ∧ c ≤ C ∧ wr = w1) (fun _ _ v _ _ => C - (intOf v).toNat)
  case atStart => exact ⟨0, rfl, by omega, rfl⟩
  case round =>
    obtain ⟨c, rfl, hc, rfl⟩ := hrel
    by_cases hlt : c < C
    · have i1 : (c : Int) < (C : Int) := by omega
      obtain ⟨W9, hW9⟩ : ∃ W9, W9 = wr := ⟨wr, rfl⟩
      have HSt := Lib.hid H1.out.1
      go_wp2_with (refine wpList_load_part rfl 22 _ rfl ⟨b0, 0, none⟩ rfl (clsOf K) (.array 256 5) HSt.out.clsPart Try.underlying22 rfl hinfo ?_)
      go_loopw [5, 12] (fun _ v wq => ∃ (k : Nat), v = .int .i64 k ∧ k ≤ 256 ∧ wq = wr ∧ Hid (∀ j, j < k → K j ≠ c)) (fun _ v _ => 256 - (intOf v).toNat)
      case atStart => exact ⟨0, rfl, by omega, rfl, fun j hj => by omega⟩
      case round =>
        obtain ⟨k, rfl, hk2, rfl, HN⟩ := hrel
        by_cases hlk : k < 256
        · have i2 : (k : Int) < 256 := by omega
          have hv := clsOf_at K k hlk
          have hix := run_index_part 22 5 256 (clsOf K) k _ Try.underlying22 hlk (by kernel_rfl) ⟨_, Try.underlying5, rfl⟩ hv wr
          have hkk := HB.out.2.2.2.1 k hlk
          have HS : Hid (K k ≠ c → ∀ j, j < k + 1 → K j ≠ c) := fun h j hj => by
            by_cases e : j = k
            · subst e; exact h
            · exact HN.out j (by omega)
          generalize K k = y at hv hix hkk HS
          by_cases e : y = c
          · subst e
            clear HS
            go_wp2_with fail
            go_roundw
            case rel => exact ⟨y + 1, by go_num, by omega, by first | trivial | rfl⟩
            case measure => simp [intOf]; omega
          · have HZ := Lib.hid (HS.out e)
            have i3 : ¬ ((y : Int) = (c : Int)) := by omega
            go_wp2_with fail
            go_roundw
            case rel => exact ⟨k + 1, by go_num, by omega, by first | trivial | rfl, HZ⟩
            case measure => simp [intOf]; omega
        · obtain rfl : k = 256 := by omega
          obtain ⟨j, hj, e⟩ := HB.out.2.2.2.2 c hlt
          exact absurd e (HN.out j hj)
    · obtain rfl : c = C := by omega
      go_wp2_with fail
      try dsimp only [Exit.noGoto]
      go_ret
      exact ⟨rfl, by rw [Hb0.out]; exact H1.out.2⟩

set_option maxHeartbeats 1000000 in
set_option maxRecDepth 100000 in
theorem marksRight_yes (D : Dd) (C : Nat) (hR : DR D C) (w : World) (hD : DM w D) :
    Calls Try.prog 60 #[.agg D.cD] w fun e w' => e = .returned (.bool true) ∧ Below w.heap.size w w' := by
  have HB := Lib.hid (And.intro (DBx.new hD) (And.intro (al w (.cells D.cD 26)) hR))
  have hn2 := hR.n2
  have hmn := hR.m
  clear hD hR
  go_enter Try.func60, Try.ntmps60
  go_upto_region 1 with fail
  generalize w.alloc (.cells D.cD 26) = W0 at HB ⊢
  obtain ⟨b0, hb0⟩ : ∃ b0, w.heap.size = b0 := ⟨_, rfl⟩
  have Hb0 := Lib.hid hb0
  rw [hb0] at HB
  rw [hb0]
  clear hb0
  have f1 := HB.out.1.f1
  have f2 := HB.out.1.f2
  rw [hmn] at f2
  have Hmn := Lib.hid hmn
  clear hmn
  go_wp2_with fail
  go_loopw [4, 8] (fun _ v wr => ∃ (k : Nat), v = .int .i64 k ∧ k ≤ D.n ∧ wr = W0) (fun _ v _ => D.n - (intOf v).toNat)
  case atStart => exact ⟨0, rfl, by omega, rfl⟩
  case round =>
    obtain ⟨k, rfl, hk, rfl⟩ := hrel
    by_cases hlt : k < D.n
    · obtain ⟨gM, oM, eM, _, cM0⟩ := HB.out.1.dm.rM (by have := Hmn.out; omega)
      have cM := cM0 k (by have := Hmn.out; omega)
      have hq := HB.out.2.2.q k hlt
      have i1 : (k : Int) < (D.n : Int) := by omega
      rw [eM]
      have HeM := Lib.hid eM
      clear cM0 eM
      generalize D.q k = y at cM hq
      have i2 : decide (y < -1) = false := by simp; omega
      have i3 : decide (32768 ≤ y) = false := by simp; omega
      go_wp2_with fail
      go_roundw
      case rel => exact ⟨k + 1, by go_num, by omega, by first | trivial | rfl⟩
      case measure => simp [intOf]; omega
    · obtain rfl : k = D.n := by omega
      go_wp2_with fail
      go_ret
      exact ⟨rfl, by rw [Hb0.out]; exact HB.out.2.1⟩

set_option maxHeartbeats 1000000 in
set_option maxRecDepth 100000 in
theorem rowsRight_yes (D : Dd) (C : Nat) (hR : DR D C) (w : World) (hD : DM w D) :
    Calls Try.prog 61 #[.agg D.cD] w fun e w' => e = .returned (.bool true) ∧ Below w.heap.size w w' := by
  have HB := Lib.hid (And.intro (DBx.new hD) (And.intro (al w (.cells D.cD 26)) hR))
  have hn2 := hR.n2
  have hC6 := (hR.c256 hD.kl).2
  have hinfo := clsOf_info D.K
  clear hD hR
  go_enter Try.func61, Try.ntmps61
  go_upto_region 1 with fail
  generalize w.alloc (.cells D.cD 26) = W0 at HB ⊢
  obtain ⟨b0, hb0⟩ : ∃ b0, w.heap.size = b0 := ⟨_, rfl⟩
  have Hb0 := Lib.hid hb0
  rw [hb0] at HB
  rw [hb0]
  clear hb0
  have HCn := Lib.hid (tcount_any D.K C HB.out.2.2.c HB.out.1.dm.kl W0)
  go_wp2_with (refine wpList_load_part rfl 22 _ rfl ⟨b0, 0, none⟩ rfl (clsOf D.K) (.array 256 5) HB.out.1.clsPart Try.underlying22 rfl hinfo ?_)
  refine HCn.out.mono ?_
  rintro e w1 ⟨rfl, b1⟩
  have H1 := Lib.hid (And.intro (HB.out.1.keep b1) (HB.out.2.1.trans (b1.mono (by have := HB.out.2.1.size; have := Hb0.out; omega))))
  have f1 := H1.out.1.f1
  clear b1 HCn
  obtain ⟨gN, oN, eN, hgN, cN0⟩ := H1.out.1.dm.rN (by have := HB.out.2.2.n1; omega)
  rw [eN] at f1
  have HeN := Lib.hid eN
  have HcN := Lib.hid cN0
  clear eN cN0
  go_wp2_with fail
  go_loopw [5, 7, 14, 24] (fun _ _ v _ wr => ∃ (i : Nat), v = .int .i64 i ∧ i ≤ D.n ∧ Hid (Below w1.heap.size w1 wr)) (fun _ _ v _ _ => D.n - (intOf v).toNat)
  case atStart => exact ⟨0, rfl, by omega, Below.refl _ _⟩
  case round =>
    obtain ⟨i, rfl, hi, HX⟩ := hrel
    clear f1
    by_cases hlt : i < D.n
    · have cN := (HX.out.cell (p := ⟨gN, oN + i, none⟩) hgN).trans (HcN.out i hlt).1
      have HZn := Lib.hid (HcN.out i hlt).2
      have hlen := HB.out.2.2.len i hlt
      rw [hlen] at cN
      rw [hlen] at HZn
      have i1 : (i : Int) < (D.n : Int) := by omega
      try dsimp only at cN
      clear hlen
      go_wp2_with fail
      go_loopw [7, 24] (fun _ v wq => ∃ (c : Nat), v = .int .i64 c ∧ c ≤ C ∧ Hid (Below w1.heap.size w1 wq)) (fun _ v _ => C - (intOf v).toNat)
      case atStart => exact ⟨0, rfl, by omega, HX⟩
      case round =>
        clear HX cN
        obtain ⟨c, rfl, hc, HX⟩ := hrel
        by_cases hlc : c < C
        · obtain ⟨gA, oA, eA, hgA, cA0⟩ := HZn.out (by omega)
          have cA := (HX.out.cell (p := ⟨gA, oA + c, none⟩) hgA).trans (cA0 c hlc)
          have hb := HB.out.2.2.nx i c hlt hlc
          have i2 : (c : Int) < (C : Int) := by omega
          have HBx := Lib.hid (H1.out.1.keep HX.out)
          rw [eA]
          have HeA := Lib.hid eA
          clear cA0 eA
          generalize D.nx i c = t at cA hb
          by_cases ht : t = -1
          · subst ht
            go_wp2_with fail
            go_roundw
            case rel => exact ⟨c + 1, by go_num, by omega, HX⟩
            case measure => simp [intOf]; omega
          · have ht2 : (t != (-1 : Int)) = true := by simp [ht]
            have HEx := Lib.hid (exists_any D t wr HBx.out.dm)
            have HDe : Hid (decide (0 ≤ t ∧ t < (D.n : Int)) = true) := by show _ = _; simp; omega
            go_wp2_with (refine wpList_load_any9 (by first | rfl | (simp [ht]; done)) 26 _ rfl ⟨b0, 0, none⟩ rfl D.cD _ HBx.out.st.part Try.underlying26 rfl HBx.out.dm.info ?_)
            refine HEx.out.mono ?_
            rintro e w5 ⟨rfl, b5⟩
            have HX5 := Lib.hid (HX.out.trans (b5.mono HX.out.size))
            rw [HDe.out]
            clear b5 HEx
            go_wp2_with fail
            go_roundw
            case rel => exact ⟨c + 1, by go_num, by omega, HX5⟩
            case measure => simp [intOf]; omega
        · obtain rfl : c = C := by omega
          go_wp2_with fail
          go_roundw
          case rel => exact ⟨i + 1, by go_num, by omega, HX⟩
          case measure => simp [intOf]; omega
    · obtain rfl : i = D.n := by omega
      have HF : Hid (Below w.heap.size w wr) := by
        rw [Hb0.out]
        exact H1.out.2.trans (HX.out.mono (by have := H1.out.2.size; have := Hb0.out; omega))
      go_wp2_with fail
      go_ret
      exact ⟨rfl, HF.out⟩

set_option maxHeartbeats 1000000 in
set_option maxRecDepth 100000 in
theorem right_yes (D : Dd) (C : Nat) (hR : DR D C) (w : World) (hD : DM w D) :
    Calls Try.prog 40 #[.agg D.cD] w fun e w' => e = .returned (.bool true) ∧ Below w.heap.size w w' := by
  have HB := Lib.hid (And.intro (DBx.new hD) (And.intro (al w (.cells D.cD 26)) hR))
  have hn2 := hR.n2
  have hn1 := hR.n1
  have hinfo := clsOf_info D.K
  clear hD hR
  go_enter Try.func40, Try.ntmps40
  go_upto_region 1 with fail
  generalize w.alloc (.cells D.cD 26) = W0 at HB ⊢
  obtain ⟨b0, hb0⟩ : ∃ b0, w.heap.size = b0 := ⟨_, rfl⟩
  have Hb0 := Lib.hid hb0
  rw [hb0] at HB
  rw [hb0]
  clear hb0
  have f1 := HB.out.1.f1
  have i1 : ¬ ((D.n : Int) < 1) := by omega
  have i2 : ¬ ((32768 : Int) < (D.n : Int)) := by omega
  have hb9 : b0 ≤ W0.heap.size := by have := HB.out.2.1.size; have := Hb0.out; omega
  have HC1 := Lib.hid (classesRight_yes D.K C HB.out.2.2.c HB.out.1.dm.kl HB.out.2.2.gap W0)
  go_wp2_with (refine wpList_load_part rfl 22 _ rfl ⟨b0, 0, none⟩ rfl (clsOf D.K) (.array 256 5) HB.out.1.clsPart Try.underlying22 rfl hinfo ?_)
  refine HC1.out.mono ?_
  rintro e w1 ⟨rfl, b1⟩
  have H1 := Lib.hid (And.intro (HB.out.1.keep b1) (HB.out.2.1.trans (b1.mono hb9)))
  have hb1 : b0 ≤ w1.heap.size := by have := b1.size; omega
  have HC2 := Lib.hid (marksRight_yes D C HB.out.2.2 w1 H1.out.1.dm)
  clear b1 f1 HC1
  go_wp2_with (refine wpList_load_any9 (by rfl) 26 _ rfl ⟨b0, 0, none⟩ rfl D.cD _ H1.out.1.st.part Try.underlying26 rfl H1.out.1.dm.info ?_)
  refine HC2.out.mono ?_
  rintro e w2 ⟨rfl, b2⟩
  have H2 := Lib.hid (And.intro (H1.out.1.keep b2) (H1.out.2.trans (b2.mono hb1)))
  have hb2 : b0 ≤ w2.heap.size := by have := b2.size; omega
  have HC3 := Lib.hid (rowsRight_yes D C HB.out.2.2 w2 H2.out.1.dm)
  clear b2 HC2
  go_wp2_with (refine wpList_load_any9 (by rfl) 26 _ rfl ⟨b0, 0, none⟩ rfl D.cD _ H2.out.1.st.part Try.underlying26 rfl H2.out.1.dm.info ?_)
  refine HC3.out.mono ?_
  rintro e w3 ⟨rfl, b3⟩
  have HF : Hid (Below w.heap.size w w3) := by
    rw [Hb0.out]
    exact H2.out.2.trans (b3.mono hb2)
  clear b3 HC3
  go_wp2_with fail
  go_ret
  exact ⟨rfl, HF.out⟩
end Go.Proofs.Ytldpmcgkbdejjaa

namespace Go.Proofs.Ytldpmcgkbdejjaa
open Go.RowKit Go.Maps Go.WideElems Go.ChangeMaps Go.MapKept
set_option linter.unusedVariables false
set_option linter.unusedSimpArgs false

theorem isC_ex (K : Nat → Nat) : ∃ C, IsC K C := by
  suffices h : ∀ k, ∃ C, (∀ j, j < k + 1 → K j < C) ∧ ∃ j, j < k + 1 ∧ K j + 1 = C from h 255
  intro k
  induction k with
  | zero => exact ⟨K 0 + 1, fun j hj => by rw [show j = 0 by omega]; omega, 0, by omega, rfl⟩
  | succ k ih =>
    obtain ⟨C, h1, j, hj, h2⟩ := ih
    by_cases h : K (k + 1) < C
    · exact ⟨C, fun i hi => by
        by_cases e : i = k + 1
        · rw [e]; exact h
        · exact h1 i (by omega), j, by omega, h2⟩
    · exact ⟨K (k + 1) + 1, fun i hi => by
        by_cases e : i = k + 1
        · rw [e]; omega
        · have := h1 i (by omega); omega, k + 1, by omega, rfl⟩

set_option maxHeartbeats 1000000 in
set_option maxRecDepth 100000 in
theorem rclasses_any (D : Dd) (C : Nat) (hC : IsC D.K C) (w : World) (hD : DM w D) :
    Calls Try.prog 17 #[.agg D.cD] w fun e w' => e = .returned (.int .i64 ((C : Nat) : Int)) ∧ Below w.heap.size w w' := by
  have hBx := DBx.new hD
  have HB := Lib.hid (And.intro hBx (And.intro (al w (.cells D.cD 26)) (And.intro hC hD.kl)))
  clear hBx hC hD
  go_enter Try.func17, Try.ntmps17
  go_wp2_with fail
  generalize w.alloc (.cells D.cD 26) = W0 at HB ⊢
  obtain ⟨b0, hb0⟩ : ∃ b0, w.heap.size = b0 := ⟨_, rfl⟩
  rw [hb0] at HB
  rw [hb0]
  go_loopw [3, 4] (fun v i wr => ∃ (k x : Nat), i = .int .i64 k ∧ k ≤ 256 ∧ v = .int .i64 ((x : Nat) : Int) ∧ x ≤ 256 ∧ wr = W0 ∧ Hid ((∀ j, j < k → D.K j < x) ∧ ((k = 0 ∧ x = 0) ∨ ∃ j, j < k ∧ D.K j + 1 = x))) (fun _ i _ => 256 - (intOf i).toNat)
  case atStart => exact ⟨0, 0, rfl, by omega, rfl, by omega, rfl, ⟨fun j hj => by omega, Or.inl ⟨rfl, rfl⟩⟩⟩
  case round =>
    obtain ⟨k, x, rfl, hk, rfl, hx, rfl, HX⟩ := hrel
    by_cases hlt : k < 256
    · have ck := HB.out.1.f0 k hlt
      have hvk := HB.out.2.2.2 k hlt
      have HZ : Hid (∀ y, (y = x ∧ D.K k + 1 ≤ x) ∨ (y = D.K k + 1 ∧ x ≤ D.K k + 1) → (∀ j, j < k + 1 → D.K j < y) ∧ ((k + 1 = 0 ∧ y = 0) ∨ ∃ j, j < k + 1 ∧ D.K j + 1 = y)) := fun y hy => by
        obtain ⟨h1, h2⟩ := HX.out
        rcases hy with ⟨rfl, hy⟩ | ⟨rfl, hy⟩
        · refine ⟨fun j hj => by by_cases e : j = k; rw [e]; omega; exact h1 j (by omega), Or.inr ?_⟩
          rcases h2 with ⟨e1, e2⟩ | ⟨j, hj, e⟩
          · exact absurd hy (by omega)
          · exact ⟨j, by omega, e⟩
        · exact ⟨fun j hj => by by_cases e : j = k; rw [e]; omega; have := h1 j (by omega); omega, Or.inr ⟨k, by omega, rfl⟩⟩
      generalize D.K k = y at ck hvk HZ
      have i1 : (k : Int) < 256 := by omega
      rcases Nat.le_total (y + 1) x with hyx | hyx
      · have HZ2 := Lib.hid (HZ.out x (Or.inl ⟨rfl, hyx⟩))
        have hmx : max ((x : Nat) : Int) ((y : Int) + 1) = ((x : Nat) : Int) := by omega
        have hmx2 : max x (y + 1) = x := by omega
        go_wp2_with fail
        go_roundw
        case rel => exact ⟨k + 1, x, by go_num, by omega, by first | rfl | simp [hmx], hx, by first | trivial | rfl, HZ2⟩
        case measure => simp [intOf]; omega
      · have HZ2 := Lib.hid (HZ.out (y + 1) (Or.inr ⟨rfl, hyx⟩))
        have hmx : max ((x : Nat) : Int) ((y : Int) + 1) = ((y : Int) + 1) := by omega
        have hmx2 : max x (y + 1) = y + 1 := by omega
        go_wp2_with fail
        go_roundw
        case rel => exact ⟨k + 1, y + 1, by go_num, by omega, by first | rfl | simp [hmx] | (simp [hmx2]; done), by omega, by first | trivial | rfl, HZ2⟩
        case measure => simp [intOf]; omega
    · obtain rfl : k = 256 := by omega
      have HZ : Hid (x = C) := by
        obtain ⟨h1, h2⟩ := HX.out
        rcases h2 with ⟨e1, e2⟩ | h2
        · omega
        · exact IsC.uniq ⟨h1, h2⟩ HB.out.2.2.1
      go_wp2_with fail
      go_ret
      refine ⟨by rw [HZ.out]; first | rfl | simp, ?_⟩
      rw [hb0]
      exact HB.out.2.1

set_option maxHeartbeats 1000000 in
set_option maxRecDepth 100000 in
theorem rgapless_any (D : Dd) (C : Nat) (hC : IsC D.K C) (w : World) (hD : DM w D) :
    Calls Try.prog 16 #[.agg D.cD] w (TruPost (∀ c, c < C → ∃ j, j < 256 ∧ D.K j = c) w) := by
  have hBx := DBx.new hD
  have hc2 : C ≤ 256 := by
    obtain ⟨j, hj, e⟩ := hC.2
    have := hD.kl j hj
    omega
  have HB := Lib.hid (And.intro hBx (And.intro (al w (.cells D.cD 26)) (And.intro hC hD.kl)))
  clear hBx hC hD
  go_enter Try.func16, Try.ntmps16
  go_wp2_with fail
  generalize w.alloc (.cells D.cD 26) = W0 at HB ⊢
  obtain ⟨b0, hb0⟩ : ∃ b0, w.heap.size = b0 := ⟨_, rfl⟩
  rw [hb0] at HB
  rw [hb0]
  go_loopw [3, 4, 5] (fun i _ _ wr => ∃ (c : Nat), i = .int .i64 c ∧ c ≤ C ∧ Hid (Below b0 w wr ∧ Below W0.heap.size W0 wr ∧ ∀ d, d < c → ∃ j, j < 256 ∧ D.K j = d)) (fun i _ _ _ => C - (intOf i).toNat)
  case atStart => exact ⟨0, rfl, by omega, ⟨HB.out.2.1, Below.refl _ _, fun d hd => by omega⟩⟩
  case round =>
    obtain ⟨c, rfl, hc, HX⟩ := hrel
    have HBx := Lib.hid (HB.out.1.keep HX.out.2.1)
    have HCl := Lib.hid (rclasses_any D C HB.out.2.2.1 wr HBx.out.dm)
    go_wp2_with (refine wpList_load_any9 (by rfl) 26 _ rfl ⟨b0, 0, none⟩ rfl D.cD _ HBx.out.st.part Try.underlying26 rfl HBx.out.dm.info ?_)
    refine HCl.out.mono ?_
    rintro e w2 ⟨rfl, b2⟩
    have HX2 : Hid (Below b0 w w2 ∧ Below W0.heap.size W0 w2) := ⟨HX.out.1.trans (b2.mono (by have := HX.out.1.size; omega)), HX.out.2.1.trans (b2.mono HX.out.2.1.size)⟩
    have HBx2 := Lib.hid (HBx.out.keep b2)
    clear b2 HBx HCl
    by_cases hlt : c < C
    · have i1 : (c : Int) < (C : Int) := by omega
      go_wp2_with fail
      obtain ⟨W9, rfl⟩ : ∃ W9, W9 = w2 := ⟨w2, rfl⟩
      go_loopw [4, 5] (fun v i wq => ∃ (k : Nat) (f : Bool), i = .int .i64 k ∧ k ≤ 256 ∧ v = .bool f ∧ wq = W9 ∧ Hid (f = true ↔ ∃ j, j < k ∧ D.K j = c)) (fun _ i _ => 256 - (intOf i).toNat)
      case atStart => exact ⟨0, false, rfl, by omega, rfl, rfl, ⟨(fun h => by cases h), (fun ⟨j, hj, _⟩ => by omega)⟩⟩
      case round =>
        obtain ⟨k, f, rfl, hk, rfl, rfl, HF⟩ := hrel
        by_cases hlk : k < 256
        · have ck := HBx2.out.f0 k hlk
          have i2 : (k : Int) < 256 := by omega
          have hvk := HB.out.2.2.2 k hlk
          have HS : Hid (∀ f' : Bool, (f' = true ↔ (f = true ∨ D.K k = c)) → (f' = true ↔ ∃ j, j < k + 1 ∧ D.K j = c)) := fun f' h => by
            rw [h, HF.out]
            constructor
            · rintro (⟨j, hj, e⟩ | e)
              · exact ⟨j, by omega, e⟩
              · exact ⟨k, by omega, e⟩
            · rintro ⟨j, hj, e⟩
              by_cases e2 : j = k
              · subst e2; exact Or.inr e
              · exact Or.inl ⟨j, by omega, e⟩
          generalize D.K k = y at ck HS hvk
          rcases f with _ | _
          · by_cases e : y = c
            · subst e
              have HZ := Lib.hid (HS.out true (by simp))
              go_wp2_with fail
              go_roundw
              case rel => exact ⟨k + 1, true, by go_num, by omega, rfl, by first | trivial | rfl, HZ⟩
              case measure => simp [intOf]; omega
            · have HZ := Lib.hid (HS.out false (by simp [e]))
              have i3 : ¬ ((y : Int) = (c : Int)) := by omega
              go_wp2_with fail
              go_roundw
              case rel => exact ⟨k + 1, false, by go_num, by omega, by first | rfl | (simp; omega), by first | trivial | rfl, HZ⟩
              case measure => simp [intOf]; omega
          · have HZ := Lib.hid (HS.out true (by simp))
            go_wp2_with fail
            go_roundw
            case rel => exact ⟨k + 1, true, by go_num, by omega, rfl, by first | trivial | rfl, HZ⟩
            case measure => simp [intOf]; omega
        · obtain rfl : k = 256 := by omega
          rcases f with _ | _
          · have HZ : Hid (¬ ∀ c, c < C → ∃ j, j < 256 ∧ D.K j = c) := fun h => by
              have := HF.out.2 (h c hlt)
              cases this
            go_wp2_with fail
            go_ret
            refine ⟨false, rfl, ⟨(fun h => by cases h), (fun h => absurd h HZ.out)⟩, ?_⟩
            rw [hb0]
            exact HX2.out.1
          · have HZ : Hid (∃ j, j < 256 ∧ D.K j = c) := HF.out.1 rfl
            have HX3 : Hid (Below b0 w wr ∧ Below W0.heap.size W0 wr ∧ ∀ d, d < c + 1 → ∃ j, j < 256 ∧ D.K j = d) := ⟨HX2.out.1, HX2.out.2, fun d hd => by
              by_cases e : d = c
              · subst e; exact HZ.out
              · exact HX.out.2.2 d (by omega)⟩
            go_wp2_with fail
            go_roundw
            case rel => exact ⟨c + 1, by go_num, by omega, HX3⟩
            case measure => simp [intOf]; omega
    · obtain rfl : c = C := by omega
      go_wp2_with fail
      go_ret
      refine ⟨true, rfl, ⟨(fun _ => HX.out.2.2), (fun _ => rfl)⟩, ?_⟩
      rw [hb0]
      exact HX2.out.1
end Go.Proofs.Ytldpmcgkbdejjaa

namespace Go.Proofs.Ytldpmcgkbdejjaa
open Go.RowKit Go.Maps Go.WideElems Go.ChangeMaps Go.MapKept
set_option linter.unusedVariables false
set_option linter.unusedSimpArgs false

theorem run_loadAt_any9 {P : Program} (w : World) (ty : TypeId) (ad : Addr) (cs : Array Value) (d : TypeDesc) (hc : ∀ j v, cs.toList[j]? = some v → w.cell? (ad.add j) = some v)
    (hu : P.underlying ty = some d) (hd : (match d with | .struct _ | .array _ _ => true | _ => false) = true) (hi : (P.info? ty).map (·.size) = some cs.size) :
    (Instr.loadAt ty (.pointer (some ad))).run P w = .ok (.agg cs) w := by
  simp only [Instr.loadAt, Instr.sureAddr, Sem.run_bind, Sem.run_pure, Result.andThen_ok, run_loadVar_part w ad ty cs d hc hu hd hi]
theorem exec_load_any9 {P : Program} {ρ : Operand → Value} {o : Oper} (w : World) (ty : TypeId) (x : Operand) (ho : o.op = .load ty x) (ad : Addr) (hx : ρ x = .pointer (some ad)) (cs : Array Value) (d : TypeDesc) (hc : ∀ j v, cs.toList[j]? = some v → w.cell? (ad.add j) = some v)
    (hu : P.underlying ty = some d) (hd : (match d with | .struct _ | .array _ _ => true | _ => false) = true) (hi : (P.info? ty).map (·.size) = some cs.size) :
    (execOp ρ o).run P w = .ok (.value (.agg cs)) w := by
  unfold execOp
  simp only [ho, hx, Sem.run_bind, run_loadAt_any9 w ty ad cs d hc hu hd hi, Result.andThen_ok, Sem.run_pure]
/-- A state's row and mark may be. -/
def Rok (D : Dd) (C i : Nat) : Prop := D.len i = C ∧ (-1 ≤ D.q i ∧ D.q i < 32768) ∧ ∀ c, c < C → -1 ≤ D.nx i c ∧ D.nx i c < (D.n : Int)

end Go.Proofs.Ytldpmcgkbdejjaa

namespace Go.Proofs.Ytldpmcgkbdejjaa
set_option linter.unusedVariables false
set_option linter.unusedSimpArgs false

/-- What is reached. -/
inductive Rch (E : Nat → Nat → Prop) (A : Nat → Prop) : Nat → Prop
  | base {x : Nat} : A x → Rch E A x
  | step {x y : Nat} : Rch E A x → E x y → Rch E A y
theorem Rch.lt {E : Nat → Nat → Prop} {A : Nat → Prop} {N : Nat} (hA : ∀ x, A x → x < N) (hE : ∀ x y, E x y → y < N) {x : Nat} (h : Rch E A x) : x < N := by
  cases h with
  | base h => exact hA _ h
  | step _ e => exact hE _ _ e
/-- The other way round. -/
theorem Rch.head {E : Nat → Nat → Prop} {x y : Nat} {B : Nat → Prop} (hxy : E x y) {k : Nat} (h : Rch E (fun z => z = y) k) : Rch E (fun z => z = x) k := by
  induction h with
  | base h => subst h; exact .step (.base rfl) hxy
  | step _ e ih => exact .step ih e
theorem rch_back {E : Nat → Nat → Prop} {B : Nat → Prop} (x : Nat) : Rch (fun a b => E b a) B x ↔ ∃ k, Rch E (fun z => z = x) k ∧ B k := by
  constructor
  · intro h
    induction h with
    | base h => exact ⟨_, .base rfl, h⟩
    | @step a b _ e ih =>
      obtain ⟨k, h1, h2⟩ := ih
      exact ⟨k, Rch.head (B := B) e h1, h2⟩
  · rintro ⟨k, h1, h2⟩
    have : ∀ y, Rch E (fun z => z = x) y → Rch (fun a b => E b a) B y → Rch (fun a b => E b a) B x := by
      intro y hy
      induction hy with
      | base h => subst h; exact fun h => h
      | step _ e ih => exact fun h => ih (.step h e)
    exact this k h1 (.base h2)

/-! ### An automaton's -/
def Ed (D : Dd) (x y : Nat) : Prop := x < D.n ∧ ∃ c, c < D.len x ∧ D.nx x c = (y : Int)
theorem DR.ed {D : Dd} {C : Nat} (h : DR D C) : ∀ x y, Ed D x y → y < D.n := fun x y ⟨hx, c, hc, e⟩ => by
  rw [h.len x hx] at hc
  have := h.nx x c hx hc
  omega
end Go.Proofs.Ytldpmcgkbdejjaa

namespace Go.Proofs.Ytldpmcgkbdejjaa
open Go.RowKit Go.Maps Go.WideElems Go.ChangeMaps Go.MapKept
set_option linter.unusedVariables false
set_option linter.unusedSimpArgs false

/-- Truths that grow in a new row. -/
structure OB (W0 : World) (g n : Nat) (f : Nat → Bool) (wr : World) : Prop where
  own : wr.ownsRow W0.heap.size 4 1 (.slice (some ⟨g, 0, none⟩) n n) n (bls f n)
  bel : Below W0.heap.size W0 wr
  lo : W0.heap.size ≤ g
theorem OB.made (W0 : World) (n : Nat) (hn : n ≤ maxLen) : OB W0 W0.heap.size n (fun _ => false) (W0.alloc (.cells (madeCells #[.bool false] n) 4)) := by
  refine ⟨?_, al W0 _, Nat.le_refl _⟩
  have := made_own W0 W0.heap.size n 4 (.bool false) (Nat.le_refl _) hn
  rwa [rep_bls] at this
theorem OB.keep {W0 wr w1 : World} {g n : Nat} {f : Nat → Bool} (h : OB W0 g n f wr) (k : Below wr.heap.size wr w1) : OB W0 g n f w1 := ⟨ownsRow_keep h.own k, h.bel.trans (k.mono h.bel.size), h.lo⟩
theorem OB.put {W0 wr : World} {g n : Nat} {f : Nat → Bool} (h : OB W0 g n f wr) (j : Nat) (hj : j < n) (v : Bool) : OB W0 g n (fun i => if i = j then v else f i) (wr.setCell ⟨g, j, none⟩ (.bool v)) := by
  refine ⟨?_, h.bel.setCell (p := ⟨g, j, none⟩) h.lo _, h.lo⟩
  have := own_put h.own j hj (.bool v)
  rwa [bls_setv] at this
theorem OB.cell {W0 wr : World} {g n : Nat} {f : Nat → Bool} (h : OB W0 g n f wr) (j : Nat) (hj : j < n) : wr.cell? ⟨g, j, none⟩ = some (.bool (f j)) ∧ wr.frozen? ⟨g, j, none⟩ = false := by
  obtain ⟨g', e, _, _, hc⟩ := ownsRow_read h.own (by omega)
  have e2 : g' = g := by
    injection e with e
    injection e with e _
    exact e.symm
  subst e2
  obtain ⟨h1, h2⟩ := hc j (by omega)
  exact ⟨by rw [h1]; simp [bls, hj], h2⟩
theorem Try.info_bool9 : (Try.prog.info? 4).map (fun i => (i.zero, i.size, i.bytes)) = some (some (.bool false), 1, 1) := by kernel_rfl
/-- A row of truths is the answer. -/
def BlPost (n : Nat) (P : Nat → Prop) (w : World) (e : Ending) (w' : World) : Prop :=
  ∃ (f : Nat → Bool) (a : Option Addr) (c : Nat), e = .returned (.slice a n c) ∧ w'.ownsRow w.heap.size 4 1 (.slice a n c) n (bls f n) ∧ (∀ x, x < n → (f x = true ↔ P x)) ∧ Below w.heap.size w w'
/-- What is reached from a number. -/
def RcI (D : Dd) (s : Int) (x : Nat) : Prop := 0 ≤ s ∧ s < (D.n : Int) ∧ Rch (Ed D) (fun y => y = s.toNat) x

/-- From which a mark is reached. -/
def Alv (D : Dd) (x : Nat) : Prop := ∃ k, Rch (Ed D) (fun y => y = x) k ∧ 0 ≤ D.q k

end Go.Proofs.Ytldpmcgkbdejjaa

namespace Go.Proofs.Ytldpmcgkbdejjaa
set_option linter.unusedVariables false
set_option linter.unusedSimpArgs false

/-- A number is met. -/
def addT (m : List Nat) (t : Int) : List Nat := if 0 ≤ t ∧ t.toNat ∉ m then m ++ [t.toNat] else m
def addR (m : List Nat) (row : List Int) : List Nat := row.foldl addT m
def wkS (rows : Nat → List Int) (m : List Nat) (i : Nat) : List Nat := if i < m.length then addR m (rows (m.getD i 0)) else m
/-- States as they are met. -/
def wkN (rows : Nat → List Int) (m : List Nat) : Nat → List Nat
  | 0 => m
  | k + 1 => wkS rows (wkN rows m k) k
theorem addT_pre (m : List Nat) (t : Int) : m <+: addT m t := by
  unfold addT; split
  · exact List.prefix_append _ _
  · exact List.prefix_refl _
theorem addR_pre (row : List Int) : ∀ m, m <+: addR m row := by
  induction row with
  | nil => exact fun m => List.prefix_refl _
  | cons t row ih => exact fun m => (addT_pre m t).trans (ih _)
theorem addR_snoc (m : List Nat) (row : List Int) (t : Int) : addR m (row ++ [t]) = addT (addR m row) t := by simp [addR, List.foldl_append]
theorem addT_mem (m : List Nat) (t : Int) (x : Nat) : x ∈ addT m t ↔ x ∈ m ∨ t = (x : Int) := by
  unfold addT
  split
  · rename_i h
    rw [List.mem_append, List.mem_singleton]
    constructor
    · rintro (h1 | h1)
      · exact Or.inl h1
      · exact Or.inr (by omega)
    · rintro (h1 | h1)
      · exact Or.inl h1
      · exact Or.inr (by omega)
  · rename_i h
    refine ⟨Or.inl, ?_⟩
    rintro (h1 | h1)
    · exact h1
    · refine Classical.byContradiction fun hn => h ⟨by omega, ?_⟩
      have : t.toNat = x := by omega
      rw [this]; exact hn
theorem addR_mem (row : List Int) : ∀ m x, x ∈ addR m row ↔ x ∈ m ∨ ((x : Nat) : Int) ∈ row := by
  induction row with
  | nil => intro m x; simp [addR]
  | cons t row ih =>
    intro m x
    show x ∈ addR (addT m t) row ↔ _
    rw [ih, addT_mem, List.mem_cons]
    constructor
    · rintro ((h | h) | h)
      · exact Or.inl h
      · exact Or.inr (Or.inl h.symm)
      · exact Or.inr (Or.inr h)
    · rintro (h | h | h)
      · exact Or.inl (Or.inl h)
      · exact Or.inl (Or.inr h.symm)
      · exact Or.inr h
theorem wkN_pre (rows : Nat → List Int) (m : List Nat) (k : Nat) : wkN rows m k <+: wkN rows m (k + 1) := by
  show _ <+: wkS rows (wkN rows m k) k
  unfold wkS
  split
  · exact addR_pre _ _
  · exact List.prefix_refl _
def WE (rows : Nat → List Int) (x y : Nat) : Prop := ((y : Nat) : Int) ∈ rows x
theorem wkN_so (rows : Nat → List Int) (m : List Nat) (k : Nat) : ∀ x ∈ wkN rows m k, Rch (WE rows) (fun y => y ∈ m) x := by
  induction k with
  | zero => exact fun x hx => .base hx
  | succ k ih =>
    intro x hx
    have hx2 : x ∈ wkS rows (wkN rows m k) k := hx
    unfold wkS at hx2
    split at hx2
    · rename_i h
      rw [addR_mem] at hx2
      rcases hx2 with h1 | h1
      · exact ih x h1
      · refine .step (ih ((wkN rows m k).getD k 0) ?_) h1
        rw [show (wkN rows m k).getD k 0 = (wkN rows m k)[k] by simp [List.getD_eq_getElem?_getD, h]]
        exact List.getElem_mem h
    · exact ih x hx2
theorem wkN_cl (rows : Nat → List Int) (m : List Nat) (k : Nat) : ∀ j, j < k → ∀ h : j < (wkN rows m k).length, ∀ y, WE rows (wkN rows m k)[j] y → y ∈ wkN rows m k := by
  induction k with
  | zero => intro j hj; omega
  | succ k ih =>
    intro j hj h y hy
    have hp := wkN_pre rows m k
    by_cases hl : k < (wkN rows m k).length
    · have e1 : wkN rows m (k + 1) = addR (wkN rows m k) (rows ((wkN rows m k).getD k 0)) := by
        show wkS rows _ k = _
        unfold wkS
        rw [if_pos hl]
      by_cases e : j = k
      · subst e
        rw [← hp.getElem hl] at hy
        rw [e1, addR_mem]
        refine Or.inr ?_
        have e2 : (wkN rows m j).getD j 0 = (wkN rows m j)[j] := by simp [List.getD_eq_getElem?_getD, hl]
        rw [e2]
        exact hy
      · have hl2 : j < (wkN rows m k).length := by omega
        rw [← hp.getElem hl2] at hy
        have := ih j (by omega) hl2 y hy
        exact hp.subset this
    · have e1 : wkN rows m (k + 1) = wkN rows m k := by
        show wkS rows _ k = _
        unfold wkS
        rw [if_neg hl]
      have hl2 : j < (wkN rows m k).length := by rw [e1] at h; exact h
      have hy2 : WE rows (wkN rows m k)[j] y := by
        rw [hp.getElem hl2]
        exact hy
      rw [e1]
      exact ih j (by omega) hl2 y hy2
theorem wkN_base (rows : Nat → List Int) (m : List Nat) (k : Nat) : m <+: wkN rows m k := by
  induction k with
  | zero => exact List.prefix_refl _
  | succ k ih => exact ih.trans (wkN_pre rows m k)
/-- What is met is what is reached. -/
theorem wkN_mem (rows : Nat → List Int) (m : List Nat) {i : Nat} (hi : (wkN rows m i).length = i) (x : Nat) : x ∈ wkN rows m i ↔ Rch (WE rows) (fun y => y ∈ m) x := by
  refine ⟨wkN_so rows m i x, fun h => ?_⟩
  induction h with
  | base h => exact (wkN_base rows m i).subset h
  | step _ e ih =>
    obtain ⟨j, hj, e2⟩ := List.getElem_of_mem ih
    refine wkN_cl rows m i j (by omega) hj _ ?_
    rw [e2]; exact e
end Go.Proofs.Ytldpmcgkbdejjaa
