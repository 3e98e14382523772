import Derived.Test.YtjehgdjlncofeaaZNNew
import Derived.Test.YtjehgdjlncofeaaZSClose
import Derived.Test.YtjehgdjlncofeaaZSLeadN
import Derived.Test.YtjehgdjlncofeaaZSVar
import Derived.BigFrame
import Derived.Scope
import Derived.Deep.RegionHeld
import Derived.Deep.RegionHeld3
import Derived.OrdersHeld
import Derived.Maps.AppendAt
namespace Go.Proofs.Ytjehgdjlncofeaa
open Go.RowKit Go.Maps Go.WideElems Go.ChangeMaps Go.MapKept
set_option linter.unusedVariables false
set_option linter.unusedSimpArgs false

/-- A deterministic automaton: its classes, its rows, its marks, as they lie. -/
structure Dd where
  cD : Array Value
  K : Nat → Nat
  aN : Option Addr
  n : Nat
  cN : Nat
  A : Nat → Option Addr
  Cp : Nat → Nat
  len : Nat → Nat
  nx : Nat → Nat → Int
  aM : Option Addr
  m : Nat
  cM : Nat
  q : Nat → Int
/-- .. in memory. -/
structure DM (w : World) (D : Dd) : Prop where
  sz : D.cD.size = 258
  one : ∀ v ∈ D.cD.toList, v.oneCell' = true
  cl : ∀ j, j < 256 → D.cD[j]? = some (.int .u8 ((D.K j : Nat) : Int))
  kl : ∀ j, j < 256 → D.K j < 256
  fN : D.cD[256]? = some (.slice D.aN D.n D.cN)
  fM : D.cD[257]? = some (.slice D.aM D.m D.cM)
  rN : ZsAt w D.aN D.n D.A D.Cp D.len D.nx
  rM : ZAt w D.aM D.m D.q
theorem DM.below {w w' : World} {D : Dd} (h : DM w D) (k : Below w.heap.size w w') : DM w' D := ⟨h.sz, h.one, h.cl, h.kl, h.fN, h.fM, h.rN.below k, h.rM.below k⟩
/-- The automaton's box. -/
structure DBx (w : World) (b : Nat) (D : Dd) : Prop where
  st : St w 26 b D.cD
  dm : DM w D
theorem DBx.keep {w w' : World} {b : Nat} {D : Dd} (h : DBx w b D) (k : Below w.heap.size w w') : DBx w' b D := ⟨h.st.keep k, h.dm.below k⟩
theorem DBx.new {w : World} {D : Dd} (h : DM w D) : DBx (w.alloc (.cells D.cD 26)) w.heap.size D := ⟨St.new _ _ _, h.below (al w _)⟩
theorem DBx.f1 {w : World} {b : Nat} {D : Dd} (h : DBx w b D) : w.cell? ⟨b, 256, none⟩ = some (.slice D.aN D.n D.cN) := by rw [h.st.at_, h.dm.fN]
theorem DBx.f2 {w : World} {b : Nat} {D : Dd} (h : DBx w b D) : w.cell? ⟨b, 257, none⟩ = some (.slice D.aM D.m D.cM) := by rw [h.st.at_, h.dm.fM]
theorem DBx.f0 {w : World} {b : Nat} {D : Dd} (h : DBx w b D) (j : Nat) (hj : j < 256) : w.cell? ⟨b, j, none⟩ = some (.int .u8 ((D.K j : Nat) : Int)) := by rw [h.st.at_, h.dm.cl j hj]
theorem DM.info {w : World} {D : Dd} (h : DM w D) : (Try.prog.info? 26).map (·.size) = some D.cD.size := by rw [info_dfa9, h.sz]
/-- The row of a state. -/
theorem DM.row {w : World} {D : Dd} (h : DM w D) (i : Nat) (hi : i < D.n) : ∃ g off, D.aN = some ⟨g, off, none⟩ ∧ g < w.heap.size ∧ w.cell? ⟨g, off + i, none⟩ = some (.slice (D.A i) (D.len i) (D.Cp i)) ∧ ZAt w (D.A i) (D.len i) (D.nx i) := by
  obtain ⟨g, off, e, hg, hc⟩ := h.rN (by omega)
  exact ⟨g, off, e, hg, hc i hi⟩
/-- How many classes there are. -/
def IsC (K : Nat → Nat) (C : Nat) : Prop := (∀ j, j < 256 → K j < C) ∧ ∃ j, j < 256 ∧ K j + 1 = C
theorem IsC.uniq {K : Nat → Nat} {C C' : Nat} (h : IsC K C) (h' : IsC K C') : C = C' := by
  obtain ⟨j, hj, e⟩ := h.2
  obtain ⟨j', hj', e'⟩ := h'.2
  have := h.1 j' hj'
  have := h'.1 j hj
  omega
/-- It may be. -/
structure DR (D : Dd) (C : Nat) : Prop where
  c : IsC D.K C
  n1 : 1 ≤ D.n
  n2 : D.n ≤ 32768
  m : D.m = D.n
  gap : ∀ c, c < C → ∃ j, j < 256 ∧ D.K j = c
  len : ∀ i, i < D.n → D.len i = C
  q : ∀ i, i < D.n → -1 ≤ D.q i ∧ D.q i < 32768
  nx : ∀ i c, i < D.n → c < C → -1 ≤ D.nx i c ∧ D.nx i c < (D.n : Int)
theorem DR.c256 {D : Dd} {C : Nat} (h : DR D C) (hk : ∀ j, j < 256 → D.K j < 256) : 1 ≤ C ∧ C ≤ 256 := by
  obtain ⟨j, hj, e⟩ := h.c.2
  have := hk j hj
  omega
/-- A guarded load of an array, or of a struct. -/
theorem wpList_load_any9 {P : Program} {ops : Array Oper} {rest : List Oper} {o : Oper} {a : Act} {w : World} {Q : Exit → Act → World → Prop} (hw : Region.wanted o (yielded ops a.tmps) = true) (ty : TypeId) (x : Operand) (ho : o.op = .load ty x)
    (ad : Addr) (hx : a.eval x = .pointer (some ad)) (cs : Array Value) (d : TypeDesc) (hc : ∀ j v, cs.toList[j]? = some v → w.cell? (ad.add j) = some v)
    (hu : P.underlying ty = some d) (hd : (match d with | .struct _ | .array _ _ => true | _ => false) = true) (hi : (P.info? ty).map (·.size) = some cs.size)
    (h : wpList P ops Q rest (a.put o.dst (.agg cs)) w) : wpList P ops Q (o :: rest) a w :=
  BigFrame.wpList_want hw fun _ hK => by
    unfold Oper.wp execOp
    simp only [ho, hx, Instr.loadAt, Instr.sureAddr, Sem.run_bind, Sem.run_pure, Result.andThen_ok, run_loadVar_part w ad ty cs d hc hu hd hi]
    exact hK _ _ h

end Go.Proofs.Ytjehgdjlncofeaa

namespace Go.Proofs.Ytjehgdjlncofeaa
open Go.RowKit Go.Maps Go.WideElems Go.ChangeMaps Go.MapKept
set_option linter.unusedVariables false
set_option linter.unusedSimpArgs false

set_option maxHeartbeats 1000000 in
set_option maxRecDepth 100000 in
theorem exists_any (D : Dd) (s : Int) (w : World) (hD : DM w D) :
    Calls Try.prog 37 #[.agg D.cD, .int .i64 s] w fun e w' => e = .returned (.bool (decide (0 ≤ s ∧ s < (D.n : Int)))) ∧ Below w.heap.size w w' := by
  have HB := Lib.hid (And.intro (DBx.new hD) (al w (.cells D.cD 26)))
  clear hD
  go_enter Try.func37, Try.ntmps37
  go_upto_region 1 with fail
  generalize w.alloc (.cells D.cD 26) = W0 at HB ⊢
  obtain ⟨b0, hb0⟩ : ∃ b0, w.heap.size = b0 := ⟨_, rfl⟩
  have Hb0 := Lib.hid hb0
  rw [hb0] at HB
  rw [hb0]
  clear hb0
  have f1 := HB.out.1.f1
  by_cases h0 : 0 ≤ s
  · by_cases h1 : s < (D.n : Int)
    · have HZ : Hid (decide (0 ≤ s ∧ s < (D.n : Int)) = true) := by show _ = _; simp [h0, h1]
      go_wp2_with fail
      go_ret
      exact ⟨by rw [HZ.out]; first | rfl | simp [h0, h1], by first | exact HB.out.2 | (rw [Hb0.out]; exact HB.out.2)⟩
    · have HZ : Hid (decide (0 ≤ s ∧ s < (D.n : Int)) = false) := by show _ = _; simp; omega
      go_wp2_with fail
      go_ret
      exact ⟨by first | (rw [HZ.out]; rfl) | (rw [show decide (0 ≤ s ∧ s < (D.n : Int)) = false from HZ.out]; rfl) | (have := HZ.out; simp_all), by first | exact HB.out.2 | (rw [Hb0.out]; exact HB.out.2)⟩
  · have HZ : Hid (decide (0 ≤ s ∧ s < (D.n : Int)) = false) := by show _ = _; simp; omega
    go_wp2_with fail
    go_ret
    exact ⟨by first | (rw [HZ.out]; rfl) | (rw [show decide (0 ≤ s ∧ s < (D.n : Int)) = false from HZ.out]; rfl) | (have := HZ.out; simp_all), by first | exact HB.out.2 | (rw [Hb0.out]; exact HB.out.2)⟩




end Go.Proofs.Ytjehgdjlncofeaa

namespace Go.Proofs.Ytjehgdjlncofeaa
open Go.RowKit Go.Maps Go.WideElems Go.ChangeMaps Go.MapKept
set_option linter.unusedVariables false
set_option linter.unusedSimpArgs false

theorem isC_ex (K : Nat → Nat) : ∃ C, IsC K C := by
  suffices h : ∀ k, ∃ C, (∀ j, j < k + 1 → K j < C) ∧ ∃ j, j < k + 1 ∧ K j + 1 = C from h 255
  intro k
  induction k with
  | zero => exact ⟨K 0 + 1, fun j hj => by rw [show j = 0 by omega]; omega, 0, by omega, rfl⟩
  | succ k ih =>
    obtain ⟨C, h1, j, hj, h2⟩ := ih
    by_cases h : K (k + 1) < C
    · exact ⟨C, fun i hi => by
        by_cases e : i = k + 1
        · rw [e]; exact h
        · exact h1 i (by omega), j, by omega, h2⟩
    · exact ⟨K (k + 1) + 1, fun i hi => by
        by_cases e : i = k + 1
        · rw [e]; omega
        · have := h1 i (by omega); omega, k + 1, by omega, rfl⟩

set_option maxHeartbeats 1000000 in
set_option maxRecDepth 100000 in
theorem rclasses_any (D : Dd) (C : Nat) (hC : IsC D.K C) (w : World) (hD : DM w D) :
    Calls Try.prog 22 #[.agg D.cD] w fun e w' => e = .returned (.int .i64 ((C : Nat) : Int)) ∧ Below w.heap.size w w' := by
  have hBx := DBx.new hD
  have HB := Lib.hid (And.intro hBx (And.intro (al w (.cells D.cD 26)) (And.intro hC hD.kl)))
  clear hBx hC hD
  go_enter Try.func22, Try.ntmps22
  go_wp2_with fail
  generalize w.alloc (.cells D.cD 26) = W0 at HB ⊢
  obtain ⟨b0, hb0⟩ : ∃ b0, w.heap.size = b0 := ⟨_, rfl⟩
  rw [hb0] at HB
  rw [hb0]
  go_loopw [3, 4] (fun v i wr => ∃ (k x : Nat), i = .int .i64 k ∧ k ≤ 256 ∧ v = .int .i64 ((x : Nat) : Int) ∧ x ≤ 256 ∧ wr = W0 ∧ Hid ((∀ j, j < k → D.K j < x) ∧ ((k = 0 ∧ x = 0) ∨ ∃ j, j < k ∧ D.K j + 1 = x))) (fun _ i _ => 256 - (intOf i).toNat)
  case atStart => exact ⟨0, 0, rfl, by omega, rfl, by omega, rfl, ⟨fun j hj => by omega, Or.inl ⟨rfl, rfl⟩⟩⟩
  case round =>
    obtain ⟨k, x, rfl, hk, rfl, hx, rfl, HX⟩ := hrel
    by_cases hlt : k < 256
    · have ck := HB.out.1.f0 k hlt
      have hvk := HB.out.2.2.2 k hlt
      have HZ : Hid (∀ y, (y = x ∧ D.K k + 1 ≤ x) ∨ (y = D.K k + 1 ∧ x ≤ D.K k + 1) → (∀ j, j < k + 1 → D.K j < y) ∧ ((k + 1 = 0 ∧ y = 0) ∨ ∃ j, j < k + 1 ∧ D.K j + 1 = y)) := fun y hy => by
        obtain ⟨h1, h2⟩ := HX.out
        rcases hy with ⟨rfl, hy⟩ | ⟨rfl, hy⟩
        · refine ⟨fun j hj => by by_cases e : j = k; rw [e]; omega; exact h1 j (by omega), Or.inr ?_⟩
          rcases h2 with ⟨e1, e2⟩ | ⟨j, hj, e⟩
          · exact absurd hy (by omega)
          · exact ⟨j, by omega, e⟩
        · exact ⟨fun j hj => by by_cases e : j = k; rw [e]; omega; have := h1 j (by omega); omega, Or.inr ⟨k, by omega, rfl⟩⟩
      generalize D.K k = y at ck hvk HZ
      have i1 : (k : Int) < 256 := by omega
      rcases Nat.le_total (y + 1) x with hyx | hyx
      · have HZ2 := Lib.hid (HZ.out x (Or.inl ⟨rfl, hyx⟩))
        have hmx : max ((x : Nat) : Int) ((y : Int) + 1) = ((x : Nat) : Int) := by omega
        have hmx2 : max x (y + 1) = x := by omega
        go_wp2_with fail
        go_roundw
        case rel => exact ⟨k + 1, x, by go_num, by omega, by first | rfl | simp [hmx], hx, by first | trivial | rfl, HZ2⟩
        case measure => simp [intOf]; omega
      · have HZ2 := Lib.hid (HZ.out (y + 1) (Or.inr ⟨rfl, hyx⟩))
        have hmx : max ((x : Nat) : Int) ((y : Int) + 1) = ((y : Int) + 1) := by omega
        have hmx2 : max x (y + 1) = y + 1 := by omega
        go_wp2_with fail
        go_roundw
        case rel => exact ⟨k + 1, y + 1, by go_num, by omega, by first | rfl | simp [hmx] | (simp [hmx2]; done), by omega, by first | trivial | rfl, HZ2⟩
        case measure => simp [intOf]; omega
    · obtain rfl : k = 256 := by omega
      have HZ : Hid (x = C) := by
        obtain ⟨h1, h2⟩ := HX.out
        rcases h2 with ⟨e1, e2⟩ | h2
        · omega
        · exact IsC.uniq ⟨h1, h2⟩ HB.out.2.2.1
      go_wp2_with fail
      go_ret
      refine ⟨by rw [HZ.out]; first | rfl | simp, ?_⟩
      rw [hb0]
      exact HB.out.2.1

set_option maxHeartbeats 1000000 in
set_option maxRecDepth 100000 in
theorem rgapless_any (D : Dd) (C : Nat) (hC : IsC D.K C) (w : World) (hD : DM w D) :
    Calls Try.prog 21 #[.agg D.cD] w (TruPost (∀ c, c < C → ∃ j, j < 256 ∧ D.K j = c) w) := by
  have hBx := DBx.new hD
  have hc2 : C ≤ 256 := by
    obtain ⟨j, hj, e⟩ := hC.2
    have := hD.kl j hj
    omega
  have HB := Lib.hid (And.intro hBx (And.intro (al w (.cells D.cD 26)) (And.intro hC hD.kl)))
  clear hBx hC hD
  go_enter Try.func21, Try.ntmps21
  go_wp2_with fail
  generalize w.alloc (.cells D.cD 26) = W0 at HB ⊢
  obtain ⟨b0, hb0⟩ : ∃ b0, w.heap.size = b0 := ⟨_, rfl⟩
  rw [hb0] at HB
  rw [hb0]
  go_loopw [3, 4, 5] (fun i _ _ wr => ∃ (c : Nat), i = .int .i64 c ∧ c ≤ C ∧ Hid (Below b0 w wr ∧ Below W0.heap.size W0 wr ∧ ∀ d, d < c → ∃ j, j < 256 ∧ D.K j = d)) (fun i _ _ _ => C - (intOf i).toNat)
  case atStart => exact ⟨0, rfl, by omega, ⟨HB.out.2.1, Below.refl _ _, fun d hd => by omega⟩⟩
  case round =>
    obtain ⟨c, rfl, hc, HX⟩ := hrel
    have HBx := Lib.hid (HB.out.1.keep HX.out.2.1)
    have HCl := Lib.hid (rclasses_any D C HB.out.2.2.1 wr HBx.out.dm)
    go_wp2_with (refine wpList_load_any9 (by rfl) 26 _ rfl ⟨b0, 0, none⟩ rfl D.cD _ HBx.out.st.part Try.underlying26 rfl HBx.out.dm.info ?_)
    refine HCl.out.mono ?_
    rintro e w2 ⟨rfl, b2⟩
    have HX2 : Hid (Below b0 w w2 ∧ Below W0.heap.size W0 w2) := ⟨HX.out.1.trans (b2.mono (by have := HX.out.1.size; omega)), HX.out.2.1.trans (b2.mono HX.out.2.1.size)⟩
    have HBx2 := Lib.hid (HBx.out.keep b2)
    clear b2 HBx HCl
    by_cases hlt : c < C
    · have i1 : (c : Int) < (C : Int) := by omega
      go_wp2_with fail
      obtain ⟨W9, rfl⟩ : ∃ W9, W9 = w2 := ⟨w2, rfl⟩
      go_loopw [4, 5] (fun v i wq => ∃ (k : Nat) (f : Bool), i = .int .i64 k ∧ k ≤ 256 ∧ v = .bool f ∧ wq = W9 ∧ Hid (f = true ↔ ∃ j, j < k ∧ D.K j = c)) (fun _ i _ => 256 - (intOf i).toNat)
      case atStart => exact ⟨0, false, rfl, by omega, rfl, rfl, ⟨(fun h => by cases h), (fun ⟨j, hj, _⟩ => by omega)⟩⟩
      case round =>
        obtain ⟨k, f, rfl, hk, rfl, rfl, HF⟩ := hrel
        by_cases hlk : k < 256
        · have ck := HBx2.out.f0 k hlk
          have i2 : (k : Int) < 256 := by omega
          have hvk := HB.out.2.2.2 k hlk
          have HS : Hid (∀ f' : Bool, (f' = true ↔ (f = true ∨ D.K k = c)) → (f' = true ↔ ∃ j, j < k + 1 ∧ D.K j = c)) := fun f' h => by
            rw [h, HF.out]
            constructor
            · rintro (⟨j, hj, e⟩ | e)
              · exact ⟨j, by omega, e⟩
              · exact ⟨k, by omega, e⟩
            · rintro ⟨j, hj, e⟩
              by_cases e2 : j = k
              · subst e2; exact Or.inr e
              · exact Or.inl ⟨j, by omega, e⟩
          generalize D.K k = y at ck HS hvk
          rcases f with _ | _
          · by_cases e : y = c
            · subst e
              have HZ := Lib.hid (HS.out true (by simp))
              go_wp2_with fail
              go_roundw
              case rel => exact ⟨k + 1, true, by go_num, by omega, rfl, by first | trivial | rfl, HZ⟩
              case measure => simp [intOf]; omega
            · have HZ := Lib.hid (HS.out false (by simp [e]))
              have i3 : ¬ ((y : Int) = (c : Int)) := by omega
              go_wp2_with fail
              go_roundw
              case rel => exact ⟨k + 1, false, by go_num, by omega, by first | rfl | (simp; omega), by first | trivial | rfl, HZ⟩
              case measure => simp [intOf]; omega
          · have HZ := Lib.hid (HS.out true (by simp))
            go_wp2_with fail
            go_roundw
            case rel => exact ⟨k + 1, true, by go_num, by omega, rfl, by first | trivial | rfl, HZ⟩
            case measure => simp [intOf]; omega
        · obtain rfl : k = 256 := by omega
          rcases f with _ | _
          · have HZ : Hid (¬ ∀ c, c < C → ∃ j, j < 256 ∧ D.K j = c) := fun h => by
              have := HF.out.2 (h c hlt)
              cases this
            go_wp2_with fail
            go_ret
            refine ⟨false, rfl, ⟨(fun h => by cases h), (fun h => absurd h HZ.out)⟩, ?_⟩
            rw [hb0]
            exact HX2.out.1
          · have HZ : Hid (∃ j, j < 256 ∧ D.K j = c) := HF.out.1 rfl
            have HX3 : Hid (Below b0 w wr ∧ Below W0.heap.size W0 wr ∧ ∀ d, d < c + 1 → ∃ j, j < 256 ∧ D.K j = d) := ⟨HX2.out.1, HX2.out.2, fun d hd => by
              by_cases e : d = c
              · subst e; exact HZ.out
              · exact HX.out.2.2 d (by omega)⟩
            go_wp2_with fail
            go_roundw
            case rel => exact ⟨c + 1, by go_num, by omega, HX3⟩
            case measure => simp [intOf]; omega
    · obtain rfl : c = C := by omega
      go_wp2_with fail
      go_ret
      refine ⟨true, rfl, ⟨(fun _ => HX.out.2.2), (fun _ => rfl)⟩, ?_⟩
      rw [hb0]
      exact HX2.out.1
end Go.Proofs.Ytjehgdjlncofeaa

namespace Go.Proofs.Ytjehgdjlncofeaa
open Go.RowKit Go.Maps Go.WideElems Go.ChangeMaps Go.MapKept
set_option linter.unusedVariables false
set_option linter.unusedSimpArgs false

theorem run_loadAt_any9 {P : Program} (w : World) (ty : TypeId) (ad : Addr) (cs : Array Value) (d : TypeDesc) (hc : ∀ j v, cs.toList[j]? = some v → w.cell? (ad.add j) = some v)
    (hu : P.underlying ty = some d) (hd : (match d with | .struct _ | .array _ _ => true | _ => false) = true) (hi : (P.info? ty).map (·.size) = some cs.size) :
    (Instr.loadAt ty (.pointer (some ad))).run P w = .ok (.agg cs) w := by
  simp only [Instr.loadAt, Instr.sureAddr, Sem.run_bind, Sem.run_pure, Result.andThen_ok, run_loadVar_part w ad ty cs d hc hu hd hi]
theorem exec_load_any9 {P : Program} {ρ : Operand → Value} {o : Oper} (w : World) (ty : TypeId) (x : Operand) (ho : o.op = .load ty x) (ad : Addr) (hx : ρ x = .pointer (some ad)) (cs : Array Value) (d : TypeDesc) (hc : ∀ j v, cs.toList[j]? = some v → w.cell? (ad.add j) = some v)
    (hu : P.underlying ty = some d) (hd : (match d with | .struct _ | .array _ _ => true | _ => false) = true) (hi : (P.info? ty).map (·.size) = some cs.size) :
    (execOp ρ o).run P w = .ok (.value (.agg cs)) w := by
  unfold execOp
  simp only [ho, hx, Sem.run_bind, run_loadAt_any9 w ty ad cs d hc hu hd hi, Result.andThen_ok, Sem.run_pure]
/-- A state's row and mark may be. -/
def Rok (D : Dd) (C i : Nat) : Prop := D.len i = C ∧ (-1 ≤ D.q i ∧ D.q i < 32768) ∧ ∀ c, c < C → -1 ≤ D.nx i c ∧ D.nx i c < (D.n : Int)

end Go.Proofs.Ytjehgdjlncofeaa

namespace Go.Proofs.Ytjehgdjlncofeaa
set_option linter.unusedVariables false
set_option linter.unusedSimpArgs false


/-! ### An automaton's -/
end Go.Proofs.Ytjehgdjlncofeaa

namespace Go.Proofs.Ytjehgdjlncofeaa
open Go.RowKit Go.Maps Go.WideElems Go.ChangeMaps Go.MapKept
set_option linter.unusedVariables false
set_option linter.unusedSimpArgs false



end Go.Proofs.Ytjehgdjlncofeaa

namespace Go.Proofs.Ytjehgdjlncofeaa
set_option linter.unusedVariables false
set_option linter.unusedSimpArgs false

end Go.Proofs.Ytjehgdjlncofeaa
