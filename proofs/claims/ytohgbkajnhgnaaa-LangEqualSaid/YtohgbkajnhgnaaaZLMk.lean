import Derived.Test.YtohgbkajnhgnaaaZPMcW
import Derived.Test.YtohgbkajnhgnaaaZSFrame
import Derived.Test.YtohgbkajnhgnaaaZTLaw
import Derived.Test.YtohgbkajnhgnaaaZTTrim
namespace Go.Proofs.Ytohgbkajnhgnaaa
open Go.RowKit Go.Maps Go.WideElems Go.ChangeMaps Go.MapKept
set_option linter.unusedVariables false
set_option linter.unusedSimpArgs false

/-- Whether a text is one of both, for the ways that may be asked for. -/
def togF (how : Int) (a b : Bool) : Bool := if how = 0 then a && b else if how = 1 then a || b else if how = 2 then a && !b else a != b

set_option maxHeartbeats 1000000 in
set_option maxRecDepth 100000 in
theorem together_any (how : Int) (a b : Bool) (w : World) :
    Calls Try.prog 55 #[.int .i64 how, .bool a, .bool b] w fun e w' => e = .returned (.bool (togF how a b)) ∧ w' = w := by
  by_cases h0 : how = 0
  · subst h0
    cases a <;> cases b <;> (go_enter Try.func55, Try.ntmps55; go_wp2_with fail; go_ret; exact ⟨rfl, rfl⟩)
  · by_cases h1 : how = 1
    · subst h1
      cases a <;> cases b <;> (go_enter Try.func55, Try.ntmps55; go_wp2_with fail; go_ret; exact ⟨rfl, rfl⟩)
    · by_cases h2 : how = 2
      · subst h2
        cases a <;> cases b <;> (go_enter Try.func55, Try.ntmps55; go_wp2_with fail; go_ret; exact ⟨rfl, rfl⟩)
      · have HT : Hid (togF how a b = (a != b)) := by show _ = _; unfold togF; rw [if_neg h0, if_neg h1, if_neg h2]
        cases a <;> cases b <;> (go_enter Try.func55, Try.ntmps55; go_wp2_with fail; go_ret; exact ⟨by rw [HT.out]; rfl, rfl⟩)
end Go.Proofs.Ytohgbkajnhgnaaa

namespace Go.Proofs.Ytohgbkajnhgnaaa
open Go.RowKit Go.Maps Go.WideElems Go.ChangeMaps Go.MapKept
set_option linter.unusedVariables false
set_option linter.unusedSimpArgs false
set_option maxRecDepth 100000

/-! ### A map by two bytes, and one by two numbers -/
theorem wide_two8 : (match Try.prog.underlying 80 with | some (.array _ _) | some (.struct _) => true | _ => false) = true := by kernel_rfl
theorem law_two8 : Keyed Try.prog 80 := Keyed.of_law (deep_law_laid laidOut (m := 2) (by omega) (of_decide_eq_true (by kernel_rfl)) (by kernel_rfl) wide_two8)
theorem cells_u89 : Try.prog.cellsOf 5 = 1 := by kernel_rfl
theorem cells_two8 : Try.prog.cellsOf 80 = 2 := by kernel_rfl
theorem lits_u89 (d : Nat) (n : Int) (h : (Lit.int .u8 n).wf = true) : Try.prog.keyLits (d + 1) 5 [.int .u8 n] = some [.int .u8 n] := by
  simp [Program.keyLits, Try.underlying5, h]
theorem key_two8 (a b : Nat) (ha : a < 256) (hb : b < 256) : ∃ kl, keyOf Try.prog 80 (.agg #[.int .u8 ((a : Nat) : Int), .int .u8 ((b : Nat) : Int)]) = some kl := by
  have h0 : (Lit.int .u8 ((a : Nat) : Int)).wf = true := by simp [Lit.wf, IntKind.min, IntKind.max, IntKind.signed, IntKind.bits]; omega
  have h1 : (Lit.int .u8 ((b : Nat) : Int)).wf = true := by simp [Lit.wf, IntKind.min, IntKind.max, IntKind.signed, IntKind.bits]; omega
  have hT : Try.prog.keyType 80 = true := by kernel_rfl
  have hs : ∃ d, Try.prog.types.size + 1 = d + 2 := ⟨Try.prog.types.size - 1, by have : 4 ≤ Try.prog.types.size := of_decide_eq_true (by kernel_rfl); omega⟩
  obtain ⟨d, hd⟩ := hs
  have hl : Try.prog.keyLits (d + 2) 80 [.int .u8 ((a : Nat) : Int), .int .u8 ((b : Nat) : Int)] = some [.int .u8 ((a : Nat) : Int), .int .u8 ((b : Nat) : Int)] := by
    conv => lhs; unfold Program.keyLits
    simp [Try.underlying80, cells_two8, cells_u89, List.range_succ, lits_u89 d _ h0, lits_u89 d _ h1]
  have hf : (Value.agg #[.int .u8 ((a : Nat) : Int), .int .u8 ((b : Nat) : Int)]).formed Try.prog 80 = true := by
    simp [Value.formed, Try.underlying80, cells_two8]
  refine ⟨.string (keyBytes [.int .u8 ((a : Nat) : Int), .int .u8 ((b : Nat) : Int)]), ?_⟩
  unfold keyOf
  simp only [Try.underlying80, hT, hf, Bool.and_self, if_true, hd, Value.cells, hl, Option.map_some]
theorem wide_pair9 : (match Try.prog.underlying 72 with | some (.array _ _) | some (.struct _) => true | _ => false) = true := by kernel_rfl
theorem law_pair9 : Keyed Try.prog 72 := Keyed.of_law (deep_law_laid laidOut (m := 2) (by omega) (of_decide_eq_true (by kernel_rfl)) (by kernel_rfl) wide_pair9)
theorem cells_i649 : Try.prog.cellsOf 3 = 1 := by kernel_rfl
theorem cells_pair9 : Try.prog.cellsOf 72 = 2 := by kernel_rfl
theorem lits_i649 (d : Nat) (n : Int) (h : (Lit.int .i64 n).wf = true) : Try.prog.keyLits (d + 1) 3 [.int .i64 n] = some [.int .i64 n] := by
  simp [Program.keyLits, Try.underlying3, h]
theorem key_pair9 (a b : Int) (ha : -1000000 ≤ a ∧ a ≤ 1000000) (hb : -1000000 ≤ b ∧ b ≤ 1000000) : ∃ kl, keyOf Try.prog 72 (.agg #[.int .i64 a, .int .i64 b]) = some kl := by
  have h0 : (Lit.int .i64 a).wf = true := wf64 (by omega)
  have h1 : (Lit.int .i64 b).wf = true := wf64 (by omega)
  have hT : Try.prog.keyType 72 = true := by kernel_rfl
  have hs : ∃ d, Try.prog.types.size + 1 = d + 2 := ⟨Try.prog.types.size - 1, by have : 4 ≤ Try.prog.types.size := of_decide_eq_true (by kernel_rfl); omega⟩
  obtain ⟨d, hd⟩ := hs
  have hl : Try.prog.keyLits (d + 2) 72 [.int .i64 a, .int .i64 b] = some [.int .i64 a, .int .i64 b] := by
    conv => lhs; unfold Program.keyLits
    simp [Try.underlying72, cells_pair9, cells_i649, List.range_succ, lits_i649 d _ h0, lits_i649 d _ h1]
  have hf : (Value.agg #[.int .i64 a, .int .i64 b]).formed Try.prog 72 = true := by
    simp [Value.formed, Try.underlying72, cells_pair9]
  refine ⟨.string (keyBytes [.int .i64 a, .int .i64 b]), ?_⟩
  unfold keyOf
  simp only [Try.underlying72, hT, hf, Bool.and_self, if_true, hd, Value.cells, hl, Option.map_some]
end Go.Proofs.Ytohgbkajnhgnaaa

namespace Go.Proofs.Ytohgbkajnhgnaaa
open Go.RowKit Go.Maps Go.WideElems Go.ChangeMaps Go.MapKept
set_option linter.unusedVariables false
set_option linter.unusedSimpArgs false

/-! ### Pairs of states, and rows of them -/
def prv (p : Int × Int) : Value := .agg #[.int .i64 p.1, .int .i64 p.2]
def prs (l : List (Int × Int)) : List Value := l.flatMap fun p => [.int .i64 p.1, .int .i64 p.2]
theorem prs_snoc (l : List (Int × Int)) (p : Int × Int) : prs (l ++ [p]) = prs l ++ [.int .i64 p.1, .int .i64 p.2] := by simp [prs]
theorem prs_at : ∀ (l : List (Int × Int)) (i : Nat) (p : Int × Int), l[i]? = some p → (prs l)[i * 2]? = some (.int .i64 p.1) ∧ (prs l)[i * 2 + 1]? = some (.int .i64 p.2) := by
  intro l
  induction l with
  | nil => intro i p h; simp at h
  | cons q l ih =>
    intro i p h
    have e : prs (q :: l) = .int .i64 q.1 :: .int .i64 q.2 :: prs l := by simp [prs]
    cases i with
    | zero =>
      simp at h
      subst h
      rw [e]
      exact ⟨rfl, rfl⟩
    | succ i =>
      simp at h
      obtain ⟨h1, h2⟩ := ih i p h
      rw [e, show (i + 1) * 2 = i * 2 + 2 by omega]
      exact ⟨by simpa using h1, by simpa using h2⟩
theorem prv_inj {p q : Int × Int} (h : prv p = prv q) : p = q := by
  injection h with h
  have h1 := congrArg (fun a : Array Value => a[0]?) h
  have h2 := congrArg (fun a : Array Value => a[1]?) h
  simp at h1 h2
  exact Prod.ext h1 h2
def PmQ (met : List (Int × Int)) (key val : Value) : Prop := ∃ (b : Nat) (p : Int × Int), met[b]? = some p ∧ key = prv p ∧ val = .int .i64 ((b : Nat) : Int)
/-- A pair that may be met. -/
def Prb (A B : Dd) (p : Int × Int) : Prop := (-1 ≤ p.1 ∧ p.1 < (A.n : Int)) ∧ (-1 ≤ p.2 ∧ p.2 < (B.n : Int))

/-! ### The maker's cells -/
structure MkC (cs : Array Value) (how : Int) (A B : Dd) (vL vT vM : Value) (K : Nat → Nat) (vN vK : Value) : Prop where
  sz : cs.size = 778
  h0 : cs[0]? = some (.int .i64 how)
  ha : ∀ j, j < 258 → cs[1 + j]? = A.cD[j]?
  hb : ∀ j, j < 258 → cs[259 + j]? = B.cD[j]?
  hL : cs[517]? = some vL
  hT : cs[518]? = some vT
  hM : cs[519]? = some vM
  hk : ∀ j, j < 256 → cs[520 + j]? = some (.int .u8 ((K j : Nat) : Int))
  hN : cs[776]? = some vN
  hK : cs[777]? = some vK
section
variable {cs : Array Value} {how : Int} {A B : Dd} {vL vT vM vN vK : Value} {K : Nat → Nat}
theorem MkC.setT (h : MkC cs how A B vL vT vM K vN vK) (v : Value) : MkC (cs.setIfInBounds 518 v) how A B vL v vM K vN vK := by
  have hs := h.sz
  refine ⟨by rw [Array.size_setIfInBounds, hs], ?_, fun j hj => ?_, fun j hj => ?_, ?_, ?_, ?_, fun j hj => ?_, ?_, ?_⟩
  · rw [Array.getElem?_setIfInBounds_ne (by omega), h.h0]
  · rw [Array.getElem?_setIfInBounds_ne (by omega), h.ha j hj]
  · rw [Array.getElem?_setIfInBounds_ne (by omega), h.hb j hj]
  · rw [Array.getElem?_setIfInBounds_ne (by omega), h.hL]
  · rw [Array.getElem?_setIfInBounds_self_of_lt (by omega)]
  · rw [Array.getElem?_setIfInBounds_ne (by omega), h.hM]
  · rw [Array.getElem?_setIfInBounds_ne (by omega), h.hk j hj]
  · rw [Array.getElem?_setIfInBounds_ne (by omega), h.hN]
  · rw [Array.getElem?_setIfInBounds_ne (by omega), h.hK]
theorem MkC.setN (h : MkC cs how A B vL vT vM K vN vK) (v : Value) : MkC (cs.setIfInBounds 776 v) how A B vL vT vM K v vK := by
  have hs := h.sz
  refine ⟨by rw [Array.size_setIfInBounds, hs], ?_, fun j hj => ?_, fun j hj => ?_, ?_, ?_, ?_, fun j hj => ?_, ?_, ?_⟩
  · rw [Array.getElem?_setIfInBounds_ne (by omega), h.h0]
  · rw [Array.getElem?_setIfInBounds_ne (by omega), h.ha j hj]
  · rw [Array.getElem?_setIfInBounds_ne (by omega), h.hb j hj]
  · rw [Array.getElem?_setIfInBounds_ne (by omega), h.hL]
  · rw [Array.getElem?_setIfInBounds_ne (by omega), h.hT]
  · rw [Array.getElem?_setIfInBounds_ne (by omega), h.hM]
  · rw [Array.getElem?_setIfInBounds_ne (by omega), h.hk j hj]
  · rw [Array.getElem?_setIfInBounds_self_of_lt (by omega)]
  · rw [Array.getElem?_setIfInBounds_ne (by omega), h.hK]
theorem MkC.setK (h : MkC cs how A B vL vT vM K vN vK) (v : Value) : MkC (cs.setIfInBounds 777 v) how A B vL vT vM K vN v := by
  have hs := h.sz
  refine ⟨by rw [Array.size_setIfInBounds, hs], ?_, fun j hj => ?_, fun j hj => ?_, ?_, ?_, ?_, fun j hj => ?_, ?_, ?_⟩
  · rw [Array.getElem?_setIfInBounds_ne (by omega), h.h0]
  · rw [Array.getElem?_setIfInBounds_ne (by omega), h.ha j hj]
  · rw [Array.getElem?_setIfInBounds_ne (by omega), h.hb j hj]
  · rw [Array.getElem?_setIfInBounds_ne (by omega), h.hL]
  · rw [Array.getElem?_setIfInBounds_ne (by omega), h.hT]
  · rw [Array.getElem?_setIfInBounds_ne (by omega), h.hM]
  · rw [Array.getElem?_setIfInBounds_ne (by omega), h.hk j hj]
  · rw [Array.getElem?_setIfInBounds_ne (by omega), h.hN]
  · rw [Array.getElem?_setIfInBounds_self_of_lt (by omega)]
theorem MkC.partA {w : World} {bm : Nat} (h : MkC cs how A B vL vT vM K vN vK) (hs : St w 76 bm cs) (hA : A.cD.size = 258) : ∀ j v, A.cD.toList[j]? = some v → w.cell? ((⟨bm, 1, none⟩ : Addr).add j) = some v := fun j v hj => by
  have hl : j < 258 := by
    have := (List.getElem?_eq_some_iff.1 hj).1
    simpa [hA] using this
  have e : (⟨bm, 1, none⟩ : Addr).add j = ⟨bm, 1 + j, none⟩ := by unfold Addr.add; split <;> simp_all
  rw [e, hs.at_, h.ha j hl, ← hj, Array.getElem?_toList]
theorem MkC.partB {w : World} {bm : Nat} (h : MkC cs how A B vL vT vM K vN vK) (hs : St w 76 bm cs) (hB : B.cD.size = 258) : ∀ j v, B.cD.toList[j]? = some v → w.cell? ((⟨bm, 259, none⟩ : Addr).add j) = some v := fun j v hj => by
  have hl : j < 258 := by
    have := (List.getElem?_eq_some_iff.1 hj).1
    simpa [hB] using this
  have e : (⟨bm, 259, none⟩ : Addr).add j = ⟨bm, 259 + j, none⟩ := by unfold Addr.add; split <;> simp_all
  rw [e, hs.at_, h.hb j hl, ← hj, Array.getElem?_toList]
end
/-- The mark of a pair. -/
def mkF (how : Int) (A B : Dd) (p : Int × Int) : Int := if togF how (decide (0 ≤ markF A p.1)) (decide (0 ≤ markF B p.2)) = true then 0 else -1
end Go.Proofs.Ytohgbkajnhgnaaa

namespace Go.Proofs.Ytohgbkajnhgnaaa
open Go.RowKit Go.Maps Go.WideElems Go.ChangeMaps Go.MapKept
set_option linter.unusedVariables false
set_option linter.unusedSimpArgs false

theorem zCls_run (w : World) : (zeroValue 22).run Try.prog w = .ok (.agg (zC 22)) w := by kernel_rfl
theorem zCls_eq : zC 22 = clsOf (fun _ => 0) := by kernel_rfl
theorem zTwo_run (w : World) : (zeroValue 80).run Try.prog w = .ok (.agg #[.int .u8 0, .int .u8 0]) w := by kernel_rfl
theorem info_cls9 : (Try.prog.info? 22).map (·.size) = some 256 := by kernel_rfl
theorem info_two9 : (Try.prog.info? 80).map (·.size) = some 2 := by kernel_rfl
theorem clsOf_one (K : Nat → Nat) : ∀ v ∈ (clsOf K).toList, v.oneCell' = true := by
  intro v hv
  simp [clsOf] at hv
  obtain ⟨j, _, rfl⟩ := hv
  rfl
theorem clsOf_ext (K : Nat → Nat) (cs : Array Value) (hs : cs.size = 256) (h1 : ∀ j, j < 256 → cs[j]? = some (.int .u8 ((K j : Nat) : Int))) : cs = clsOf K := by
  apply Array.ext_getElem?
  intro i
  by_cases a : i < 256
  · rw [h1 i a, clsOf_at K i a]
  · rw [Array.getElem?_eq_none (by omega), Array.getElem?_eq_none (by rw [clsOf_size]; omega)]
theorem clsOf_set (K : Nat → Nat) (j v : Nat) (hj : j < 256) : (clsOf K).setIfInBounds j (.int .u8 ((v : Nat) : Int)) = clsOf (fun i => if i = j then v else K i) := by
  refine clsOf_ext _ _ (by rw [Array.size_setIfInBounds, clsOf_size]) (fun i hi => ?_)
  by_cases e : i = j
  · subst e
    rw [Array.getElem?_setIfInBounds_self_of_lt (by rw [clsOf_size]; omega), if_pos rfl]
  · rw [Array.getElem?_setIfInBounds_ne (fun h => e h.symm), clsOf_at K i hi, if_neg e]
theorem make_mapTU9 (W : World) : (Instr.makeMap 79 none).run Try.prog W = .ok (.map (some W.heap.size)) (W.alloc (.map #[] 0)) := by
  kernel_rfl
/-- Two classes as a key. -/
def two8 (p : Nat × Nat) : Value := .agg #[.int .u8 ((p.1 : Nat) : Int), .int .u8 ((p.2 : Nat) : Int)]
theorem two8_inj {p q : Nat × Nat} (h : two8 p = two8 q) : p = q := by
  injection h with h
  have h1 := congrArg (fun a : Array Value => a[0]?) h
  have h2 := congrArg (fun a : Array Value => a[1]?) h
  simp at h1 h2
  exact Prod.ext (by omega) (by omega)
def TmQ (nm : List (Nat × Nat)) (key val : Value) : Prop := ∃ (b : Nat) (s : Nat × Nat), nm[b]? = some s ∧ key = two8 s ∧ val = .int .u8 ((b : Nat) : Int)
/-- Bytes of the same class in both. -/
def SmC (K1 K2 : Nat → Nat) (a b : Nat) : Prop := (K1 a, K2 a) = (K1 b, K2 b)
/-- While common classes get numbers. -/
structure CoI (W0 : World) (K1 K2 : Nat → Nat) (bM b6 k : Nat) (v7 : Value) (nm : List (Nat × Nat)) (g : Nat → Nat) (w : World) : Prop where
  bel : Below W0.heap.size W0 w
  map : MapN w 80 bM nm.length (TmQ nm)
  sm : w.ownsRow W0.heap.size 5 1 v7 nm.length (u8s (rpl g k))
  kl : (rpl g k).length = nm.length
  st : St w 22 b6 (clsOf (fun j => if j < k then g j else 0))
  at_ : ∀ i, i < k → nm[g i]? = some (K1 i, K2 i)
  num : Num (SmC K1 K2) k g nm.length
  loM : W0.heap.size ≤ bM
  lo6 : W0.heap.size ≤ b6
  nk : nm.length ≤ k
section
variable {W0 : World} {K1 K2 : Nat → Nat} {bM b6 k : Nat} {v7 : Value} {nm : List (Nat × Nat)} {g : Nat → Nat} {w : World}
theorem CoI.keep {w1 : World} (h : CoI W0 K1 K2 bM b6 k v7 nm g w) (kk : Below w.heap.size w w1) : CoI W0 K1 K2 bM b6 k v7 nm g w1 :=
  ⟨h.bel.trans (kk.mono h.bel.size), h.map.same (kk.block _ h.map.lt), ownsRow_keep h.sm kk, h.kl, h.st.keep kk, h.at_, h.num, h.loM, h.lo6, h.nk⟩
theorem CoI.mem (h : CoI W0 K1 K2 bM b6 k v7 nm g w) (s : Nat × Nat) : s ∈ nm ↔ ∃ i, i < k ∧ (K1 i, K2 i) = s := by
  constructor
  · intro hm
    obtain ⟨b, hb, e⟩ := List.getElem_of_mem hm
    obtain ⟨i, h1, h2, _⟩ := h.num.new b hb
    refine ⟨i, h1, ?_⟩
    have := h.at_ i h1
    rw [h2, List.getElem?_eq_getElem hb, e] at this
    exact (Option.some.inj this).symm
  · rintro ⟨i, hi, rfl⟩
    exact List.mem_of_getElem? (h.at_ i hi)
theorem CoI.look (h : CoI W0 K1 K2 bM b6 k v7 nm g w) (s : Nat × Nat) (hs1 : s.1 < 256) (hs2 : s.2 < 256) :
    (∃ b, nm[b]? = some s ∧ (Instr.lookup 79 (.map (some bM)) (two8 s) true).run Try.prog w = .ok (.tuple #[.int .u8 ((b : Nat) : Int), .bool true]) w) ∨
    (s ∉ nm ∧ (Instr.lookup 79 (.map (some bM)) (two8 s) true).run Try.prog w = .ok (.tuple #[.int .u8 0, .bool false]) w) := by
  obtain ⟨kl, hkl⟩ := key_two8 s.1 s.2 hs1 hs2
  rcases h.map.ex.look2 law_two8 Try.underlying79 (zero_u89 w) (key := two8 s) hkl with ⟨hrun, hno⟩ | ⟨v, ⟨b, s', h1, h2, rfl⟩, hrun⟩
  · refine Or.inr ⟨fun hm => ?_, hrun⟩
    obtain ⟨b, hb, e⟩ := List.getElem_of_mem hm
    exact hno _ ⟨b, s, by rw [List.getElem?_eq_getElem hb, e], rfl, rfl⟩
  · exact Or.inl ⟨b, by rw [two8_inj h2]; exact h1, hrun⟩
theorem CoI.put (h : CoI W0 K1 K2 bM b6 k v7 nm g w) (s : Nat × Nat) (hs1 : s.1 < 256) (hs2 : s.2 < 256) (hn : nm.length < maxLen) (hb : s ∉ nm) :
    ∃ w', (Instr.mapUpdate 79 (.map (some bM)) (two8 s) (.int .u8 ((nm.length : Nat) : Int))).run Try.prog w = .ok () w' ∧ MapN w' 80 bM (nm.length + 1) (TmQ (nm ++ [s])) ∧ w.grownBy w' (some bM) := by
  obtain ⟨kl, hkl⟩ := key_two8 s.1 s.2 hs1 hs2
  refine h.map.update law_two8 Try.underlying79 hn (key := two8 s) hkl ?_ ?_ ?_ ?_
  · rintro y ⟨k, s', h1, h2, _⟩
    rw [← two8_inj h2] at h1
    exact hb (List.mem_of_getElem? h1)
  · rintro a b ⟨k, s', h1, h2, h3⟩
    exact ⟨k, s', by rw [List.getElem?_append_left (List.getElem?_eq_some_iff.1 h1).1]; exact h1, h2, h3⟩
  · exact ⟨nm.length, s, by simp, rfl, rfl⟩
  · rintro a b ⟨k, s', h1, h2, h3⟩ hne
    by_cases e : k < nm.length
    · rw [List.getElem?_append_left e] at h1
      exact ⟨b, k, s', h1, h2, h3⟩
    · rw [List.getElem?_append_right (by omega)] at h1
      cases hj : k - nm.length with
      | zero => rw [hj] at h1; simp at h1; exact absurd (by rw [h2, h1]) hne
      | succ j => rw [hj] at h1; simp at h1
theorem CoI.old {b : Nat} (hk : k < 256) (h : CoI W0 K1 K2 bM b6 k v7 nm g w) (hb : nm[b]? = some (K1 k, K2 k)) :
    ∃ g', CoI W0 K1 K2 bM b6 (k + 1) v7 nm g' (w.setCell ⟨b6, k, none⟩ (.int .u8 ((b : Nat) : Int))) := by
  have hbl : b < nm.length := (List.getElem?_eq_some_iff.1 hb).1
  obtain ⟨i, h1, h2, _⟩ := h.num.new b hbl
  have hi := h.at_ i h1
  rw [h2, hb] at hi
  have hi := Option.some.inj hi
  have hrp : rpl (fun j => if j = k then b else g j) (k + 1) = rpl g k := by
    have e0 : rpl (fun j => if j = k then b else g j) k = rpl g k := rpl_congr k (fun j hj => by simp only [if_neg (show ¬ j = k by omega)])
    rw [rpl_old (f := fun j => if j = k then b else g j) (by rw [e0, h.kl]; simp only [if_pos rfl]; exact hbl), e0]
  refine ⟨fun j => if j = k then b else g j, h.bel.setCell (p := ⟨b6, k, none⟩) h.lo6 _, h.map.set h.st, by rw [hrp]; exact own_set h.sm h.st (by decide) _ _, by rw [hrp]; exact h.kl, ?_, fun j hj => ?_, ?_, h.loM, h.lo6, by have := h.nk; omega⟩
  · have := h.st.set k (.int .u8 ((b : Nat) : Int))
    rw [clsOf_set _ k b hk, cls_upd] at this
    exact this
  · by_cases e : j = k
    · simp only [if_pos e]; rw [e]; exact hb
    · simp only [if_neg e]; exact h.at_ j (by omega)
  · have := h.num.old (fun i j e => Eq.symm e) (fun i j l e e2 => Eq.trans e e2) (fun i => rfl) h1 (show SmC K1 K2 i k from hi.symm)
    rw [h2] at this
    exact this
theorem CoI.fresh {w1 w2 w3 : World} {v7' : Value} (hk : k < 256) (h : CoI W0 K1 K2 bM b6 k v7 nm g w) (hb : (K1 k, K2 k) ∉ nm) (hm : MapN w1 80 bM (nm.length + 1) (TmQ (nm ++ [(K1 k, K2 k)]))) (hg1 : w.grownBy w1 (some bM))
    (k2 : Below w1.heap.size w1 w2) (hg : w2.grownBy w3 v7.ownBlock) (ho : w3.ownsRow W0.heap.size 5 1 v7' (nm.length + 1) (u8s (rpl g k) ++ [.int .u8 ((k : Nat) : Int)])) :
    ∃ g', CoI W0 K1 K2 bM b6 (k + 1) v7' (nm ++ [(K1 k, K2 k)]) g' (w3.setCell ⟨b6, k, none⟩ (.int .u8 ((nm.length : Nat) : Int))) := by
  have hB1 : Below W0.heap.size W0 w1 := h.bel.grown hg1 h.bel.size (fun g e => by injection e with e; rw [← e]; exact h.loM)
  have hB2 := hB1.trans (k2.mono hB1.size)
  have o2 := ownsRow_keep (own_grown_map h.sm h.map.ex.of hg1) k2
  have m2 := hm.same (k2.block _ hm.lt)
  have s2 := (h.st.grown_map h.map.ex.of hg1).keep k2
  have s3 := s2.grown_own o2 (by decide) hg
  have m3 := m2.grown_own o2 hg
  have B3 := below_grown_own hB2 o2 hB2.size hg
  have hrp : rpl (fun j => if j = k then nm.length else g j) (k + 1) = rpl g k ++ [k] := by
    have e0 : rpl (fun j => if j = k then nm.length else g j) k = rpl g k := rpl_congr k (fun j hj => by simp only [if_neg (show ¬ j = k by omega)])
    rw [rpl_new (f := fun j => if j = k then nm.length else g j) (by rw [e0, h.kl]; show ¬ (if k = k then nm.length else g k) < nm.length; rw [if_pos rfl]; omega), e0]
  have hlen : (nm ++ [(K1 k, K2 k)]).length = nm.length + 1 := by simp
  refine ⟨fun j => if j = k then nm.length else g j, B3.setCell (p := ⟨b6, k, none⟩) h.lo6 _, by rw [hlen]; exact m3.set s3, ?_, by rw [hrp, hlen, List.length_append, h.kl]; rfl, ?_, fun j hj => ?_, ?_, h.loM, h.lo6, by rw [hlen]; have := h.nk; omega⟩
  · rw [hrp, hlen, u8s_snoc]
    exact own_set ho s3 (by decide) _ _
  · have := s3.set k (.int .u8 ((nm.length : Nat) : Int))
    rw [clsOf_set _ k _ hk, cls_upd] at this
    exact this
  · by_cases e : j = k
    · simp only [if_pos e]; rw [e]; simp
    · simp only [if_neg e]
      have := h.at_ j (by omega)
      rw [List.getElem?_append_left (List.getElem?_eq_some_iff.1 this).1]
      exact this
  · rw [hlen]
    exact h.num.fresh (fun i j e => Eq.symm e) (fun i => rfl) (fun i hi e => hb ((h.mem _).2 ⟨i, hi, e⟩))
end
/-- Common classes, and their smallest bytes. -/
def CoPost (K1 K2 : Nat → Nat) (w : World) (e : Ending) (w' : World) : Prop :=
  ∃ (g : Nat → Nat) (m : Nat) (a : Option Addr) (c : Nat), e = .returned (.tuple #[.agg (clsOf g), .slice a m c]) ∧ w'.ownsRow w.heap.size 5 1 (.slice a m c) m (u8s (rpl g 256)) ∧ Num (SmC K1 K2) 256 g m ∧ Below w.heap.size w w'
end Go.Proofs.Ytohgbkajnhgnaaa

namespace Go.Proofs.Ytohgbkajnhgnaaa
open Go.RowKit Go.Maps Go.WideElems Go.ChangeMaps Go.MapKept
set_option linter.unusedVariables false
set_option linter.unusedSimpArgs false

theorem two_built (x y : Int) (W : World) : (Instr.build 80 #[(0, .int .u8 x), (1, .int .u8 y)]).run Try.prog W = .ok (.agg #[.int .u8 x, .int .u8 y]) W := by kernel_rfl
theorem two_one (x y : Int) : ∀ v ∈ (#[Value.int .u8 x, .int .u8 y] : Array Value).toList, v.oneCell' = true := by
  intro v hv
  simp at hv
  rcases hv with rfl | rfl <;> rfl

set_option maxHeartbeats 4000000 in
set_option maxRecDepth 100000 in
theorem common_any (K1 K2 : Nat → Nat) (hk1 : ∀ j, j < 256 → K1 j < 256) (hk2 : ∀ j, j < 256 → K2 j < 256) (w : World) :
    Calls Try.prog 31 #[.agg (clsOf K1), .agg (clsOf K2)] w (CoPost K1 K2 w) := by
  have hmm := make_mapTU9
  obtain ⟨iU, hU, hU0, hU1, hU2⟩ := info_parts Try.info_u8
  have HK := Lib.hid (And.intro hk1 hk2)
  clear hk1 hk2
  have k0 := al w (.cells (clsOf K1) 22)
  have k1 := al (w.alloc (.cells (clsOf K1) 22)) (.cells (clsOf K2) 22)
  have k2 := al ((w.alloc (.cells (clsOf K1) 22)).alloc (.cells (clsOf K2) 22)) (.cells (zC 22) 22)
  have HB : Hid (St (((w.alloc (.cells (clsOf K1) 22)).alloc (.cells (clsOf K2) 22)).alloc (.cells (zC 22) 22)) 22 w.heap.size (clsOf K1) ∧ St (((w.alloc (.cells (clsOf K1) 22)).alloc (.cells (clsOf K2) 22)).alloc (.cells (zC 22) 22)) 22 (w.heap.size + 1) (clsOf K2) ∧ St (((w.alloc (.cells (clsOf K1) 22)).alloc (.cells (clsOf K2) 22)).alloc (.cells (zC 22) 22)) 22 (w.heap.size + 1 + 1) (zC 22) ∧ Below w.heap.size w (((w.alloc (.cells (clsOf K1) 22)).alloc (.cells (clsOf K2) 22)).alloc (.cells (zC 22) 22))) := by
    refine ⟨((St.new w _ _).keep k1).keep k2, ?_, ?_, k0.trans ((k1.trans (k2.mono k1.size)).mono k0.size)⟩
    · have := (St.new (w.alloc (.cells (clsOf K1) 22)) 22 (clsOf K2)).keep k2
      simpa using this
    · have := St.new ((w.alloc (.cells (clsOf K1) 22)).alloc (.cells (clsOf K2) 22)) 22 (zC 22)
      simpa using this
  clear k0 k1 k2
  go_enter Try.func31, Try.ntmps31
  go_upto_region 1 with (refine wpList_alloc9 rfl 22 rfl (zC 22) (zCls_run _) ?_)
  try simp only [Act.put, List.setIfInBounds_toArray, List.set_cons_zero, List.set_cons_succ, alloc_sz9]
  generalize ((w.alloc (.cells (clsOf K1) 22)).alloc (.cells (clsOf K2) 22)).alloc (.cells (zC 22) 22) = W3 at HB ⊢
  obtain ⟨b4, hb4⟩ : ∃ b4, w.heap.size + 1 + 1 = b4 := ⟨_, rfl⟩
  obtain ⟨b1, hb1⟩ : ∃ b1, w.heap.size + 1 = b1 := ⟨_, rfl⟩
  obtain ⟨b0, hb0⟩ : ∃ b0, w.heap.size = b0 := ⟨_, rfl⟩
  rw [hb4, hb1, hb0] at HB
  rw [hb4, hb1, hb0]
  have Hb := Lib.hid (And.intro hb0 (And.intro hb1 hb4))
  clear hb0 hb1 hb4
  have k6 := al W3 (.cells (zC 22) 22)
  have hS6 : St (W3.alloc (.cells (zC 22) 22)) 22 W3.heap.size (zC 22) := St.new _ _ _
  have k7 := al (W3.alloc (.cells (zC 22) 22)) (.map #[] 0)
  have hMp : MapN ((W3.alloc (.cells (zC 22) 22)).alloc (.map #[] 0)) 80 (W3.heap.size + 1) 0 (TmQ []) := by
    have := MapN.made (W3.alloc (.cells (zC 22) 22)) 80 (TmQ []) (fun x y h => by
      obtain ⟨k, s, h1, _⟩ := h
      simp at h1)
    simpa using this
  have HI0 : Hid (CoI W3 K1 K2 (W3.heap.size + 1) W3.heap.size 0 (.slice none 0 0) [] (fun _ => 0) ((W3.alloc (.cells (zC 22) 22)).alloc (.map #[] 0))) := by
    refine ⟨k6.trans (k7.mono k6.size), hMp, World.ownsRow_nil _ _ _ _, rfl, ?_, fun i hi => absurd hi (by omega), Num.zero _, by omega, by omega, by simp⟩
    have := hS6.keep k7
    rw [zCls_eq] at this
    have e : (fun j => if j < 0 then (fun _ => 0 : Nat → Nat) j else 0) = fun _ => 0 := by funext j; simp
    rw [e]
    exact this
  clear k6 hS6 k7 hMp
  go_upto_region 4 with (refine wpList_alloc9 rfl 22 rfl (zC 22) (zCls_run _) ?_)
  try simp only [Act.put, List.setIfInBounds_toArray, List.set_cons_zero, List.set_cons_succ, alloc_sz9]
  obtain ⟨bM, hbM⟩ : ∃ bM, W3.heap.size + 1 = bM := ⟨_, rfl⟩
  obtain ⟨b6, hb6⟩ : ∃ b6, W3.heap.size = b6 := ⟨_, rfl⟩
  have Hb6 := Lib.hid hb6
  rw [hbM] at HI0
  rw [hbM]
  have HI1 : Hid (CoI W3 K1 K2 bM b6 0 (.slice none 0 0) [] (fun _ => 0) ((W3.alloc (.cells (zC 22) 22)).alloc (.map #[] 0))) := by rw [← hb6]; exact HI0.out
  rw [hb6]
  clear HI0 hbM hb6
  generalize (W3.alloc (.cells (zC 22) 22)).alloc (.map #[] 0) = W5 at HI1 ⊢
  go_wp2_with fail
  go_loopw [7, 9, 10, 11, 12, 14] (fun v7 _ _ _ _ vk wr => ∃ (k m : Nat) (a7 : Option Addr) (c7 : Nat), v7 = .slice a7 m c7 ∧ vk = .int .i64 k ∧ k ≤ 256 ∧ m ≤ k ∧ Hid (∃ nm g, nm.length = m ∧ CoI W3 K1 K2 bM b6 k v7 nm g wr)) (fun _ _ _ _ _ v _ => 256 - (intOf v).toNat)
  case atStart => exact ⟨0, 0, none, 0, rfl, rfl, by omega, by omega, _, _, rfl, HI1.out⟩
  case round =>
    clear HI1
    obtain ⟨k, m, a7, c7, rfl, rfl, hk, hmk, HL⟩ := hrel
    by_cases hlk : k < 256
    · obtain ⟨nm, g, hnm, hM0⟩ := HL.out
      have i2 : (k : Int) < 256 := by omega
      have hbel := hM0.bel
      have hx1 := HK.out.1 k hlk
      have hx2 := HK.out.2 k hlk
      have HM0 := Lib.hid (And.intro hnm hM0)
      have hS : Hid (∀ W', Below W3.heap.size W3 W' → W'.cell? ⟨b0, k, none⟩ = some (.int .u8 ((K1 k : Nat) : Int)) ∧ W'.cell? ⟨b1, k, none⟩ = some (.int .u8 ((K2 k : Nat) : Int))) := fun W' h => by
        have h1 := (HB.out.1.keep h).at_ k
        have h2 := (HB.out.2.1.keep h).at_ k
        rw [clsOf_at K1 k hlk] at h1
        rw [clsOf_at K2 k hlk] at h2
        exact ⟨h1, h2⟩
      have HW7 : Hid (Below wr.heap.size wr ((wr.drew.alloc (.cells #[.int .u8 0, .int .u8 0] 80)).setRow wr.heap.size #[.int .u8 ((K1 k : Nat) : Int), .int .u8 ((K2 k : Nat) : Int)]) ∧ St ((wr.drew.alloc (.cells #[.int .u8 0, .int .u8 0] 80)).setRow wr.heap.size #[.int .u8 ((K1 k : Nat) : Int), .int .u8 ((K2 k : Nat) : Int)]) 80 wr.heap.size #[.int .u8 ((K1 k : Nat) : Int), .int .u8 ((K2 k : Nat) : Int)]) := by
        have hs : St (wr.drew.alloc (.cells #[.int .u8 0, .int .u8 0] 80)) 80 wr.heap.size #[.int .u8 0, .int .u8 0] := St.new wr.drew _ _
        exact ⟨below_setRow9 ((Below.refl _ _).drew.trans (al wr.drew _)) (Nat.le_refl _) _, hs.setRow⟩
      have HS6 : Hid (St (wr.drew.alloc (.cells #[.int .u8 0, .int .u8 0] 80)) 80 wr.heap.size #[.int .u8 0, .int .u8 0]) := St.new wr.drew _ _
      clear hM0 hnm HL
      obtain ⟨x, hx⟩ : ∃ x, K1 k = x := ⟨_, rfl⟩
      obtain ⟨y, hy⟩ : ∃ y, K2 k = y := ⟨_, rfl⟩
      have Hxy := Lib.hid (And.intro hx hy)
      rw [hx, hy] at hS HW7
      rw [hx] at hx1
      rw [hy] at hx2
      clear hx hy
      go_upto_region 7 with fail
      refine wp_region_held_drew (S := fun W' => W'.cell? ⟨b0, k, none⟩ = some (.int .u8 ((x : Nat) : Int)) ∧ W'.cell? ⟨b1, k, none⟩ = some (.int .u8 ((y : Nat) : Int))) (by kernel_rfl) (hS.out _ hbel.drew) (fun hHeld => ?_)
      (refine wpAnyH_take (i := 0) (oi := ?_) (v := ?_) ?_ (by kernel_rfl) (by kernel_rfl) (by kernel_rfl) ?_ (Or.inl ⟨?_, ?_⟩) (by assumption) ?_; rotate_left 2; (focus ((simp only [List.getElem?_toArray, List.getElem?_cons_zero]); first | done | rfl)); (focus (exact fun _ _ _ h => h)); (focus rfl); (focus (intro wz hSw; (try dsimp only at hSw); go_simp; first | done | with_reducible rfl)); try simp only [Act.put, List.setIfInBounds_toArray, List.set_cons_zero, List.set_cons_succ])
      (refine wpAnyH_take (i := 1) (oi := ?_) (v := ?_) ?_ (by kernel_rfl) (by kernel_rfl) (by kernel_rfl) ?_ (Or.inl ⟨?_, ?_⟩) (by assumption) ?_; rotate_left 2; (focus ((simp only [List.getElem?_toArray, List.getElem?_cons_succ, List.getElem?_cons_zero]); first | done | rfl)); (focus (exact fun _ _ _ h => h)); (focus rfl); (focus (intro wz hSw; (try dsimp only at hSw); go_simp; first | done | with_reducible rfl)); try simp only [Act.put, List.setIfInBounds_toArray, List.set_cons_zero, List.set_cons_succ])
      (refine wpAnyH_take (i := 2) (oi := ?_) (v := ?_) ?_ (by kernel_rfl) (by kernel_rfl) (by kernel_rfl) ?_ (Or.inl ⟨?_, ?_⟩) (by assumption) ?_; rotate_left 2; (focus ((simp only [List.getElem?_toArray, List.getElem?_cons_succ, List.getElem?_cons_zero]); first | done | rfl)); (focus (exact fun _ _ _ h => h)); (focus rfl); (focus (intro wz hSw; (try dsimp only at hSw); go_simp; first | done | with_reducible rfl)); try simp only [Act.put, List.setIfInBounds_toArray, List.set_cons_zero, List.set_cons_succ])
      (refine wpAnyH_take (i := 3) (oi := ?_) (v := ?_) ?_ (by kernel_rfl) (by kernel_rfl) (by kernel_rfl) ?_ (Or.inl ⟨?_, ?_⟩) (by assumption) ?_; rotate_left 2; (focus ((simp only [List.getElem?_toArray, List.getElem?_cons_succ, List.getElem?_cons_zero]); first | done | rfl)); (focus (exact fun _ _ _ h => h)); (focus rfl); (focus (intro wz hSw; (try dsimp only at hSw); go_simp; first | done | with_reducible rfl)); try simp only [Act.put, List.setIfInBounds_toArray, List.set_cons_zero, List.set_cons_succ])
      (refine wpAnyH_take (i := 4) (oi := ?_) (v := ?_) ?_ (by kernel_rfl) (by kernel_rfl) (by kernel_rfl) ?_ (Or.inl ⟨?_, ?_⟩) (by assumption) ?_; rotate_left 2; (focus ((simp only [List.getElem?_toArray, List.getElem?_cons_succ, List.getElem?_cons_zero]); first | done | rfl)); (focus (exact fun _ _ _ h => h)); (focus rfl); (focus (intro wz hSw; (try dsimp only at hSw); go_simp; first | done | with_reducible rfl)); try simp only [Act.put, List.setIfInBounds_toArray, List.set_cons_zero, List.set_cons_succ])
      (refine wpAnyH_take (i := 5) (oi := ?_) (v := ?_) ?_ (by kernel_rfl) (by kernel_rfl) (by kernel_rfl) ?_ (Or.inl ⟨?_, ?_⟩) (by assumption) ?_; rotate_left 2; (focus ((simp only [List.getElem?_toArray, List.getElem?_cons_succ, List.getElem?_cons_zero]); first | done | rfl)); (focus (exact fun _ _ _ h => h)); (focus rfl); (focus (intro wz hSw; (try dsimp only at hSw); go_simp; first | done | with_reducible rfl)); try simp only [Act.put, List.setIfInBounds_toArray, List.set_cons_zero, List.set_cons_succ])
      (refine wpAnyH_take (i := 6) (oi := ?_) (v := .agg #[.int .u8 ((x : Nat) : Int), .int .u8 ((y : Nat) : Int)]) ?_ (by kernel_rfl) (by kernel_rfl) (by kernel_rfl) ?_ (Or.inl ⟨?_, ?_⟩) (by assumption) ?_; rotate_left; (focus ((simp only [List.getElem?_toArray, List.getElem?_cons_succ, List.getElem?_cons_zero]); first | done | rfl)); (focus (exact fun _ _ _ h => h)); (focus rfl); (focus (intro wz hSw; exact exec_bld10 wz _ _ rfl #[(0, .int .u8 ((x : Nat) : Int)), (1, .int .u8 ((y : Nat) : Int))] (by first | rfl | simp [Act.eval] | (simp; rfl)) _ (two_built _ _ wz))); try simp only [Act.put, List.setIfInBounds_toArray, List.set_cons_zero, List.set_cons_succ])
      refine wpAnyH_ready (rs := [7]) (by kernel_rfl) (by simp) ?_
      refine AllReadyH.cons (o := ?_) ?_ (fun K hK => ?_) ?_
      rotate_left
      (focus ((simp only [List.getElem?_toArray, List.getElem?_cons_succ, List.getElem?_cons_zero]); first | done | rfl))
      · skip
        refine step_alloc9 (by rfl) 80 (by rfl) #[.int .u8 0, .int .u8 0] (zTwo_run _) ?_
        refine hK.out _ _ (hS.out _ (hbel.trans (((Below.refl _ _).drew.trans (al wr.drew _)).mono hbel.size))) (fun hHeld => ?_)
        clear hK K
        try simp only [Act.put, List.setIfInBounds_toArray, List.set_cons_zero, List.set_cons_succ]
        try simp only [drew_sz9]
        refine wpAnyH_ready (rs := [8]) (by kernel_rfl) (by simp) ?_
        refine AllReadyH.cons (o := ?_) ?_ (fun K hK => ?_) ?_
        rotate_left
        (focus ((simp only [List.getElem?_toArray, List.getElem?_cons_succ, List.getElem?_cons_zero]); first | done | rfl))
        · skip
          refine step_store9 (by rfl) 80 _ _ (by rfl) wr.heap.size 80 #[.int .u8 0, .int .u8 0] #[.int .u8 ((x : Nat) : Int), .int .u8 ((y : Nat) : Int)] (by rfl) (by rfl) HS6.out (by rfl) (by rw [info_two9]; rfl) (two_one _ _) ?_
          refine hK.out _ _ (hS.out _ (hbel.trans (HW7.out.1.mono hbel.size))) (fun hHeld => ?_)
          clear hK K
          try simp only [Act.put, List.setIfInBounds_toArray, List.set_cons_zero, List.set_cons_succ]
          refine wpAnyH_done (by kernel_rfl) ?_ _
          clear hHeld
          have HM7 : Hid (nm.length = m ∧ CoI W3 K1 K2 bM b6 k (.slice a7 m c7) nm g ((wr.drew.alloc (.cells #[.int .u8 0, .int .u8 0] 80)).setRow wr.heap.size #[.int .u8 ((x : Nat) : Int), .int .u8 ((y : Nat) : Int)])) := ⟨HM0.out.1, HM0.out.2.keep HW7.out.1⟩
          obtain ⟨g10, hg10⟩ : ∃ g10, wr.heap.size = g10 := ⟨_, rfl⟩
          have HS7 := Lib.hid HW7.out.2
          rw [hg10] at HM7 HS7
          go_upto_region 8 with fail
          rw [hg10]
          generalize (wr.drew.alloc (.cells #[.int .u8 0, .int .u8 0] 80)).setRow g10 #[.int .u8 ((x : Nat) : Int), .int .u8 ((y : Nat) : Int)] = V at HM7 HS7 ⊢
          clear hg10 HW7 HS6 hbel
          have hlk2 := HM7.out.2.look (x, y) hx1 hx2
          have hw8 : IntKind.u8.wrap ((m : Nat) : Int) = ((m : Nat) : Int) := by simp [IntKind.wrap, IntKind.bits, IntKind.signed]; omega
          have hw9 : IntKind.u8.wrap ((k : Nat) : Int) = ((k : Nat) : Int) := by simp [IntKind.wrap, IntKind.bits, IntKind.signed]; omega
          have z1 := HM7.out.2.st.at_ k
          have z2 := HM7.out.2.st.thaw_ k
          rw [clsOf_at _ k hlk] at z1
          rcases hlk2 with ⟨b, hb, hrun⟩ | ⟨hb, hrun⟩
          · have HF : Hid (∃ nm g, nm.length = m ∧ CoI W3 K1 K2 bM b6 (k + 1) (.slice a7 m c7) nm g (V.setCell ⟨b6, k, none⟩ (.int .u8 ((b : Nat) : Int)))) := by
              obtain ⟨g', hg'⟩ := HM7.out.2.old hlk (by rw [Hxy.out.1, Hxy.out.2]; exact hb)
              exact ⟨nm, g', HM7.out.1, hg'⟩
            clear hb hw8 hw9
            unfold two8 at hrun
            dsimp only at hrun
            go_wp2_with (refine wpList_load_any9 (by rfl) 80 _ rfl ⟨g10, 0, none⟩ rfl #[.int .u8 ((x : Nat) : Int), .int .u8 ((y : Nat) : Int)] _ HS7.out.part Try.underlying80 rfl (by rw [info_two9]; rfl) ?_)
            go_roundw
            case rel => exact ⟨k + 1, m, a7, c7, rfl, by go_num, by omega, by omega, HF.out⟩
            case measure => simp [intOf]; omega
          · have hml : nm.length < maxLen := by have := HM7.out.1; unfold maxLen; omega
            obtain ⟨w1, hup, hm1, hg1⟩ := HM7.out.2.put (x, y) hx1 hx2 hml hb
            rw [HM7.out.1] at hup
            have ho1 := own_grown_map HM7.out.2.sm HM7.out.2.map.ex.of hg1
            rw [HM7.out.1] at ho1
            have hlo1 := (HM7.out.2.bel.grown hg1 HM7.out.2.bel.size (fun g e => by injection e with e; rw [← e]; exact HM7.out.2.loM)).size
            have HS1 := Lib.hid (HM7.out.2.st.grown_map HM7.out.2.map.ex.of hg1)
            have HS8 := Lib.hid (HS7.out.grown_map HM7.out.2.map.ex.of hg1)
            have Hfr : Hid (∀ (w2 w3 : World) (v7' : Value), Below w1.heap.size w1 w2 → w2.grownBy w3 (Value.slice a7 m c7).ownBlock → w3.ownsRow W3.heap.size 5 1 v7' (m + 1) (u8s (rpl g k) ++ [.int .u8 ((k : Nat) : Int)]) → ∃ nm g, nm.length = m + 1 ∧ CoI W3 K1 K2 bM b6 (k + 1) v7' nm g (w3.setCell ⟨b6, k, none⟩ (.int .u8 ((m : Nat) : Int)))) := fun w2 w3 v7' h1 h2 h3 => by
              obtain ⟨g', hg'⟩ := HM7.out.2.fresh hlk (by rw [Hxy.out.1, Hxy.out.2]; exact hb) (by rw [Hxy.out.1, Hxy.out.2]; exact hm1) hg1 h1 h2 (by rw [HM7.out.1]; exact h3)
              rw [HM7.out.1] at hg'
              exact ⟨_, g', by simp [HM7.out.1], hg'⟩
            obtain ⟨l9, hl9⟩ : ∃ l9, u8s (rpl g k) = l9 := ⟨_, rfl⟩
            rw [hl9] at ho1 Hfr
            clear hb hm1 hg1 hml hl9 z1 z2
            unfold two8 at hrun hup
            dsimp only at hrun hup
            go_wp2_with (first
              | (refine wpList_load_any9 (by rfl) 80 _ rfl ⟨g10, 0, none⟩ rfl #[.int .u8 ((x : Nat) : Int), .int .u8 ((y : Nat) : Int)] _ HS7.out.part Try.underlying80 rfl (by rw [info_two9]; rfl) ?_)
              | (at_builtin; refine wpList_append_own_at _ rfl _ _ 49 rfl W3.heap.size 5 iU (.int .u8 0) 1 1 Try.underlying49 hU hU0 hU1 hU2 rfl (by decide) _ _ _ rfl (ho1.alloc _) ⟨w1.heap.size, 0, none⟩ 1 1 [.int .u8 ((k : Nat) : Int)] rfl rfl (cell_one_new _ _ _) ?d2 ?d3 ?d4 ?d5 ?_))
            case d2 => first | (intro u hu; simp at hu; subst hu; rfl) | rfl
            case d3 => unfold maxLen; omega
            case d4 => omega
            case d5 => first | (simp; omega) | omega
            intro v' w5 hown5 hgrow5 _ hat5
            obtain ⟨a8, c8, rfl⟩ := ownsRow_slice hown5
            have k9 := al w1 (.cells #[.int .u8 ((k : Nat) : Int)] 5)
            have HF := Lib.hid (Hfr.out _ w5 (.slice a8 (m + 1) c8) k9 hgrow5 hown5)
            have HS5 := Lib.hid ((HS1.out.keep k9).grown_own (ownsRow_keep ho1 k9) (by decide) hgrow5)
            have z1 := HS5.out.at_ k
            have z2 := HS5.out.thaw_ k
            rw [clsOf_at _ k hlk] at z1
            clear hown5 hgrow5 hat5 ho1 k9
            go_wp2_with fail
            go_roundw
            case rel => exact ⟨k + 1, m + 1, a8, c8, rfl, by go_num, by omega, by omega, HF.out⟩
            case measure => simp [intOf]; omega
        exact AllReadyH.nil
      exact AllReadyH.nil
    · obtain rfl : k = 256 := by omega
      obtain ⟨nm, g, hnm, hM⟩ := HL.out
      have HS6 := Lib.hid hM.st
      have HS4 := Lib.hid (HB.out.2.2.1.keep hM.bel)
      have hg : (fun j => if j < 256 then g j else 0) = fun j => if j < 256 then g j else 0 := rfl
      have HF : Hid (CoPost K1 K2 w (.returned (.tuple #[.agg (clsOf (fun j => if j < 256 then g j else 0)), .slice a7 m c7])) (wr.setRow b4 (clsOf (fun j => if j < 256 then g j else 0)))) := by
        have hs := HB.out.2.2.2.size
        have e : rpl (fun j => if j < 256 then g j else 0) 256 = rpl g 256 := rpl_congr 256 (fun j hj => by simp only [if_pos hj])
        have hN := hM.num
        rw [hnm] at hN
        refine ⟨_, m, a7, c7, rfl, ?_, hN.congr (fun i hi => by simp only [if_pos hi]), ?_⟩
        · rw [e]
          have ho := hM.sm
          rw [hnm] at ho
          exact own_kept (ts := []) (bs := [b4]) (ownsRow_base ho (show w.heap.size ≤ W3.heap.size by have := Hb.out.1; omega)) (kept_setRow9 _ _ _) (by simp) (fun g9 e9 hm9 => own_ne ho HS4.out (by decide) g9 e9 (List.mem_singleton.1 hm9))
        · rw [Hb.out.1]
          exact below_setRow9 (HB.out.2.2.2.trans (hM.bel.mono (by have := Hb.out.1; omega))) (by have := Hb.out; omega) _
      have hd := clsOf_size (fun j => if j < 256 then g j else 0)
      clear hM HL hnm
      generalize (fun j => if j < 256 then g j else 0) = G at HS6 HF hd
      go_wp2_with (first | (refine wpList_load_part rfl 22 _ rfl ⟨b6, 0, none⟩ rfl (clsOf G) _ HS6.out.part Try.underlying22 rfl (by rw [info_cls9, hd]) ?_) | (refine wpList_store_var9 rfl 22 _ _ rfl b4 22 (zC 22) (clsOf G) rfl rfl HS4.out (by rw [zCls_eq, clsOf_size, clsOf_size]) (by rw [info_cls9, hd]) (clsOf_one _) ?_))
      refine bodyPost_ret (results_cell9 rfl _ _ b4 (clsOf G) _ rfl HS4.out.setRow.part Try.underlying22 rfl (by rw [info_cls9, hd])) rfl ?_
      exact HF.out
end Go.Proofs.Ytohgbkajnhgnaaa
