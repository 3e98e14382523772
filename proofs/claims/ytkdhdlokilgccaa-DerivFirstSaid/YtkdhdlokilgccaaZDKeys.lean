import Derived.Test.YtkdhdlokilgccaaZDBase
import Derived.Test.YtkdhdlokilgccaaZMem
namespace Go.Proofs.Ytkdhdlokilgccaa
open Go.RowKit Go.Maps Go.WideElems Go.ChangeMaps Go.MapKept
set_option linter.unusedVariables false
set_option linter.unusedSimpArgs false
set_option maxRecDepth 100000

/-- An entry of a book: its last piece, the numbers of the operands. -/
structure Ex where
  p : Pc
  a : Nat
  b : Nat
def exCells (x : Ex) : List Value := (#[.int .i64 x.p.k, .int .u64 ((wd x.p.p 0 : Nat) : Int), .int .u64 ((wd x.p.p 1 : Nat) : Int), .int .u64 ((wd x.p.p 2 : Nat) : Int), .int .u64 ((wd x.p.p 3 : Nat) : Int), .int .i64 ((x.a : Nat) : Int), .int .i64 ((x.b : Nat) : Int)] : Array Value).toList
def exs (l : List Ex) : List Value := l.flatMap exCells
theorem exs_length (l : List Ex) : (exs l).length = l.length * 7 := by
  induction l with
  | nil => rfl
  | cons x l ih => simp [exs, exCells] at ih ⊢; omega
theorem exs_snoc (l : List Ex) (x : Ex) : exs (l ++ [x]) = exs l ++ exCells x := by simp [exs]
theorem exs_get (l : List Ex) (i : Nat) (h : i < l.length) (j : Nat) (hj : j < 7) : (exs l)[i * 7 + j]? = (exCells l[i])[j]? := by
  induction l generalizing i with
  | nil => simp at h
  | cons x l ih =>
    have hc : (exCells x).length = 7 := by simp [exCells]
    show (exCells x ++ exs l)[i * 7 + j]? = _
    match i, h with
    | 0, _ =>
      rw [Nat.zero_mul, Nat.zero_add, List.getElem?_append_left (by omega)]
      rfl
    | i + 1, h =>
      rw [List.getElem?_append_right (by omega), hc, show (i + 1) * 7 + j - 7 = i * 7 + j by omega, ih i (by simpa using h)]
      rfl
/-- What a book tells of an expression. -/
structure Fa where
  e : Bool
  s : Nat → Bool
  n : Nat
def faCells (x : Fa) : List Value := (#[.bool x.e, .int .u64 ((wd x.s 0 : Nat) : Int), .int .u64 ((wd x.s 1 : Nat) : Int), .int .u64 ((wd x.s 2 : Nat) : Int), .int .u64 ((wd x.s 3 : Nat) : Int), .int .i64 ((x.n : Nat) : Int)] : Array Value).toList
def fas (l : List Fa) : List Value := l.flatMap faCells
theorem fas_length (l : List Fa) : (fas l).length = l.length * 6 := by
  induction l with
  | nil => rfl
  | cons x l ih => simp [fas, faCells] at ih ⊢; omega
theorem fas_snoc (l : List Fa) (x : Fa) : fas (l ++ [x]) = fas l ++ faCells x := by simp [fas]
theorem fas_get (l : List Fa) (i : Nat) (h : i < l.length) (j : Nat) (hj : j < 6) : (fas l)[i * 6 + j]? = (faCells l[i])[j]? := by
  induction l generalizing i with
  | nil => simp at h
  | cons x l ih =>
    have hc : (faCells x).length = 6 := by simp [faCells]
    show (faCells x ++ fas l)[i * 6 + j]? = _
    match i, h with
    | 0, _ =>
      rw [Nat.zero_mul, Nat.zero_add, List.getElem?_append_left (by omega)]
      rfl
    | i + 1, h =>
      rw [List.getElem?_append_right (by omega), hc, show (i + 1) * 6 + j - 6 = i * 6 + j by omega, ih i (by simpa using h)]
      rfl

theorem wide_expr : (match Try.prog.underlying 142 with | some (.array _ _) | some (.struct _) => true | _ => false) = true := by kernel_rfl
theorem wide_tail : (match Try.prog.underlying 126 with | some (.array _ _) | some (.struct _) => true | _ => false) = true := by kernel_rfl
theorem wide_reading : (match Try.prog.underlying 130 with | some (.array _ _) | some (.struct _) => true | _ => false) = true := by kernel_rfl
theorem law_expr : Keyed Try.prog 142 := Keyed.of_law (deep_law_laid laidOut (m := 4) (by omega) (of_decide_eq_true (by kernel_rfl)) (by kernel_rfl) wide_expr)
theorem law_tail : Keyed Try.prog 126 := Keyed.of_law (deep_law_laid laidOut (m := 3) (by omega) (of_decide_eq_true (by kernel_rfl)) (by kernel_rfl) wide_tail)
theorem law_reading : Keyed Try.prog 130 := Keyed.of_law (deep_law_laid laidOut (m := 3) (by omega) (of_decide_eq_true (by kernel_rfl)) (by kernel_rfl) wide_reading)
theorem law_int : Keyed Try.prog 3 := int_keyed Try.underlying3

theorem lits_int (d : Nat) (n : Int) (h : (Lit.int .i64 n).wf = true) : Try.prog.keyLits (d + 1) 3 [.int .i64 n] = some [.int .i64 n] := by
  simp [Program.keyLits, Try.underlying3, h]
theorem lits_u64 (d : Nat) (n : Int) (h : (Lit.int .u64 n).wf = true) : Try.prog.keyLits (d + 1) 26 [.int .u64 n] = some [.int .u64 n] := by
  simp [Program.keyLits, Try.underlying26, h]
theorem lits_u8 (d : Nat) (n : Int) (h : (Lit.int .u8 n).wf = true) : Try.prog.keyLits (d + 1) 5 [.int .u8 n] = some [.int .u8 n] := by
  simp [Program.keyLits, Try.underlying5, h]
theorem cells_int : Try.prog.cellsOf 3 = 1 := by kernel_rfl
theorem cells_u64 : Try.prog.cellsOf 26 = 1 := by kernel_rfl
theorem cells_u8 : Try.prog.cellsOf 5 = 1 := by kernel_rfl
theorem cells_set : Try.prog.cellsOf 28 = 4 := by kernel_rfl
theorem cells_pc : Try.prog.cellsOf 66 = 5 := by kernel_rfl
theorem cells_two : Try.prog.cellsOf 140 = 2 := by kernel_rfl
theorem cells_expr : Try.prog.cellsOf 142 = 7 := by kernel_rfl
theorem cells_tail : Try.prog.cellsOf 126 = 2 := by kernel_rfl
theorem cells_reading : Try.prog.cellsOf 130 = 2 := by kernel_rfl
theorem lits_set (d : Nat) (a0 a1 a2 a3 : Int) (h0 : (Lit.int .u64 a0).wf = true) (h1 : (Lit.int .u64 a1).wf = true) (h2 : (Lit.int .u64 a2).wf = true) (h3 : (Lit.int .u64 a3).wf = true) :
    ∃ l, Try.prog.keyLits (d + 2) 28 [.int .u64 a0, .int .u64 a1, .int .u64 a2, .int .u64 a3] = some l := by
  refine ⟨[.int .u64 a0, .int .u64 a1, .int .u64 a2, .int .u64 a3], ?_⟩
  conv => lhs; unfold Program.keyLits
  simp [Try.underlying28, cells_set, cells_u64, List.range_succ, lits_u64 d a0 h0, lits_u64 d a1 h1, lits_u64 d a2 h2, lits_u64 d a3 h3]
theorem lits_two (d : Nat) (a0 a1 : Int) (h0 : (Lit.int .i64 a0).wf = true) (h1 : (Lit.int .i64 a1).wf = true) :
    ∃ l, Try.prog.keyLits (d + 2) 140 [.int .i64 a0, .int .i64 a1] = some l := by
  refine ⟨[.int .i64 a0, .int .i64 a1], ?_⟩
  conv => lhs; unfold Program.keyLits
  simp [Try.underlying140, cells_two, cells_int, List.range_succ, lits_int d a0 h0, lits_int d a1 h1]
theorem lits_pc (d : Nat) (k a0 a1 a2 a3 : Int) (hk : (Lit.int .i64 k).wf = true) (h0 : (Lit.int .u64 a0).wf = true) (h1 : (Lit.int .u64 a1).wf = true) (h2 : (Lit.int .u64 a2).wf = true) (h3 : (Lit.int .u64 a3).wf = true) :
    ∃ l, Try.prog.keyLits (d + 3) 66 [.int .i64 k, .int .u64 a0, .int .u64 a1, .int .u64 a2, .int .u64 a3] = some l := by
  obtain ⟨l, hl⟩ := lits_set d a0 a1 a2 a3 h0 h1 h2 h3
  unfold Program.keyLits
  simp [Try.underlying66, cells_pc, cells_int, cells_set, lits_int (d + 1) k hk, hl]
theorem lits_expr (d : Nat) (k a0 a1 a2 a3 x y : Int) (hk : (Lit.int .i64 k).wf = true) (h0 : (Lit.int .u64 a0).wf = true) (h1 : (Lit.int .u64 a1).wf = true) (h2 : (Lit.int .u64 a2).wf = true) (h3 : (Lit.int .u64 a3).wf = true) (hx : (Lit.int .i64 x).wf = true) (hy : (Lit.int .i64 y).wf = true) :
    ∃ l, Try.prog.keyLits (d + 4) 142 [.int .i64 k, .int .u64 a0, .int .u64 a1, .int .u64 a2, .int .u64 a3, .int .i64 x, .int .i64 y] = some l := by
  obtain ⟨l, hl⟩ := lits_pc d k a0 a1 a2 a3 hk h0 h1 h2 h3
  obtain ⟨m, hm⟩ := lits_two (d + 1) x y hx hy
  unfold Program.keyLits
  simp [Try.underlying142, cells_expr, cells_pc, cells_two, hl, hm]
theorem key_expr (k a0 a1 a2 a3 x y : Int) (hk : (Lit.int .i64 k).wf = true) (h0 : (Lit.int .u64 a0).wf = true) (h1 : (Lit.int .u64 a1).wf = true) (h2 : (Lit.int .u64 a2).wf = true) (h3 : (Lit.int .u64 a3).wf = true) (hx : (Lit.int .i64 x).wf = true) (hy : (Lit.int .i64 y).wf = true) :
    ∃ kl, keyOf Try.prog 142 (.agg #[.int .i64 k, .int .u64 a0, .int .u64 a1, .int .u64 a2, .int .u64 a3, .int .i64 x, .int .i64 y]) = some kl := by
  have hT : Try.prog.keyType 142 = true := by kernel_rfl
  have hs : ∃ d, Try.prog.types.size + 1 = d + 4 := ⟨Try.prog.types.size - 3, by have : 4 ≤ Try.prog.types.size := of_decide_eq_true (by kernel_rfl); omega⟩
  obtain ⟨d, hd⟩ := hs
  obtain ⟨l, hl⟩ := lits_expr d k a0 a1 a2 a3 x y hk h0 h1 h2 h3 hx hy
  have hf : (Value.agg #[.int .i64 k, .int .u64 a0, .int .u64 a1, .int .u64 a2, .int .u64 a3, .int .i64 x, .int .i64 y]).formed Try.prog 142 = true := by
    simp [Value.formed, Try.underlying142, cells_expr]
  refine ⟨.string (keyBytes l), ?_⟩
  unfold keyOf
  simp only [Try.underlying142, hT, hf, Bool.and_self, if_true, hd, Value.cells, hl, Option.map_some]
theorem key_tail (x y : Int) (hx : (Lit.int .i64 x).wf = true) (hy : (Lit.int .i64 y).wf = true) :
    ∃ kl, keyOf Try.prog 126 (.agg #[.int .i64 x, .int .i64 y]) = some kl := by
  have hT : Try.prog.keyType 126 = true := by kernel_rfl
  have hs : ∃ d, Try.prog.types.size + 1 = d + 2 := ⟨Try.prog.types.size - 1, by have : 4 ≤ Try.prog.types.size := of_decide_eq_true (by kernel_rfl); omega⟩
  obtain ⟨d, hd⟩ := hs
  have hl : Try.prog.keyLits (d + 2) 126 [.int .i64 x, .int .i64 y] = some [.int .i64 x, .int .i64 y] := by
    conv => lhs; unfold Program.keyLits
    simp [Try.underlying126, cells_tail, cells_int, lits_int d x hx, lits_int d y hy]
  have hf : (Value.agg #[.int .i64 x, .int .i64 y]).formed Try.prog 126 = true := by
    simp [Value.formed, Try.underlying126, cells_tail]
  refine ⟨.string (keyBytes [.int .i64 x, .int .i64 y]), ?_⟩
  unfold keyOf
  simp only [Try.underlying126, hT, hf, Bool.and_self, if_true, hd, Value.cells, hl, Option.map_some]
theorem key_reading (x y : Int) (hx : (Lit.int .i64 x).wf = true) (hy : (Lit.int .u8 y).wf = true) :
    ∃ kl, keyOf Try.prog 130 (.agg #[.int .i64 x, .int .u8 y]) = some kl := by
  have hT : Try.prog.keyType 130 = true := by kernel_rfl
  have hs : ∃ d, Try.prog.types.size + 1 = d + 2 := ⟨Try.prog.types.size - 1, by have : 4 ≤ Try.prog.types.size := of_decide_eq_true (by kernel_rfl); omega⟩
  obtain ⟨d, hd⟩ := hs
  have hl : Try.prog.keyLits (d + 2) 130 [.int .i64 x, .int .u8 y] = some [.int .i64 x, .int .u8 y] := by
    conv => lhs; unfold Program.keyLits
    simp [Try.underlying130, cells_reading, cells_int, cells_u8, lits_int d x hx, lits_u8 d y hy]
  have hf : (Value.agg #[.int .i64 x, .int .u8 y]).formed Try.prog 130 = true := by
    simp [Value.formed, Try.underlying130, cells_reading]
  refine ⟨.string (keyBytes [.int .i64 x, .int .u8 y]), ?_⟩
  unfold keyOf
  simp only [Try.underlying130, hT, hf, Bool.and_self, if_true, hd, Value.cells, hl, Option.map_some]
end Go.Proofs.Ytkdhdlokilgccaa
