import Derived.Test.YtbacgnhkapancaaDoorVBase
import Derived.Test.YtbacgnhkapancaaDoorVNumP
import Derived.Test.YtbacgnhkapancaaDoorCards
import Derived.Test.YtbacgnhkapancaaDoorTie
import Derived.LaidMore
import Derived.Stop.Joined
import Derived.Stop.LaidErr
import Derived.SevenTiedAt
import Derived.Lib.LaidTab
namespace Go.Proofs.YtbacgnhkapancaaDoor
open Go.ChangeShapes Go.WideShapes Go.ChangeAt Go.RowKit Go.Deep
set_option linter.unusedVariables false
set_option maxRecDepth 100000

/-- What the rows list. -/
def laidA : List (String × DataW Unit) := [("math/bits.deBruijn32tab", Rows.laid_math_bits_deBruijn32tab), ("math/bits.deBruijn64tab", Rows.laid_math_bits_deBruijn64tab), ("internal/strconv.uint64pow10", Rows.laid_internal_strconv_uint64pow10)]
def laidB : List (String × DataW Unit) := [("math/bits.deBruijn32tab", Rows.laid_math_bits_deBruijn32tab), ("math/bits.deBruijn64tab", Rows.laid_math_bits_deBruijn64tab), ("internal/strconv.uint64pow10", Rows.laid_internal_strconv_uint64pow10), ("strconv.ErrRange", Rows.laid_strconv_ErrRange), ("strconv.ErrSyntax", Rows.laid_strconv_ErrSyntax)]
theorem doorA (os : Os) (args : Array Value) : laidMetH Tryd.prog laidA ((World.doorLaid Tryd.prog 4000 os).forCall (fun _ _ => 0) ⟨#[], args, []⟩).memory :=
  laidMetH_of_parts3 (fuel := 8) (laidMet_of_run' 8 (by kernel_rfl) (by kernel_rfl)) (by kernel_rfl) (by kernel_rfl)
theorem doorB (os : Os) (args : Array Value) : laidMetH Tryd.prog laidB ((World.doorLaid Tryd.prog 4000 os).forCall (fun _ _ => 0) ⟨#[], args, []⟩).memory :=
  laidMetH_of_parts3 (fuel := 8) (laidMet_of_run' 8 (by kernel_rfl) (by kernel_rfl)) (by kernel_rfl) (by kernel_rfl)

theorem starES : "*" ++ "errors.errorString" = "*errors.errorString" := by decide
theorem rowES (u : TypeId) (h : Tryd.prog.typeName? 3 u = some "*errors.errorString") : u = 74 :=
  typeName_ptr_named (nm := "errors.errorString") (by rw [starES]; kernel_rfl) (by kernel_rfl) (by decide) u (by rw [starES]; exact h)
theorem pow_eq : (Rows.laid_internal_strconv_uint64pow10 : DataW Unit) = Lib.tabData .u64 Lib.pow10Tab := by rfl
theorem of_laidB {W : World} (h : laidMetH Tryd.prog laidB W) : LibAt W := by
  rw [MakeChecks.laidMetH_plain _ _ _ (by kernel_rfl)] at h
  have h2 : laidMet Tryd.prog (("internal/strconv.uint64pow10", Rows.laid_internal_strconv_uint64pow10) :: [("strconv.ErrRange", Rows.laid_strconv_ErrRange), ("strconv.ErrSyntax", Rows.laid_strconv_ErrSyntax)]) W := h.tail.tail
  have h3 := h2.tail
  rw [pow_eq] at h2
  obtain ⟨a0, s0, hv0, -, -, -⟩ := laid_sentinel h3 gRng (ti := 47) (by kernel_rfl) Tryd.underlying47 rowES Tryd.underlying74 Tryd.underlying76 rfl rfl Tryd.underlying9 (by kernel_rfl) (by kernel_rfl)
  obtain ⟨a1, s1, hv1, -, -, -⟩ := laid_sentinel h3.tail gSyn (ti := 47) (by kernel_rfl) Tryd.underlying47 rowES Tryd.underlying74 Tryd.underlying76 rfl rfl Tryd.underlying9 (by kernel_rfl) (by kernel_rfl)
  exact ⟨Lib.tabIs_of_head gPow (by kernel_rfl) Tryd.underlying79 Tryd.underlying60 (by kernel_rfl) (by kernel_rfl) h2, ⟨_, _, hv1⟩, ⟨_, _, hv0⟩⟩

/-- A place that came in. -/
theorem open_spot_val {H : Type} {enc : TypeId × Value → H} {w : World} {base b0 : Nat} {r : Reach} {spare : Nat → Bool} {held : Bool} {v : Value} (hk : Value.okWide Tryd.prog w r b0 23 v)
    (h : ∃ (fuel : Nat) (x : DataW H × List MemPlace), DataW.trod enc Tryd.prog w base spare held fuel 23 v.cells.toList = some x) : ∃ L C : Int, v = .agg #[.int .i64 L, .int .i64 C] ∧ C ≤ 9223372036854775807 := by
  obtain ⟨xs, rfl, _⟩ := okWide_struct Tryd.underlying23 hk
  obtain ⟨fuel, x, hf⟩ := h
  have c2 : Tryd.prog.cellsOf 23 = 2 := by kernel_rfl
  have c1 : Tryd.prog.cellsOf 3 = 1 := by kernel_rfl
  obtain ⟨ys, n', hn', hy, hl, hyl, hfi⟩ := DataW.trod_struct Tryd.underlying23 hf
  have f0 := hfi 0 _ rfl
  have f1 := hfi 1 _ rfl
  rw [c2] at hl
  have hcs : (Value.agg xs).cells.toList = xs.toList := rfl
  rw [hcs] at hl f0 f1
  obtain ⟨v0, v1, hc⟩ : ∃ v0 v1, xs.toList = [v0, v1] := by
    generalize xs.toList = L at hl
    match L, hl with
    | [v0, v1], _ => exact ⟨v0, v1, rfl⟩
  have hx : xs = #[v0, v1] := Array.toList_inj.1 (by rw [hc])
  rw [hc] at f0 f1
  match ys, hyl with
  | [y0, y1], _ =>
    simp [c1] at f0 f1
    obtain ⟨L, e0, _, _⟩ := DataW.trod_int Tryd.underlying3 f0
    obtain ⟨C, e1, _, w1⟩ := DataW.trod_int Tryd.underlying3 f1
    simp at e0 e1
    subst e0 e1
    exact ⟨L, C, by rw [hx], (bounds_i64 w1).2⟩
end Go.Proofs.YtbacgnhkapancaaDoor
