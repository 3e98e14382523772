/-
  No cell of these rows narrows 'for every input' (looked for: loops, veiled, ifaces, maps, wideKeys, modest, calm, conditions, laid).
  DERIVED. THE GIVEN ROWS OF THIS SEAT. 3 by the template 'for every input the law returns true; each argument reads behind the call as it read before'; 0 by the template 'total and deterministic' (their statements: YtddkloagaiibaaaTotals.lean).
  GIVEN WITH THE SEED: the statements are not yours to turn. If you find one false, say at which input.
  Laid BY PROGRAM, IN A SANDBOX (cutbox-rows.mjs): the forced cells as the released guide's own fill.sh prints them over the translation 438668efc14ddb67… (all of the seat's roots in one cut). By AI agents, Wed Nov 11 2026. No macro, syntax, notation, axiom, sorry.
-/
import Derived.Test.YtddkloagaiibaaaChecked
import GoSem.Claim
import GoSem.ClaimJoined
import GoSem.ClaimMapViews
import Derived.JoinedTies
import Derived.KernelRfl
namespace Go.Proofs.Ytddkloagaiibaaa
/- THE CELL 'sum', in the pinned program and in every row, IS THE sha256 OF THE DUMP (.gsa) THAT YtddkloagaiibaaaProg.lean LOADS. Nothing in Lean hashes anything: it is a label: what it is worth is what the hold of that sum in a sandbox is worth. -/
noncomputable def Try.pinned : Pinned := { name := "ytddkloagaiibaaa", sum := "438668efc14ddb679ec654acf31a3c1116d36e46a44abfd882e40446a4f1657e", checked := Try.checked }
namespace Rows
def none {H : Type} : Left H := { results := [], args := [] }

/-- 'bosketlaw02.BytesetMakes': WHATEVER THE INPUT: true; the input reads as it did. -/
def bytesetMakesSpec : ChangeSpec := { name := "bytesetMakes", fn := fun _ => fun
  | [d1, d2, d3] => { results := [.lit (.bool true)], args := [d1, d2, d3] }
  | _ => none }
def bytesetMakesRow : OpenClaim := { program := "ytddkloagaiibaaa", sum := "438668efc14ddb679ec654acf31a3c1116d36e46a44abfd882e40446a4f1657e", func := "bosket/bosketlaw02.BytesetMakes", spec := "bytesetMakes", apart := false }
def BytesetMakesSaid : Prop := bytesetMakesRow.holds Try.pinned (OpenSpec.ofChange bytesetMakesSpec)

/-- ITS FALSE NEIGHBOUR: 'it returns false'. Refute it at one input. -/
def bytesetMakesWrong : ChangeSpec := { name := "bytesetMakes", fn := fun _ => fun
  | [d1, d2, d3] => { results := [.lit (.bool false)], args := [d1, d2, d3] }
  | _ => none }
def BytesetMakesWrongFalsely : Prop := bytesetMakesRow.holds Try.pinned (OpenSpec.ofChange bytesetMakesWrong)

/-- 'bosketlaw02.BytesetSpans': WHATEVER THE INPUT: true; the input reads as it did. -/
def bytesetSpansSpec : ChangeSpec := { name := "bytesetSpans", fn := fun _ => fun
  | [d] => { results := [.lit (.bool true)], args := [d] }
  | _ => none }
def bytesetSpansRow : OpenClaim := { program := "ytddkloagaiibaaa", sum := "438668efc14ddb679ec654acf31a3c1116d36e46a44abfd882e40446a4f1657e", func := "bosket/bosketlaw02.BytesetSpans", spec := "bytesetSpans", apart := false }
def BytesetSpansSaid : Prop := bytesetSpansRow.holds Try.pinned (OpenSpec.ofChange bytesetSpansSpec)

/-- ITS FALSE NEIGHBOUR: 'it returns false'. Refute it at one input. -/
def bytesetSpansWrong : ChangeSpec := { name := "bytesetSpans", fn := fun _ => fun
  | [d] => { results := [.lit (.bool false)], args := [d] }
  | _ => none }
def BytesetSpansWrongFalsely : Prop := bytesetSpansRow.holds Try.pinned (OpenSpec.ofChange bytesetSpansWrong)

/-- 'bosketlaw02.BytesetClasses': WHATEVER THE INPUT: true; the input reads as it did. -/
def bytesetClassesSpec : ChangeSpec := { name := "bytesetClasses", fn := fun _ => fun
  | [d] => { results := [.lit (.bool true)], args := [d] }
  | _ => none }
def bytesetClassesRow : OpenClaim := { program := "ytddkloagaiibaaa", sum := "438668efc14ddb679ec654acf31a3c1116d36e46a44abfd882e40446a4f1657e", func := "bosket/bosketlaw02.BytesetClasses", spec := "bytesetClasses", apart := false }
def BytesetClassesSaid : Prop := bytesetClassesRow.holds Try.pinned (OpenSpec.ofChange bytesetClassesSpec)

/-- ITS FALSE NEIGHBOUR: 'it returns false'. Refute it at one input. -/
def bytesetClassesWrong : ChangeSpec := { name := "bytesetClasses", fn := fun _ => fun
  | [d] => { results := [.lit (.bool false)], args := [d] }
  | _ => none }
def BytesetClassesWrongFalsely : Prop := bytesetClassesRow.holds Try.pinned (OpenSpec.ofChange bytesetClassesWrong)

/- THE SECOND FORM. 'bulk': how many values and letters a reading holds, each counted each time it is reached (what is shared counts as often as it is met; a slice's spare places count too). A statement '..UptoSaid' is the law's where the arguments, and the package variables that the reading takes, are together of bulk at most 1048576: NARROWER than '..Said'. Prove '..Said' where nothing that the law and all that it calls make is longer than what came in: it says more and counts as full. Else prove '..UptoSaid'. A law counts once. -/
mutual
def uptoBulk {H : Type} : DataW H → Nat
  | .lit (.string bytes) => bytes.length + 1
  | .lit _ => 1
  | .nil => 1
  | .ptr d => uptoBulk d + 1
  | .slice elems spare => uptoBulkAll elems + uptoBulkAll spare + 1
  | .agg parts => uptoBulkAll parts + 1
  | .iface _ d => uptoBulk d + 1
  | .map entries => uptoBulkEntries entries + 1
  | .held _ => 1
def uptoBulkAll {H : Type} : List (DataW H) → Nat
  | [] => 0
  | d :: r => uptoBulk d + uptoBulkAll r
def uptoBulkEntries {H : Type} : List (Lit × DataW H) → Nat
  | [] => 0
  | x :: r => uptoBulkEntry x + uptoBulkEntries r
def uptoBulkEntry {H : Type} : Lit × DataW H → Nat
  | (.string bytes, d) => bytes.length + uptoBulk d + 1
  | (_, d) => uptoBulk d + 1
 end
def uptoSmall : (H : Type) → List (DataW H) → Bool := fun _ ds => decide (uptoBulkAll ds ≤ 1048576)
def OpenSpec.upto (s : _root_.Go.ChangeSpec) : _root_.Go.OpenSpec := { _root_.Go.OpenSpec.ofChange s with cond := some uptoSmall }

/-- 'bosketlaw02.BytesetMakes', WHERE WHAT IT READS IS OF BULK AT MOST 1048576: true; the input reads as it did. -/
def bytesetMakesUptoRow : OpenClaim := { program := "ytddkloagaiibaaa", sum := "438668efc14ddb679ec654acf31a3c1116d36e46a44abfd882e40446a4f1657e", func := "bosket/bosketlaw02.BytesetMakes", spec := "bytesetMakes", apart := false, narrowed := true }
def BytesetMakesUptoSaid : Prop := bytesetMakesUptoRow.holds Try.pinned (OpenSpec.upto bytesetMakesSpec)

/-- 'bosketlaw02.BytesetSpans', WHERE WHAT IT READS IS OF BULK AT MOST 1048576: true; the input reads as it did. -/
def bytesetSpansUptoRow : OpenClaim := { program := "ytddkloagaiibaaa", sum := "438668efc14ddb679ec654acf31a3c1116d36e46a44abfd882e40446a4f1657e", func := "bosket/bosketlaw02.BytesetSpans", spec := "bytesetSpans", apart := false, narrowed := true }
def BytesetSpansUptoSaid : Prop := bytesetSpansUptoRow.holds Try.pinned (OpenSpec.upto bytesetSpansSpec)

/-- 'bosketlaw02.BytesetClasses', WHERE WHAT IT READS IS OF BULK AT MOST 1048576: true; the input reads as it did. -/
def bytesetClassesUptoRow : OpenClaim := { program := "ytddkloagaiibaaa", sum := "438668efc14ddb679ec654acf31a3c1116d36e46a44abfd882e40446a4f1657e", func := "bosket/bosketlaw02.BytesetClasses", spec := "bytesetClasses", apart := false, narrowed := true }
def BytesetClassesUptoSaid : Prop := bytesetClassesUptoRow.holds Try.pinned (OpenSpec.upto bytesetClassesSpec)

end Rows
end Go.Proofs.Ytddkloagaiibaaa
