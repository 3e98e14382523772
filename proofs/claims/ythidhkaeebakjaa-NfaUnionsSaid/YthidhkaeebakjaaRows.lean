/-
  No cell of these rows narrows 'for every input' (looked for: loops, veiled, ifaces, maps, wideKeys, modest, calm, conditions, laid).
  DERIVED. THE GIVEN ROWS OF THIS SEAT. 5 by the template 'for every input the law returns true; each argument reads behind the call as it read before'; 0 by the template 'total and deterministic' (their statements: YthidhkaeebakjaaTotals.lean).
  GIVEN WITH THE SEED: the statements are not yours to turn. If you find one false, say at which input.
  Laid BY PROGRAM, IN A SANDBOX (cutbox-rows.mjs): the forced cells as the released guide's own fill.sh prints them over the translation b6d6f61b8e04f19c… (all of the seat's roots in one cut). By AI agents, Wed Nov 11 2026. No macro, syntax, notation, axiom, sorry.
-/
import Derived.Test.YthidhkaeebakjaaChecked
import GoSem.Claim
import GoSem.ClaimJoined
import GoSem.ClaimMapViews
import Derived.JoinedTies
import Derived.KernelRfl
namespace Go.Proofs.Ythidhkaeebakjaa
/- THE CELL 'sum', in the pinned program and in every row, IS THE sha256 OF THE DUMP (.gsa) THAT YthidhkaeebakjaaProg.lean LOADS. Nothing in Lean hashes anything: it is a label: what it is worth is what the hold of that sum in a sandbox is worth. -/
noncomputable def Try.pinned : Pinned := { name := "ythidhkaeebakjaa", sum := "b6d6f61b8e04f19ca3f6a1273ef9ff33954bb8ff301b8fc3360d9eeb70e05728", checked := Try.checked }
namespace Rows
def none {H : Type} : Left H := { results := [], args := [] }

/-- 'bosketlaw06.NfaSteps': WHATEVER THE INPUT: true; the input reads as it did. -/
def nfaStepsSpec : ChangeSpec := { name := "nfaSteps", fn := fun _ => fun
  | [d1, d2, d3] => { results := [.lit (.bool true)], args := [d1, d2, d3] }
  | _ => none }
def nfaStepsRow : OpenClaim := { program := "ythidhkaeebakjaa", sum := "b6d6f61b8e04f19ca3f6a1273ef9ff33954bb8ff301b8fc3360d9eeb70e05728", func := "bosket/bosketlaw06.NfaSteps", spec := "nfaSteps", unfollowed := true, recurses := true, plainKeys := false, apart := false }
def NfaStepsSaid : Prop := nfaStepsRow.holds Try.pinned (OpenSpec.ofChange nfaStepsSpec)

/-- ITS FALSE NEIGHBOUR: 'it returns false'. Refute it at one input. -/
def nfaStepsWrong : ChangeSpec := { name := "nfaSteps", fn := fun _ => fun
  | [d1, d2, d3] => { results := [.lit (.bool false)], args := [d1, d2, d3] }
  | _ => none }
def NfaStepsWrongFalsely : Prop := nfaStepsRow.holds Try.pinned (OpenSpec.ofChange nfaStepsWrong)

/-- 'bosketlaw06.NfaUnions': WHATEVER THE INPUT: true; the input reads as it did. -/
def nfaUnionsSpec : ChangeSpec := { name := "nfaUnions", fn := fun _ => fun
  | [d1, d2] => { results := [.lit (.bool true)], args := [d1, d2] }
  | _ => none }
def nfaUnionsRow : OpenClaim := { program := "ythidhkaeebakjaa", sum := "b6d6f61b8e04f19ca3f6a1273ef9ff33954bb8ff301b8fc3360d9eeb70e05728", func := "bosket/bosketlaw06.NfaUnions", spec := "nfaUnions", unfollowed := true, recurses := true, plainKeys := false, apart := false }
def NfaUnionsSaid : Prop := nfaUnionsRow.holds Try.pinned (OpenSpec.ofChange nfaUnionsSpec)

/-- ITS FALSE NEIGHBOUR: 'it returns false'. Refute it at one input. -/
def nfaUnionsWrong : ChangeSpec := { name := "nfaUnions", fn := fun _ => fun
  | [d1, d2] => { results := [.lit (.bool false)], args := [d1, d2] }
  | _ => none }
def NfaUnionsWrongFalsely : Prop := nfaUnionsRow.holds Try.pinned (OpenSpec.ofChange nfaUnionsWrong)

/-- 'bosketlaw07.SubsetOf': WHATEVER THE INPUT: true; the input reads as it did. -/
def subsetOfSpec : ChangeSpec := { name := "subsetOf", fn := fun _ => fun
  | [d1, d2] => { results := [.lit (.bool true)], args := [d1, d2] }
  | _ => none }
def subsetOfRow : OpenClaim := { program := "ythidhkaeebakjaa", sum := "b6d6f61b8e04f19ca3f6a1273ef9ff33954bb8ff301b8fc3360d9eeb70e05728", func := "bosket/bosketlaw07.SubsetOf", spec := "subsetOf", unfollowed := true, recurses := true, plainKeys := false, apart := false }
def SubsetOfSaid : Prop := subsetOfRow.holds Try.pinned (OpenSpec.ofChange subsetOfSpec)

/-- ITS FALSE NEIGHBOUR: 'it returns false'. Refute it at one input. -/
def subsetOfWrong : ChangeSpec := { name := "subsetOf", fn := fun _ => fun
  | [d1, d2] => { results := [.lit (.bool false)], args := [d1, d2] }
  | _ => none }
def SubsetOfWrongFalsely : Prop := subsetOfRow.holds Try.pinned (OpenSpec.ofChange subsetOfWrong)

/-- 'bosketlaw07.SubsetRuns': WHATEVER THE INPUT: true; the input reads as it did. -/
def subsetRunsSpec : ChangeSpec := { name := "subsetRuns", fn := fun _ => fun
  | [d1, d2, d3] => { results := [.lit (.bool true)], args := [d1, d2, d3] }
  | _ => none }
def subsetRunsRow : OpenClaim := { program := "ythidhkaeebakjaa", sum := "b6d6f61b8e04f19ca3f6a1273ef9ff33954bb8ff301b8fc3360d9eeb70e05728", func := "bosket/bosketlaw07.SubsetRuns", spec := "subsetRuns", unfollowed := true, recurses := true, plainKeys := false, apart := false }
def SubsetRunsSaid : Prop := subsetRunsRow.holds Try.pinned (OpenSpec.ofChange subsetRunsSpec)

/-- ITS FALSE NEIGHBOUR: 'it returns false'. Refute it at one input. -/
def subsetRunsWrong : ChangeSpec := { name := "subsetRuns", fn := fun _ => fun
  | [d1, d2, d3] => { results := [.lit (.bool false)], args := [d1, d2, d3] }
  | _ => none }
def SubsetRunsWrongFalsely : Prop := subsetRunsRow.holds Try.pinned (OpenSpec.ofChange subsetRunsWrong)

/-- 'bosketlaw07.SubsetOne': WHATEVER THE INPUT: true; the input reads as it did. -/
def subsetOneSpec : ChangeSpec := { name := "subsetOne", fn := fun _ => fun
  | [d] => { results := [.lit (.bool true)], args := [d] }
  | _ => none }
def subsetOneRow : OpenClaim := { program := "ythidhkaeebakjaa", sum := "b6d6f61b8e04f19ca3f6a1273ef9ff33954bb8ff301b8fc3360d9eeb70e05728", func := "bosket/bosketlaw07.SubsetOne", spec := "subsetOne", unfollowed := true, recurses := true, plainKeys := false, apart := false }
def SubsetOneSaid : Prop := subsetOneRow.holds Try.pinned (OpenSpec.ofChange subsetOneSpec)

/-- ITS FALSE NEIGHBOUR: 'it returns false'. Refute it at one input. -/
def subsetOneWrong : ChangeSpec := { name := "subsetOne", fn := fun _ => fun
  | [d] => { results := [.lit (.bool false)], args := [d] }
  | _ => none }
def SubsetOneWrongFalsely : Prop := subsetOneRow.holds Try.pinned (OpenSpec.ofChange subsetOneWrong)

/- THE SECOND FORM. 'bulk': how many values and letters a reading holds, each counted each time it is reached (what is shared counts as often as it is met; a slice's spare places count too). A statement '..UptoSaid' is the law's where the arguments, and the package variables that the reading takes, are together of bulk at most 1048576: NARROWER than '..Said'. Prove '..Said' where nothing that the law and all that it calls make is longer than what came in: it says more and counts as full. Else prove '..UptoSaid'. A law counts once. -/
mutual
def uptoBulk {H : Type} : DataW H → Nat
  | .lit (.string bytes) => bytes.length + 1
  | .lit _ => 1
  | .nil => 1
  | .ptr d => uptoBulk d + 1
  | .slice elems spare => uptoBulkAll elems + uptoBulkAll spare + 1
  | .agg parts => uptoBulkAll parts + 1
  | .iface _ d => uptoBulk d + 1
  | .map entries => uptoBulkEntries entries + 1
  | .held _ => 1
def uptoBulkAll {H : Type} : List (DataW H) → Nat
  | [] => 0
  | d :: r => uptoBulk d + uptoBulkAll r
def uptoBulkEntries {H : Type} : List (Lit × DataW H) → Nat
  | [] => 0
  | x :: r => uptoBulkEntry x + uptoBulkEntries r
def uptoBulkEntry {H : Type} : Lit × DataW H → Nat
  | (.string bytes, d) => bytes.length + uptoBulk d + 1
  | (_, d) => uptoBulk d + 1
 end
def uptoSmall : (H : Type) → List (DataW H) → Bool := fun _ ds => decide (uptoBulkAll ds ≤ 1048576)
def OpenSpec.upto (s : _root_.Go.ChangeSpec) : _root_.Go.OpenSpec := { _root_.Go.OpenSpec.ofChange s with cond := some uptoSmall }

/-- 'bosketlaw06.NfaSteps', WHERE WHAT IT READS IS OF BULK AT MOST 1048576: true; the input reads as it did. -/
def nfaStepsUptoRow : OpenClaim := { program := "ythidhkaeebakjaa", sum := "b6d6f61b8e04f19ca3f6a1273ef9ff33954bb8ff301b8fc3360d9eeb70e05728", func := "bosket/bosketlaw06.NfaSteps", spec := "nfaSteps", unfollowed := true, recurses := true, plainKeys := false, apart := false, narrowed := true }
def NfaStepsUptoSaid : Prop := nfaStepsUptoRow.holds Try.pinned (OpenSpec.upto nfaStepsSpec)

/-- 'bosketlaw06.NfaUnions', WHERE WHAT IT READS IS OF BULK AT MOST 1048576: true; the input reads as it did. -/
def nfaUnionsUptoRow : OpenClaim := { program := "ythidhkaeebakjaa", sum := "b6d6f61b8e04f19ca3f6a1273ef9ff33954bb8ff301b8fc3360d9eeb70e05728", func := "bosket/bosketlaw06.NfaUnions", spec := "nfaUnions", unfollowed := true, recurses := true, plainKeys := false, apart := false, narrowed := true }
def NfaUnionsUptoSaid : Prop := nfaUnionsUptoRow.holds Try.pinned (OpenSpec.upto nfaUnionsSpec)

/-- 'bosketlaw07.SubsetOf', WHERE WHAT IT READS IS OF BULK AT MOST 1048576: true; the input reads as it did. -/
def subsetOfUptoRow : OpenClaim := { program := "ythidhkaeebakjaa", sum := "b6d6f61b8e04f19ca3f6a1273ef9ff33954bb8ff301b8fc3360d9eeb70e05728", func := "bosket/bosketlaw07.SubsetOf", spec := "subsetOf", unfollowed := true, recurses := true, plainKeys := false, apart := false, narrowed := true }
def SubsetOfUptoSaid : Prop := subsetOfUptoRow.holds Try.pinned (OpenSpec.upto subsetOfSpec)

/-- 'bosketlaw07.SubsetRuns', WHERE WHAT IT READS IS OF BULK AT MOST 1048576: true; the input reads as it did. -/
def subsetRunsUptoRow : OpenClaim := { program := "ythidhkaeebakjaa", sum := "b6d6f61b8e04f19ca3f6a1273ef9ff33954bb8ff301b8fc3360d9eeb70e05728", func := "bosket/bosketlaw07.SubsetRuns", spec := "subsetRuns", unfollowed := true, recurses := true, plainKeys := false, apart := false, narrowed := true }
def SubsetRunsUptoSaid : Prop := subsetRunsUptoRow.holds Try.pinned (OpenSpec.upto subsetRunsSpec)

/-- 'bosketlaw07.SubsetOne', WHERE WHAT IT READS IS OF BULK AT MOST 1048576: true; the input reads as it did. -/
def subsetOneUptoRow : OpenClaim := { program := "ythidhkaeebakjaa", sum := "b6d6f61b8e04f19ca3f6a1273ef9ff33954bb8ff301b8fc3360d9eeb70e05728", func := "bosket/bosketlaw07.SubsetOne", spec := "subsetOne", unfollowed := true, recurses := true, plainKeys := false, apart := false, narrowed := true }
def SubsetOneUptoSaid : Prop := subsetOneUptoRow.holds Try.pinned (OpenSpec.upto subsetOneSpec)

end Rows
end Go.Proofs.Ythidhkaeebakjaa
