/-
  No cell of these rows narrows 'for every input' (looked for: loops, veiled, ifaces, maps, wideKeys, modest, calm, conditions, laid).
  DERIVED. THE GIVEN ROWS OF THIS SEAT. 5 by the template 'for every input the law returns true; each argument reads behind the call as it read before'; 0 by the template 'total and deterministic' (their statements: YtlnndkilaklifaaTotals.lean).
  GIVEN WITH THE SEED: the statements are not yours to turn. If you find one false, say at which input.
  Laid BY PROGRAM, IN A SANDBOX (cutbox-rows.mjs): the forced cells as the released guide's own fill.sh prints them over the translation d4071f1048bf2ca5… (all of the seat's roots in one cut). By AI agents, Wed Nov 11 2026. No macro, syntax, notation, axiom, sorry.
-/
import Derived.Test.YtlnndkilaklifaaChecked
import GoSem.Claim
import GoSem.ClaimJoined
import GoSem.ClaimMapViews
import Derived.JoinedTies
import Derived.KernelRfl
namespace Go.Proofs.Ytlnndkilaklifaa
/- THE CELL 'sum', in the pinned program and in every row, IS THE sha256 OF THE DUMP (.gsa) THAT YtlnndkilaklifaaProg.lean LOADS. Nothing in Lean hashes anything: it is a label: what it is worth is what the hold of that sum in a sandbox is worth. -/
noncomputable def Try.pinned : Pinned := { name := "ytlnndkilaklifaa", sum := "d4071f1048bf2ca50afbbb68f5def8d6712fa02cf27aae61b69e6fcacc1fead9", checked := Try.checked }
namespace Rows
def none {H : Type} : Left H := { results := [], args := [] }

/-- 'bosketlaw07.SubsetOf': WHATEVER THE INPUT: true; the input reads as it did. -/
def subsetOfSpec : ChangeSpec := { name := "subsetOf", fn := fun _ => fun
  | [d1, d2] => { results := [.lit (.bool true)], args := [d1, d2] }
  | _ => none }
def subsetOfRow : OpenClaim := { program := "ytlnndkilaklifaa", sum := "d4071f1048bf2ca50afbbb68f5def8d6712fa02cf27aae61b69e6fcacc1fead9", func := "bosket/bosketlaw07.SubsetOf", spec := "subsetOf", unfollowed := true, recurses := true, plainKeys := false, apart := false }
def SubsetOfSaid : Prop := subsetOfRow.holds Try.pinned (OpenSpec.ofChange subsetOfSpec)

/-- ITS FALSE NEIGHBOUR: 'it returns false'. Refute it at one input. -/
def subsetOfWrong : ChangeSpec := { name := "subsetOf", fn := fun _ => fun
  | [d1, d2] => { results := [.lit (.bool false)], args := [d1, d2] }
  | _ => none }
def SubsetOfWrongFalsely : Prop := subsetOfRow.holds Try.pinned (OpenSpec.ofChange subsetOfWrong)

/-- 'bosketlaw07.SubsetRuns': WHATEVER THE INPUT: true; the input reads as it did. -/
def subsetRunsSpec : ChangeSpec := { name := "subsetRuns", fn := fun _ => fun
  | [d1, d2, d3] => { results := [.lit (.bool true)], args := [d1, d2, d3] }
  | _ => none }
def subsetRunsRow : OpenClaim := { program := "ytlnndkilaklifaa", sum := "d4071f1048bf2ca50afbbb68f5def8d6712fa02cf27aae61b69e6fcacc1fead9", func := "bosket/bosketlaw07.SubsetRuns", spec := "subsetRuns", unfollowed := true, recurses := true, plainKeys := false, apart := false }
def SubsetRunsSaid : Prop := subsetRunsRow.holds Try.pinned (OpenSpec.ofChange subsetRunsSpec)

/-- ITS FALSE NEIGHBOUR: 'it returns false'. Refute it at one input. -/
def subsetRunsWrong : ChangeSpec := { name := "subsetRuns", fn := fun _ => fun
  | [d1, d2, d3] => { results := [.lit (.bool false)], args := [d1, d2, d3] }
  | _ => none }
def SubsetRunsWrongFalsely : Prop := subsetRunsRow.holds Try.pinned (OpenSpec.ofChange subsetRunsWrong)

/-- 'bosketlaw07.SubsetOne': WHATEVER THE INPUT: true; the input reads as it did. -/
def subsetOneSpec : ChangeSpec := { name := "subsetOne", fn := fun _ => fun
  | [d] => { results := [.lit (.bool true)], args := [d] }
  | _ => none }
def subsetOneRow : OpenClaim := { program := "ytlnndkilaklifaa", sum := "d4071f1048bf2ca50afbbb68f5def8d6712fa02cf27aae61b69e6fcacc1fead9", func := "bosket/bosketlaw07.SubsetOne", spec := "subsetOne", unfollowed := true, recurses := true, plainKeys := false, apart := false }
def SubsetOneSaid : Prop := subsetOneRow.holds Try.pinned (OpenSpec.ofChange subsetOneSpec)

/-- ITS FALSE NEIGHBOUR: 'it returns false'. Refute it at one input. -/
def subsetOneWrong : ChangeSpec := { name := "subsetOne", fn := fun _ => fun
  | [d] => { results := [.lit (.bool false)], args := [d] }
  | _ => none }
def SubsetOneWrongFalsely : Prop := subsetOneRow.holds Try.pinned (OpenSpec.ofChange subsetOneWrong)

/-- 'bosketlaw08.DfaReaches': WHATEVER THE INPUT: true; the input reads as it did. -/
def dfaReachesSpec : ChangeSpec := { name := "dfaReaches", fn := fun _ => fun
  | [d1, d2] => { results := [.lit (.bool true)], args := [d1, d2] }
  | _ => none }
def dfaReachesRow : OpenClaim := { program := "ytlnndkilaklifaa", sum := "d4071f1048bf2ca50afbbb68f5def8d6712fa02cf27aae61b69e6fcacc1fead9", func := "bosket/bosketlaw08.DfaReaches", spec := "dfaReaches", unfollowed := true, recurses := true, plainKeys := false, apart := false }
def DfaReachesSaid : Prop := dfaReachesRow.holds Try.pinned (OpenSpec.ofChange dfaReachesSpec)

/-- ITS FALSE NEIGHBOUR: 'it returns false'. Refute it at one input. -/
def dfaReachesWrong : ChangeSpec := { name := "dfaReaches", fn := fun _ => fun
  | [d1, d2] => { results := [.lit (.bool false)], args := [d1, d2] }
  | _ => none }
def DfaReachesWrongFalsely : Prop := dfaReachesRow.holds Try.pinned (OpenSpec.ofChange dfaReachesWrong)

/-- 'bosketlaw08.DfaKeeps': WHATEVER THE INPUT: true; the input reads as it did. -/
def dfaKeepsSpec : ChangeSpec := { name := "dfaKeeps", fn := fun _ => fun
  | [d1, d2, d3] => { results := [.lit (.bool true)], args := [d1, d2, d3] }
  | _ => none }
def dfaKeepsRow : OpenClaim := { program := "ytlnndkilaklifaa", sum := "d4071f1048bf2ca50afbbb68f5def8d6712fa02cf27aae61b69e6fcacc1fead9", func := "bosket/bosketlaw08.DfaKeeps", spec := "dfaKeeps", unfollowed := true, recurses := true, plainKeys := false, apart := false }
def DfaKeepsSaid : Prop := dfaKeepsRow.holds Try.pinned (OpenSpec.ofChange dfaKeepsSpec)

/-- ITS FALSE NEIGHBOUR: 'it returns false'. Refute it at one input. -/
def dfaKeepsWrong : ChangeSpec := { name := "dfaKeeps", fn := fun _ => fun
  | [d1, d2, d3] => { results := [.lit (.bool false)], args := [d1, d2, d3] }
  | _ => none }
def DfaKeepsWrongFalsely : Prop := dfaKeepsRow.holds Try.pinned (OpenSpec.ofChange dfaKeepsWrong)

/- THE SECOND FORM. 'bulk': how many values and letters a reading holds, each counted each time it is reached (what is shared counts as often as it is met; a slice's spare places count too). A statement '..UptoSaid' is the law's where the arguments, and the package variables that the reading takes, are together of bulk at most 1048576: NARROWER than '..Said'. Prove '..Said' where nothing that the law and all that it calls make is longer than what came in: it says more and counts as full. Else prove '..UptoSaid'. A law counts once. -/
mutual
def uptoBulk {H : Type} : DataW H → Nat
  | .lit (.string bytes) => bytes.length + 1
  | .lit _ => 1
  | .nil => 1
  | .ptr d => uptoBulk d + 1
  | .slice elems spare => uptoBulkAll elems + uptoBulkAll spare + 1
  | .agg parts => uptoBulkAll parts + 1
  | .iface _ d => uptoBulk d + 1
  | .map entries => uptoBulkEntries entries + 1
  | .held _ => 1
def uptoBulkAll {H : Type} : List (DataW H) → Nat
  | [] => 0
  | d :: r => uptoBulk d + uptoBulkAll r
def uptoBulkEntries {H : Type} : List (Lit × DataW H) → Nat
  | [] => 0
  | x :: r => uptoBulkEntry x + uptoBulkEntries r
def uptoBulkEntry {H : Type} : Lit × DataW H → Nat
  | (.string bytes, d) => bytes.length + uptoBulk d + 1
  | (_, d) => uptoBulk d + 1
 end
def uptoSmall : (H : Type) → List (DataW H) → Bool := fun _ ds => decide (uptoBulkAll ds ≤ 1048576)
def OpenSpec.upto (s : _root_.Go.ChangeSpec) : _root_.Go.OpenSpec := { _root_.Go.OpenSpec.ofChange s with cond := some uptoSmall }

/-- 'bosketlaw07.SubsetOf', WHERE WHAT IT READS IS OF BULK AT MOST 1048576: true; the input reads as it did. -/
def subsetOfUptoRow : OpenClaim := { program := "ytlnndkilaklifaa", sum := "d4071f1048bf2ca50afbbb68f5def8d6712fa02cf27aae61b69e6fcacc1fead9", func := "bosket/bosketlaw07.SubsetOf", spec := "subsetOf", unfollowed := true, recurses := true, plainKeys := false, apart := false, narrowed := true }
def SubsetOfUptoSaid : Prop := subsetOfUptoRow.holds Try.pinned (OpenSpec.upto subsetOfSpec)

/-- 'bosketlaw07.SubsetRuns', WHERE WHAT IT READS IS OF BULK AT MOST 1048576: true; the input reads as it did. -/
def subsetRunsUptoRow : OpenClaim := { program := "ytlnndkilaklifaa", sum := "d4071f1048bf2ca50afbbb68f5def8d6712fa02cf27aae61b69e6fcacc1fead9", func := "bosket/bosketlaw07.SubsetRuns", spec := "subsetRuns", unfollowed := true, recurses := true, plainKeys := false, apart := false, narrowed := true }
def SubsetRunsUptoSaid : Prop := subsetRunsUptoRow.holds Try.pinned (OpenSpec.upto subsetRunsSpec)

/-- 'bosketlaw07.SubsetOne', WHERE WHAT IT READS IS OF BULK AT MOST 1048576: true; the input reads as it did. -/
def subsetOneUptoRow : OpenClaim := { program := "ytlnndkilaklifaa", sum := "d4071f1048bf2ca50afbbb68f5def8d6712fa02cf27aae61b69e6fcacc1fead9", func := "bosket/bosketlaw07.SubsetOne", spec := "subsetOne", unfollowed := true, recurses := true, plainKeys := false, apart := false, narrowed := true }
def SubsetOneUptoSaid : Prop := subsetOneUptoRow.holds Try.pinned (OpenSpec.upto subsetOneSpec)

/-- 'bosketlaw08.DfaReaches', WHERE WHAT IT READS IS OF BULK AT MOST 1048576: true; the input reads as it did. -/
def dfaReachesUptoRow : OpenClaim := { program := "ytlnndkilaklifaa", sum := "d4071f1048bf2ca50afbbb68f5def8d6712fa02cf27aae61b69e6fcacc1fead9", func := "bosket/bosketlaw08.DfaReaches", spec := "dfaReaches", unfollowed := true, recurses := true, plainKeys := false, apart := false, narrowed := true }
def DfaReachesUptoSaid : Prop := dfaReachesUptoRow.holds Try.pinned (OpenSpec.upto dfaReachesSpec)

/-- 'bosketlaw08.DfaKeeps', WHERE WHAT IT READS IS OF BULK AT MOST 1048576: true; the input reads as it did. -/
def dfaKeepsUptoRow : OpenClaim := { program := "ytlnndkilaklifaa", sum := "d4071f1048bf2ca50afbbb68f5def8d6712fa02cf27aae61b69e6fcacc1fead9", func := "bosket/bosketlaw08.DfaKeeps", spec := "dfaKeeps", unfollowed := true, recurses := true, plainKeys := false, apart := false, narrowed := true }
def DfaKeepsUptoSaid : Prop := dfaKeepsUptoRow.holds Try.pinned (OpenSpec.upto dfaKeepsSpec)

end Rows
end Go.Proofs.Ytlnndkilaklifaa
