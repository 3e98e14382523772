/-
  No cell of these rows narrows 'for every input' (looked for: loops, veiled, ifaces, maps, wideKeys, modest, calm, conditions, laid).
  DERIVED. THE GIVEN ROWS OF THIS SEAT. 3 by the template 'for every input the law returns true; each argument reads behind the call as it read before'; 0 by the template 'total and deterministic' (their statements: YtghhjonhmelohaaTotals.lean).
  GIVEN WITH THE SEED: the statements are not yours to turn. If you find one false, say at which input.
  Laid BY PROGRAM, IN A SANDBOX (cutbox-rows.mjs): the forced cells as the released guide's own fill.sh prints them over the translation d7435a7194a6e7e6… (all of the seat's roots in one cut). By AI agents, Wed Nov 11 2026. No macro, syntax, notation, axiom, sorry.
-/
import Derived.Test.YtghhjonhmelohaaChecked
import GoSem.Claim
import GoSem.ClaimJoined
import GoSem.ClaimMapViews
import Derived.JoinedTies
import Derived.KernelRfl
namespace Go.Proofs.Ytghhjonhmelohaa
/- THE CELL 'sum', in the pinned program and in every row, IS THE sha256 OF THE DUMP (.gsa) THAT YtghhjonhmelohaaProg.lean LOADS. Nothing in Lean hashes anything: it is a label: what it is worth is what the hold of that sum in a sandbox is worth. -/
noncomputable def Try.pinned : Pinned := { name := "ytghhjonhmelohaa", sum := "d7435a7194a6e7e61b69adaaf8e182c3589f3ed30103d668ce2e35e2d7c1dfad", checked := Try.checked }
namespace Rows
def none {H : Type} : Left H := { results := [], args := [] }

/-- 'bosketlaw14.LanesOf': WHATEVER THE INPUT: true; the input reads as it did. -/
def lanesOfSpec : ChangeSpec := { name := "lanesOf", fn := fun _ => fun
  | [d1, d2, d3] => { results := [.lit (.bool true)], args := [d1, d2, d3] }
  | _ => none }
def lanesOfRow : OpenClaim := { program := "ytghhjonhmelohaa", sum := "d7435a7194a6e7e61b69adaaf8e182c3589f3ed30103d668ce2e35e2d7c1dfad", func := "bosket/bosketlaw14.LanesOf", spec := "lanesOf", inPlace := ["internal/bytealg.IndexByteString", "internal/bytealg.IndexString"], unfollowed := true, recurses := true, named := ["internal/bytealg.MaxLen"], apart := false }
def LanesOfSaid : Prop := lanesOfRow.holds Try.pinned (OpenSpec.ofChange lanesOfSpec)

/-- ITS FALSE NEIGHBOUR: 'it returns false'. Refute it at one input. -/
def lanesOfWrong : ChangeSpec := { name := "lanesOf", fn := fun _ => fun
  | [d1, d2, d3] => { results := [.lit (.bool false)], args := [d1, d2, d3] }
  | _ => none }
def LanesOfWrongFalsely : Prop := lanesOfRow.holds Try.pinned (OpenSpec.ofChange lanesOfWrong)

/-- 'bosketlaw14.LanesNotes': WHATEVER THE INPUT: true; the input reads as it did. -/
def lanesNotesSpec : ChangeSpec := { name := "lanesNotes", fn := fun _ => fun
  | [d1, d2] => { results := [.lit (.bool true)], args := [d1, d2] }
  | _ => none }
def lanesNotesRow : OpenClaim := { program := "ytghhjonhmelohaa", sum := "d7435a7194a6e7e61b69adaaf8e182c3589f3ed30103d668ce2e35e2d7c1dfad", func := "bosket/bosketlaw14.LanesNotes", spec := "lanesNotes", inPlace := ["internal/bytealg.IndexByteString", "internal/bytealg.IndexString"], unfollowed := true, recurses := true, named := ["internal/bytealg.MaxLen"], apart := false }
def LanesNotesSaid : Prop := lanesNotesRow.holds Try.pinned (OpenSpec.ofChange lanesNotesSpec)

/-- ITS FALSE NEIGHBOUR: 'it returns false'. Refute it at one input. -/
def lanesNotesWrong : ChangeSpec := { name := "lanesNotes", fn := fun _ => fun
  | [d1, d2] => { results := [.lit (.bool false)], args := [d1, d2] }
  | _ => none }
def LanesNotesWrongFalsely : Prop := lanesNotesRow.holds Try.pinned (OpenSpec.ofChange lanesNotesWrong)

/-- 'bosketlaw14.LanesMerge': WHATEVER THE INPUT: true; the input reads as it did. -/
def lanesMergeSpec : ChangeSpec := { name := "lanesMerge", fn := fun _ => fun
  | [d1, d2, d3] => { results := [.lit (.bool true)], args := [d1, d2, d3] }
  | _ => none }
def lanesMergeRow : OpenClaim := { program := "ytghhjonhmelohaa", sum := "d7435a7194a6e7e61b69adaaf8e182c3589f3ed30103d668ce2e35e2d7c1dfad", func := "bosket/bosketlaw14.LanesMerge", spec := "lanesMerge", inPlace := ["internal/bytealg.IndexByteString", "internal/bytealg.IndexString"], unfollowed := true, recurses := true, named := ["internal/bytealg.MaxLen"], apart := false }
def LanesMergeSaid : Prop := lanesMergeRow.holds Try.pinned (OpenSpec.ofChange lanesMergeSpec)

/-- ITS FALSE NEIGHBOUR: 'it returns false'. Refute it at one input. -/
def lanesMergeWrong : ChangeSpec := { name := "lanesMerge", fn := fun _ => fun
  | [d1, d2, d3] => { results := [.lit (.bool false)], args := [d1, d2, d3] }
  | _ => none }
def LanesMergeWrongFalsely : Prop := lanesMergeRow.holds Try.pinned (OpenSpec.ofChange lanesMergeWrong)

/- THE SECOND FORM. 'bulk': how many values and letters a reading holds, each counted each time it is reached (what is shared counts as often as it is met; a slice's spare places count too). A statement '..UptoSaid' is the law's where the arguments, and the package variables that the reading takes, are together of bulk at most 1048576: NARROWER than '..Said'. Prove '..Said' where nothing that the law and all that it calls make is longer than what came in: it says more and counts as full. Else prove '..UptoSaid'. A law counts once. -/
mutual
def uptoBulk {H : Type} : DataW H → Nat
  | .lit (.string bytes) => bytes.length + 1
  | .lit _ => 1
  | .nil => 1
  | .ptr d => uptoBulk d + 1
  | .slice elems spare => uptoBulkAll elems + uptoBulkAll spare + 1
  | .agg parts => uptoBulkAll parts + 1
  | .iface _ d => uptoBulk d + 1
  | .map entries => uptoBulkEntries entries + 1
  | .held _ => 1
def uptoBulkAll {H : Type} : List (DataW H) → Nat
  | [] => 0
  | d :: r => uptoBulk d + uptoBulkAll r
def uptoBulkEntries {H : Type} : List (Lit × DataW H) → Nat
  | [] => 0
  | x :: r => uptoBulkEntry x + uptoBulkEntries r
def uptoBulkEntry {H : Type} : Lit × DataW H → Nat
  | (.string bytes, d) => bytes.length + uptoBulk d + 1
  | (_, d) => uptoBulk d + 1
 end
def uptoSmall : (H : Type) → List (DataW H) → Bool := fun _ ds => decide (uptoBulkAll ds ≤ 1048576)
def OpenSpec.upto (s : _root_.Go.ChangeSpec) : _root_.Go.OpenSpec := { _root_.Go.OpenSpec.ofChange s with cond := some uptoSmall }

/-- 'bosketlaw14.LanesOf', WHERE WHAT IT READS IS OF BULK AT MOST 1048576: true; the input reads as it did. -/
def lanesOfUptoRow : OpenClaim := { program := "ytghhjonhmelohaa", sum := "d7435a7194a6e7e61b69adaaf8e182c3589f3ed30103d668ce2e35e2d7c1dfad", func := "bosket/bosketlaw14.LanesOf", spec := "lanesOf", inPlace := ["internal/bytealg.IndexByteString", "internal/bytealg.IndexString"], unfollowed := true, recurses := true, named := ["internal/bytealg.MaxLen"], apart := false, narrowed := true }
def LanesOfUptoSaid : Prop := lanesOfUptoRow.holds Try.pinned (OpenSpec.upto lanesOfSpec)

/-- 'bosketlaw14.LanesNotes', WHERE WHAT IT READS IS OF BULK AT MOST 1048576: true; the input reads as it did. -/
def lanesNotesUptoRow : OpenClaim := { program := "ytghhjonhmelohaa", sum := "d7435a7194a6e7e61b69adaaf8e182c3589f3ed30103d668ce2e35e2d7c1dfad", func := "bosket/bosketlaw14.LanesNotes", spec := "lanesNotes", inPlace := ["internal/bytealg.IndexByteString", "internal/bytealg.IndexString"], unfollowed := true, recurses := true, named := ["internal/bytealg.MaxLen"], apart := false, narrowed := true }
def LanesNotesUptoSaid : Prop := lanesNotesUptoRow.holds Try.pinned (OpenSpec.upto lanesNotesSpec)

/-- 'bosketlaw14.LanesMerge', WHERE WHAT IT READS IS OF BULK AT MOST 1048576: true; the input reads as it did. -/
def lanesMergeUptoRow : OpenClaim := { program := "ytghhjonhmelohaa", sum := "d7435a7194a6e7e61b69adaaf8e182c3589f3ed30103d668ce2e35e2d7c1dfad", func := "bosket/bosketlaw14.LanesMerge", spec := "lanesMerge", inPlace := ["internal/bytealg.IndexByteString", "internal/bytealg.IndexString"], unfollowed := true, recurses := true, named := ["internal/bytealg.MaxLen"], apart := false, narrowed := true }
def LanesMergeUptoSaid : Prop := lanesMergeUptoRow.holds Try.pinned (OpenSpec.upto lanesMergeSpec)

end Rows
end Go.Proofs.Ytghhjonhmelohaa
