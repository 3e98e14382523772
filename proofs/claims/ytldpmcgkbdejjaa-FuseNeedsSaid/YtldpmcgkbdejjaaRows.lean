/-
  No cell of these rows narrows 'for every input' (looked for: loops, veiled, ifaces, maps, wideKeys, modest, calm, conditions, laid).
  DERIVED. THE GIVEN ROWS OF THIS SEAT. 2 by the template 'for every input the law returns true; each argument reads behind the call as it read before'; 0 by the template 'total and deterministic' (their statements: YtldpmcgkbdejjaaTotals.lean).
  GIVEN WITH THE SEED: the statements are not yours to turn. If you find one false, say at which input.
  Laid BY PROGRAM, IN A SANDBOX (cutbox-rows.mjs): the forced cells as the released guide's own fill.sh prints them over the translation 35f4f90b0f12f756… (all of the seat's roots in one cut). By AI agents, Wed Nov 11 2026. No macro, syntax, notation, axiom, sorry.
-/
import Derived.Test.YtldpmcgkbdejjaaChecked
import GoSem.Claim
import GoSem.ClaimJoined
import GoSem.ClaimMapViews
import Derived.JoinedTies
import Derived.KernelRfl
namespace Go.Proofs.Ytldpmcgkbdejjaa
/- THE CELL 'sum', in the pinned program and in every row, IS THE sha256 OF THE DUMP (.gsa) THAT YtldpmcgkbdejjaaProg.lean LOADS. Nothing in Lean hashes anything: it is a label: what it is worth is what the hold of that sum in a sandbox is worth. -/
noncomputable def Try.pinned : Pinned := { name := "ytldpmcgkbdejjaa", sum := "35f4f90b0f12f7568bfda3779f11bdd187b7c95102e85920e8bbbcc20602a2ba", checked := Try.checked }
namespace Rows
def none {H : Type} : Left H := { results := [], args := [] }

/-- 'bosketlaw15.FuseGaps': WHATEVER THE INPUT: true; the input reads as it did. -/
def fuseGapsSpec : ChangeSpec := { name := "fuseGaps", fn := fun _ => fun
  | [d1, d2, d3] => { results := [.lit (.bool true)], args := [d1, d2, d3] }
  | _ => none }
def fuseGapsRow : OpenClaim := { program := "ytldpmcgkbdejjaa", sum := "35f4f90b0f12f7568bfda3779f11bdd187b7c95102e85920e8bbbcc20602a2ba", func := "bosket/bosketlaw15.FuseGaps", spec := "fuseGaps", inPlace := ["internal/abi.NoEscape", "internal/bytealg.IndexByteString"], unfollowed := true, recurses := true, plainKeys := false, apart := false }
def FuseGapsSaid : Prop := fuseGapsRow.holds Try.pinned (OpenSpec.ofChange fuseGapsSpec)

/-- ITS FALSE NEIGHBOUR: 'it returns false'. Refute it at one input. -/
def fuseGapsWrong : ChangeSpec := { name := "fuseGaps", fn := fun _ => fun
  | [d1, d2, d3] => { results := [.lit (.bool false)], args := [d1, d2, d3] }
  | _ => none }
def FuseGapsWrongFalsely : Prop := fuseGapsRow.holds Try.pinned (OpenSpec.ofChange fuseGapsWrong)

/-- 'bosketlaw15.FuseNeeds': WHATEVER THE INPUT: true; the input reads as it did. -/
def fuseNeedsSpec : ChangeSpec := { name := "fuseNeeds", fn := fun _ => fun
  | [d1, d2, d3] => { results := [.lit (.bool true)], args := [d1, d2, d3] }
  | _ => none }
def fuseNeedsRow : OpenClaim := { program := "ytldpmcgkbdejjaa", sum := "35f4f90b0f12f7568bfda3779f11bdd187b7c95102e85920e8bbbcc20602a2ba", func := "bosket/bosketlaw15.FuseNeeds", spec := "fuseNeeds", inPlace := ["internal/abi.NoEscape", "internal/bytealg.IndexByteString"], unfollowed := true, recurses := true, plainKeys := false, apart := false }
def FuseNeedsSaid : Prop := fuseNeedsRow.holds Try.pinned (OpenSpec.ofChange fuseNeedsSpec)

/-- ITS FALSE NEIGHBOUR: 'it returns false'. Refute it at one input. -/
def fuseNeedsWrong : ChangeSpec := { name := "fuseNeeds", fn := fun _ => fun
  | [d1, d2, d3] => { results := [.lit (.bool false)], args := [d1, d2, d3] }
  | _ => none }
def FuseNeedsWrongFalsely : Prop := fuseNeedsRow.holds Try.pinned (OpenSpec.ofChange fuseNeedsWrong)

/- THE SECOND FORM. 'bulk': how many values and letters a reading holds, each counted each time it is reached (what is shared counts as often as it is met; a slice's spare places count too). A statement '..UptoSaid' is the law's where the arguments, and the package variables that the reading takes, are together of bulk at most 1048576: NARROWER than '..Said'. Prove '..Said' where nothing that the law and all that it calls make is longer than what came in: it says more and counts as full. Else prove '..UptoSaid'. A law counts once. -/
mutual
def uptoBulk {H : Type} : DataW H → Nat
  | .lit (.string bytes) => bytes.length + 1
  | .lit _ => 1
  | .nil => 1
  | .ptr d => uptoBulk d + 1
  | .slice elems spare => uptoBulkAll elems + uptoBulkAll spare + 1
  | .agg parts => uptoBulkAll parts + 1
  | .iface _ d => uptoBulk d + 1
  | .map entries => uptoBulkEntries entries + 1
  | .held _ => 1
def uptoBulkAll {H : Type} : List (DataW H) → Nat
  | [] => 0
  | d :: r => uptoBulk d + uptoBulkAll r
def uptoBulkEntries {H : Type} : List (Lit × DataW H) → Nat
  | [] => 0
  | x :: r => uptoBulkEntry x + uptoBulkEntries r
def uptoBulkEntry {H : Type} : Lit × DataW H → Nat
  | (.string bytes, d) => bytes.length + uptoBulk d + 1
  | (_, d) => uptoBulk d + 1
 end
def uptoSmall : (H : Type) → List (DataW H) → Bool := fun _ ds => decide (uptoBulkAll ds ≤ 1048576)
def OpenSpec.upto (s : _root_.Go.ChangeSpec) : _root_.Go.OpenSpec := { _root_.Go.OpenSpec.ofChange s with cond := some uptoSmall }

/-- 'bosketlaw15.FuseGaps', WHERE WHAT IT READS IS OF BULK AT MOST 1048576: true; the input reads as it did. -/
def fuseGapsUptoRow : OpenClaim := { program := "ytldpmcgkbdejjaa", sum := "35f4f90b0f12f7568bfda3779f11bdd187b7c95102e85920e8bbbcc20602a2ba", func := "bosket/bosketlaw15.FuseGaps", spec := "fuseGaps", inPlace := ["internal/abi.NoEscape", "internal/bytealg.IndexByteString"], unfollowed := true, recurses := true, plainKeys := false, apart := false, narrowed := true }
def FuseGapsUptoSaid : Prop := fuseGapsUptoRow.holds Try.pinned (OpenSpec.upto fuseGapsSpec)

/-- 'bosketlaw15.FuseNeeds', WHERE WHAT IT READS IS OF BULK AT MOST 1048576: true; the input reads as it did. -/
def fuseNeedsUptoRow : OpenClaim := { program := "ytldpmcgkbdejjaa", sum := "35f4f90b0f12f7568bfda3779f11bdd187b7c95102e85920e8bbbcc20602a2ba", func := "bosket/bosketlaw15.FuseNeeds", spec := "fuseNeeds", inPlace := ["internal/abi.NoEscape", "internal/bytealg.IndexByteString"], unfollowed := true, recurses := true, plainKeys := false, apart := false, narrowed := true }
def FuseNeedsUptoSaid : Prop := fuseNeedsUptoRow.holds Try.pinned (OpenSpec.upto fuseNeedsSpec)

end Rows
end Go.Proofs.Ytldpmcgkbdejjaa
