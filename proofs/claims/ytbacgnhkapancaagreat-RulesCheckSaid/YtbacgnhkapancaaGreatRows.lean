/-
  No cell of these rows narrows 'for every input' (looked for: loops, veiled, ifaces, maps, wideKeys, modest, calm, conditions, laid).
  DERIVED. THE GIVEN ROWS OF THIS SEAT. 4 by the template 'for every input the law returns true; each argument reads behind the call as it read before'; 0 by the template 'total and deterministic' (their statements: YtbacgnhkapancaaGreatTotals.lean).
  GIVEN WITH THE SEED: the statements are not yours to turn. If you find one false, say at which input.
  Laid BY PROGRAM, IN A SANDBOX (cutbox-rows.mjs): the forced cells as the released guide's own fill.sh prints them over the translation 18c679f3af3b239c… (all of the seat's roots in one cut). By AI agents, Wed Nov 11 2026. No macro, syntax, notation, axiom, sorry.
-/
import Derived.Test.YtbacgnhkapancaaGreatChecked
import GoSem.Claim
import GoSem.ClaimJoined
import GoSem.ClaimMapViews
import Derived.JoinedTies
import Derived.KernelRfl
namespace Go.Proofs.YtbacgnhkapancaaGreat
/- THE CELL 'sum', in the pinned program and in every row, IS THE sha256 OF THE DUMP (.gsa) THAT YtbacgnhkapancaaGreatProg.lean LOADS. Nothing in Lean hashes anything: it is a label: what it is worth is what the hold of that sum in a sandbox is worth. -/
noncomputable def Tryz.pinned : Pinned := { name := "ytbacgnhkapancaagreat", sum := "18c679f3af3b239ca9cb8f522d87820b05760d07568e2e3c67c37f01a71c269c", checked := Tryz.checked }
namespace Rows
def none {H : Type} : Left H := { results := [], args := [] }

/-- 'bosketlaw11.RulesCheck': WHATEVER THE INPUT: true; the input reads as it did. -/
def rulesCheckSpec : ChangeSpec := { name := "rulesCheck", fn := fun _ => fun
  | [d1, d2] => { results := [.lit (.bool true)], args := [d1, d2] }
  | _ => none }
def rulesCheckRow : OpenClaim := { program := "ytbacgnhkapancaagreat", sum := "18c679f3af3b239ca9cb8f522d87820b05760d07568e2e3c67c37f01a71c269c", func := "bosket/bosketlaw11.RulesCheck", spec := "rulesCheck", inPlace := ["internal/bytealg.IndexByteString"], unfollowed := true, recurses := true, plainKeys := false, apart := false }
def RulesCheckSaid : Prop := rulesCheckRow.holds Tryz.pinned (OpenSpec.ofChange rulesCheckSpec)

/-- ITS FALSE NEIGHBOUR: 'it returns false'. Refute it at one input. -/
def rulesCheckWrong : ChangeSpec := { name := "rulesCheck", fn := fun _ => fun
  | [d1, d2] => { results := [.lit (.bool false)], args := [d1, d2] }
  | _ => none }
def RulesCheckWrongFalsely : Prop := rulesCheckRow.holds Tryz.pinned (OpenSpec.ofChange rulesCheckWrong)

/-- 'bosketlaw11.RulesMachine': WHATEVER THE INPUT: true; the input reads as it did. -/
def rulesMachineSpec : ChangeSpec := { name := "rulesMachine", fn := fun _ => fun
  | [d1, d2] => { results := [.lit (.bool true)], args := [d1, d2] }
  | _ => none }
def rulesMachineRow : OpenClaim := { program := "ytbacgnhkapancaagreat", sum := "18c679f3af3b239ca9cb8f522d87820b05760d07568e2e3c67c37f01a71c269c", func := "bosket/bosketlaw11.RulesMachine", spec := "rulesMachine", inPlace := ["internal/bytealg.IndexByteString"], unfollowed := true, recurses := true, plainKeys := false, apart := false }
def RulesMachineSaid : Prop := rulesMachineRow.holds Tryz.pinned (OpenSpec.ofChange rulesMachineSpec)

/-- ITS FALSE NEIGHBOUR: 'it returns false'. Refute it at one input. -/
def rulesMachineWrong : ChangeSpec := { name := "rulesMachine", fn := fun _ => fun
  | [d1, d2] => { results := [.lit (.bool false)], args := [d1, d2] }
  | _ => none }
def RulesMachineWrongFalsely : Prop := rulesMachineRow.holds Tryz.pinned (OpenSpec.ofChange rulesMachineWrong)

/-- 'bosketlaw11.RulesOne': WHATEVER THE INPUT: true; the input reads as it did. -/
def rulesOneSpec : ChangeSpec := { name := "rulesOne", fn := fun _ => fun
  | [d1, d2] => { results := [.lit (.bool true)], args := [d1, d2] }
  | _ => none }
def rulesOneRow : OpenClaim := { program := "ytbacgnhkapancaagreat", sum := "18c679f3af3b239ca9cb8f522d87820b05760d07568e2e3c67c37f01a71c269c", func := "bosket/bosketlaw11.RulesOne", spec := "rulesOne", inPlace := ["internal/bytealg.IndexByteString"], unfollowed := true, recurses := true, plainKeys := false, apart := false }
def RulesOneSaid : Prop := rulesOneRow.holds Tryz.pinned (OpenSpec.ofChange rulesOneSpec)

/-- ITS FALSE NEIGHBOUR: 'it returns false'. Refute it at one input. -/
def rulesOneWrong : ChangeSpec := { name := "rulesOne", fn := fun _ => fun
  | [d1, d2] => { results := [.lit (.bool false)], args := [d1, d2] }
  | _ => none }
def RulesOneWrongFalsely : Prop := rulesOneRow.holds Tryz.pinned (OpenSpec.ofChange rulesOneWrong)

/-- 'bosketlaw11.RulesHidden': WHATEVER THE INPUT: true; the input reads as it did. -/
def rulesHiddenSpec : ChangeSpec := { name := "rulesHidden", fn := fun _ => fun
  | [d1, d2] => { results := [.lit (.bool true)], args := [d1, d2] }
  | _ => none }
def rulesHiddenRow : OpenClaim := { program := "ytbacgnhkapancaagreat", sum := "18c679f3af3b239ca9cb8f522d87820b05760d07568e2e3c67c37f01a71c269c", func := "bosket/bosketlaw11.RulesHidden", spec := "rulesHidden", inPlace := ["internal/bytealg.IndexByteString"], unfollowed := true, recurses := true, plainKeys := false, apart := false }
def RulesHiddenSaid : Prop := rulesHiddenRow.holds Tryz.pinned (OpenSpec.ofChange rulesHiddenSpec)

/-- ITS FALSE NEIGHBOUR: 'it returns false'. Refute it at one input. -/
def rulesHiddenWrong : ChangeSpec := { name := "rulesHidden", fn := fun _ => fun
  | [d1, d2] => { results := [.lit (.bool false)], args := [d1, d2] }
  | _ => none }
def RulesHiddenWrongFalsely : Prop := rulesHiddenRow.holds Tryz.pinned (OpenSpec.ofChange rulesHiddenWrong)

/- THE SECOND FORM. 'bulk': how many values and letters a reading holds, each counted each time it is reached (what is shared counts as often as it is met; a slice's spare places count too). A statement '..UptoSaid' is the law's where the arguments, and the package variables that the reading takes, are together of bulk at most 1048576: NARROWER than '..Said'. Prove '..Said' where nothing that the law and all that it calls make is longer than what came in: it says more and counts as full. Else prove '..UptoSaid'. A law counts once. -/
mutual
def uptoBulk {H : Type} : DataW H → Nat
  | .lit (.string bytes) => bytes.length + 1
  | .lit _ => 1
  | .nil => 1
  | .ptr d => uptoBulk d + 1
  | .slice elems spare => uptoBulkAll elems + uptoBulkAll spare + 1
  | .agg parts => uptoBulkAll parts + 1
  | .iface _ d => uptoBulk d + 1
  | .map entries => uptoBulkEntries entries + 1
  | .held _ => 1
def uptoBulkAll {H : Type} : List (DataW H) → Nat
  | [] => 0
  | d :: r => uptoBulk d + uptoBulkAll r
def uptoBulkEntries {H : Type} : List (Lit × DataW H) → Nat
  | [] => 0
  | x :: r => uptoBulkEntry x + uptoBulkEntries r
def uptoBulkEntry {H : Type} : Lit × DataW H → Nat
  | (.string bytes, d) => bytes.length + uptoBulk d + 1
  | (_, d) => uptoBulk d + 1
 end
def uptoSmall : (H : Type) → List (DataW H) → Bool := fun _ ds => decide (uptoBulkAll ds ≤ 1048576)
def OpenSpec.upto (s : _root_.Go.ChangeSpec) : _root_.Go.OpenSpec := { _root_.Go.OpenSpec.ofChange s with cond := some uptoSmall }

/-- 'bosketlaw11.RulesCheck', WHERE WHAT IT READS IS OF BULK AT MOST 1048576: true; the input reads as it did. -/
def rulesCheckUptoRow : OpenClaim := { program := "ytbacgnhkapancaagreat", sum := "18c679f3af3b239ca9cb8f522d87820b05760d07568e2e3c67c37f01a71c269c", func := "bosket/bosketlaw11.RulesCheck", spec := "rulesCheck", inPlace := ["internal/bytealg.IndexByteString"], unfollowed := true, recurses := true, plainKeys := false, apart := false, narrowed := true }
def RulesCheckUptoSaid : Prop := rulesCheckUptoRow.holds Tryz.pinned (OpenSpec.upto rulesCheckSpec)

/-- 'bosketlaw11.RulesMachine', WHERE WHAT IT READS IS OF BULK AT MOST 1048576: true; the input reads as it did. -/
def rulesMachineUptoRow : OpenClaim := { program := "ytbacgnhkapancaagreat", sum := "18c679f3af3b239ca9cb8f522d87820b05760d07568e2e3c67c37f01a71c269c", func := "bosket/bosketlaw11.RulesMachine", spec := "rulesMachine", inPlace := ["internal/bytealg.IndexByteString"], unfollowed := true, recurses := true, plainKeys := false, apart := false, narrowed := true }
def RulesMachineUptoSaid : Prop := rulesMachineUptoRow.holds Tryz.pinned (OpenSpec.upto rulesMachineSpec)

/-- 'bosketlaw11.RulesOne', WHERE WHAT IT READS IS OF BULK AT MOST 1048576: true; the input reads as it did. -/
def rulesOneUptoRow : OpenClaim := { program := "ytbacgnhkapancaagreat", sum := "18c679f3af3b239ca9cb8f522d87820b05760d07568e2e3c67c37f01a71c269c", func := "bosket/bosketlaw11.RulesOne", spec := "rulesOne", inPlace := ["internal/bytealg.IndexByteString"], unfollowed := true, recurses := true, plainKeys := false, apart := false, narrowed := true }
def RulesOneUptoSaid : Prop := rulesOneUptoRow.holds Tryz.pinned (OpenSpec.upto rulesOneSpec)

/-- 'bosketlaw11.RulesHidden', WHERE WHAT IT READS IS OF BULK AT MOST 1048576: true; the input reads as it did. -/
def rulesHiddenUptoRow : OpenClaim := { program := "ytbacgnhkapancaagreat", sum := "18c679f3af3b239ca9cb8f522d87820b05760d07568e2e3c67c37f01a71c269c", func := "bosket/bosketlaw11.RulesHidden", spec := "rulesHidden", inPlace := ["internal/bytealg.IndexByteString"], unfollowed := true, recurses := true, plainKeys := false, apart := false, narrowed := true }
def RulesHiddenUptoSaid : Prop := rulesHiddenUptoRow.holds Tryz.pinned (OpenSpec.upto rulesHiddenSpec)

end Rows
end Go.Proofs.YtbacgnhkapancaaGreat
