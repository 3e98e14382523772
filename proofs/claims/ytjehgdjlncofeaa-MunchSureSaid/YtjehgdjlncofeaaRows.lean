/-
  No cell of these rows narrows 'for every input' (looked for: loops, veiled, ifaces, maps, wideKeys, modest, calm, conditions, laid).
  DERIVED. THE GIVEN ROWS OF THIS SEAT. 4 by the template 'for every input the law returns true; each argument reads behind the call as it read before'; 0 by the template 'total and deterministic' (their statements: YtjehgdjlncofeaaTotals.lean).
  GIVEN WITH THE SEED: the statements are not yours to turn. If you find one false, say at which input.
  Laid BY PROGRAM, IN A SANDBOX (cutbox-rows.mjs): the forced cells as the released guide's own fill.sh prints them over the translation 23626d2c37e1fdcf… (all of the seat's roots in one cut). By AI agents, Wed Nov 11 2026. No macro, syntax, notation, axiom, sorry.
-/
import Derived.Test.YtjehgdjlncofeaaChecked
import GoSem.Claim
import GoSem.ClaimJoined
import GoSem.ClaimMapViews
import Derived.JoinedTies
import Derived.KernelRfl
namespace Go.Proofs.Ytjehgdjlncofeaa
/- THE CELL 'sum', in the pinned program and in every row, IS THE sha256 OF THE DUMP (.gsa) THAT YtjehgdjlncofeaaProg.lean LOADS. Nothing in Lean hashes anything: it is a label: what it is worth is what the hold of that sum in a sandbox is worth. -/
noncomputable def Try.pinned : Pinned := { name := "ytjehgdjlncofeaa", sum := "23626d2c37e1fdcf4ddea49057bc534f21aa630d15283e86d094a622b79fcfd3", checked := Try.checked }
namespace Rows
def none {H : Type} : Left H := { results := [], args := [] }

/-- 'bosketlaw12.MunchAll': WHATEVER THE INPUT: true; the input reads as it did. -/
def munchAllSpec : ChangeSpec := { name := "munchAll", fn := fun _ => fun
  | [d1, d2] => { results := [.lit (.bool true)], args := [d1, d2] }
  | _ => none }
def munchAllRow : OpenClaim := { program := "ytjehgdjlncofeaa", sum := "23626d2c37e1fdcf4ddea49057bc534f21aa630d15283e86d094a622b79fcfd3", func := "bosket/bosketlaw12.MunchAll", spec := "munchAll", inPlace := ["internal/abi.NoEscape"], unfollowed := true, recurses := true, plainKeys := false, apart := false }
def MunchAllSaid : Prop := munchAllRow.holds Try.pinned (OpenSpec.ofChange munchAllSpec)

/-- ITS FALSE NEIGHBOUR: 'it returns false'. Refute it at one input. -/
def munchAllWrong : ChangeSpec := { name := "munchAll", fn := fun _ => fun
  | [d1, d2] => { results := [.lit (.bool false)], args := [d1, d2] }
  | _ => none }
def MunchAllWrongFalsely : Prop := munchAllRow.holds Try.pinned (OpenSpec.ofChange munchAllWrong)

/-- 'bosketlaw12.MunchLongest': WHATEVER THE INPUT: true; the input reads as it did. -/
def munchLongestSpec : ChangeSpec := { name := "munchLongest", fn := fun _ => fun
  | [d1, d2, d3] => { results := [.lit (.bool true)], args := [d1, d2, d3] }
  | _ => none }
def munchLongestRow : OpenClaim := { program := "ytjehgdjlncofeaa", sum := "23626d2c37e1fdcf4ddea49057bc534f21aa630d15283e86d094a622b79fcfd3", func := "bosket/bosketlaw12.MunchLongest", spec := "munchLongest", plainKeys := false, apart := false }
def MunchLongestSaid : Prop := munchLongestRow.holds Try.pinned (OpenSpec.ofChange munchLongestSpec)

/-- ITS FALSE NEIGHBOUR: 'it returns false'. Refute it at one input. -/
def munchLongestWrong : ChangeSpec := { name := "munchLongest", fn := fun _ => fun
  | [d1, d2, d3] => { results := [.lit (.bool false)], args := [d1, d2, d3] }
  | _ => none }
def MunchLongestWrongFalsely : Prop := munchLongestRow.holds Try.pinned (OpenSpec.ofChange munchLongestWrong)

/-- 'bosketlaw12.MunchSure': WHATEVER THE INPUT: true; the input reads as it did. -/
def munchSureSpec : ChangeSpec := { name := "munchSure", fn := fun _ => fun
  | [d1, d2, d3] => { results := [.lit (.bool true)], args := [d1, d2, d3] }
  | _ => none }
def munchSureRow : OpenClaim := { program := "ytjehgdjlncofeaa", sum := "23626d2c37e1fdcf4ddea49057bc534f21aa630d15283e86d094a622b79fcfd3", func := "bosket/bosketlaw12.MunchSure", spec := "munchSure", plainKeys := false, apart := false }
def MunchSureSaid : Prop := munchSureRow.holds Try.pinned (OpenSpec.ofChange munchSureSpec)

/-- ITS FALSE NEIGHBOUR: 'it returns false'. Refute it at one input. -/
def munchSureWrong : ChangeSpec := { name := "munchSure", fn := fun _ => fun
  | [d1, d2, d3] => { results := [.lit (.bool false)], args := [d1, d2, d3] }
  | _ => none }
def MunchSureWrongFalsely : Prop := munchSureRow.holds Try.pinned (OpenSpec.ofChange munchSureWrong)

/-- 'bosketlaw12.MunchSame': WHATEVER THE INPUT: true; the input reads as it did. -/
def munchSameSpec : ChangeSpec := { name := "munchSame", fn := fun _ => fun
  | [d1, d2] => { results := [.lit (.bool true)], args := [d1, d2] }
  | _ => none }
def munchSameRow : OpenClaim := { program := "ytjehgdjlncofeaa", sum := "23626d2c37e1fdcf4ddea49057bc534f21aa630d15283e86d094a622b79fcfd3", func := "bosket/bosketlaw12.MunchSame", spec := "munchSame", inPlace := ["internal/abi.NoEscape"], unfollowed := true, recurses := true, plainKeys := false, apart := false }
def MunchSameSaid : Prop := munchSameRow.holds Try.pinned (OpenSpec.ofChange munchSameSpec)

/-- ITS FALSE NEIGHBOUR: 'it returns false'. Refute it at one input. -/
def munchSameWrong : ChangeSpec := { name := "munchSame", fn := fun _ => fun
  | [d1, d2] => { results := [.lit (.bool false)], args := [d1, d2] }
  | _ => none }
def MunchSameWrongFalsely : Prop := munchSameRow.holds Try.pinned (OpenSpec.ofChange munchSameWrong)

/- THE SECOND FORM. 'bulk': how many values and letters a reading holds, each counted each time it is reached (what is shared counts as often as it is met; a slice's spare places count too). A statement '..UptoSaid' is the law's where the arguments, and the package variables that the reading takes, are together of bulk at most 1048576: NARROWER than '..Said'. Prove '..Said' where nothing that the law and all that it calls make is longer than what came in: it says more and counts as full. Else prove '..UptoSaid'. A law counts once. -/
mutual
def uptoBulk {H : Type} : DataW H → Nat
  | .lit (.string bytes) => bytes.length + 1
  | .lit _ => 1
  | .nil => 1
  | .ptr d => uptoBulk d + 1
  | .slice elems spare => uptoBulkAll elems + uptoBulkAll spare + 1
  | .agg parts => uptoBulkAll parts + 1
  | .iface _ d => uptoBulk d + 1
  | .map entries => uptoBulkEntries entries + 1
  | .held _ => 1
def uptoBulkAll {H : Type} : List (DataW H) → Nat
  | [] => 0
  | d :: r => uptoBulk d + uptoBulkAll r
def uptoBulkEntries {H : Type} : List (Lit × DataW H) → Nat
  | [] => 0
  | x :: r => uptoBulkEntry x + uptoBulkEntries r
def uptoBulkEntry {H : Type} : Lit × DataW H → Nat
  | (.string bytes, d) => bytes.length + uptoBulk d + 1
  | (_, d) => uptoBulk d + 1
 end
def uptoSmall : (H : Type) → List (DataW H) → Bool := fun _ ds => decide (uptoBulkAll ds ≤ 1048576)
def OpenSpec.upto (s : _root_.Go.ChangeSpec) : _root_.Go.OpenSpec := { _root_.Go.OpenSpec.ofChange s with cond := some uptoSmall }

/-- 'bosketlaw12.MunchAll', WHERE WHAT IT READS IS OF BULK AT MOST 1048576: true; the input reads as it did. -/
def munchAllUptoRow : OpenClaim := { program := "ytjehgdjlncofeaa", sum := "23626d2c37e1fdcf4ddea49057bc534f21aa630d15283e86d094a622b79fcfd3", func := "bosket/bosketlaw12.MunchAll", spec := "munchAll", inPlace := ["internal/abi.NoEscape"], unfollowed := true, recurses := true, plainKeys := false, apart := false, narrowed := true }
def MunchAllUptoSaid : Prop := munchAllUptoRow.holds Try.pinned (OpenSpec.upto munchAllSpec)

/-- 'bosketlaw12.MunchLongest', WHERE WHAT IT READS IS OF BULK AT MOST 1048576: true; the input reads as it did. -/
def munchLongestUptoRow : OpenClaim := { program := "ytjehgdjlncofeaa", sum := "23626d2c37e1fdcf4ddea49057bc534f21aa630d15283e86d094a622b79fcfd3", func := "bosket/bosketlaw12.MunchLongest", spec := "munchLongest", plainKeys := false, apart := false, narrowed := true }
def MunchLongestUptoSaid : Prop := munchLongestUptoRow.holds Try.pinned (OpenSpec.upto munchLongestSpec)

/-- 'bosketlaw12.MunchSure', WHERE WHAT IT READS IS OF BULK AT MOST 1048576: true; the input reads as it did. -/
def munchSureUptoRow : OpenClaim := { program := "ytjehgdjlncofeaa", sum := "23626d2c37e1fdcf4ddea49057bc534f21aa630d15283e86d094a622b79fcfd3", func := "bosket/bosketlaw12.MunchSure", spec := "munchSure", plainKeys := false, apart := false, narrowed := true }
def MunchSureUptoSaid : Prop := munchSureUptoRow.holds Try.pinned (OpenSpec.upto munchSureSpec)

/-- 'bosketlaw12.MunchSame', WHERE WHAT IT READS IS OF BULK AT MOST 1048576: true; the input reads as it did. -/
def munchSameUptoRow : OpenClaim := { program := "ytjehgdjlncofeaa", sum := "23626d2c37e1fdcf4ddea49057bc534f21aa630d15283e86d094a622b79fcfd3", func := "bosket/bosketlaw12.MunchSame", spec := "munchSame", inPlace := ["internal/abi.NoEscape"], unfollowed := true, recurses := true, plainKeys := false, apart := false, narrowed := true }
def MunchSameUptoSaid : Prop := munchSameUptoRow.holds Try.pinned (OpenSpec.upto munchSameSpec)

end Rows
end Go.Proofs.Ytjehgdjlncofeaa
