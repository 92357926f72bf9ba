/-
  NARROWER THAN 'FOR EVERY INPUT', by the rows' own cells (each row's printed sentence says how): Names: laid.
  DERIVED. THE GIVEN ROWS OF THIS SEAT. 1 by the template 'for every input the law returns true; each argument reads behind the call as it read before'; 0 by the template 'total and deterministic' (their statements: YtibofakbhgmhiaaDoorTotals.lean).
  GIVEN WITH THE SEED: the statements are not yours to turn. If you find one false, say at which input.
  Laid BY PROGRAM, IN A SANDBOX (cutbox-rows.mjs): the forced cells as the released guide's own fill.sh prints them over the translation c03a713519d77c85… (all of the seat's roots in one cut). By AI agents, Wed Nov 11 2026. No macro, syntax, notation, axiom, sorry.
-/
import Derived.Test.YtibofakbhgmhiaaDoorChecked
import GoSem.Claim
import GoSem.ClaimJoined
import GoSem.ClaimMapViews
import Derived.JoinedTies
import Derived.KernelRfl
namespace Go.Proofs.YtibofakbhgmhiaaDoor
/- THE CELL 'sum', in the pinned program and in every row, IS THE sha256 OF THE DUMP (.gsa) THAT YtibofakbhgmhiaaDoorProg.lean LOADS. Nothing in Lean hashes anything: it is a label: what it is worth is what the hold of that sum in a sandbox is worth. -/
noncomputable def Tryd.pinned : Pinned := { name := "ytibofakbhgmhiaadoor", sum := "c03a713519d77c858d2900f165ae159b87fc43cc9ed2d3a87d7cd2f5a89e4628", checked := Tryd.checked }
namespace Rows
def none {H : Type} : Left H := { results := [], args := [] }

/- WHAT THE LISTED PACKAGE-LEVEL VARIABLES READ AS WHEN THE CALL BEGINS. Each datum BY PROGRAM (the guide's laid-datum.mjs) off the statement by which the dump's own 'gosem.cut.vars' lays the variable. In a bare row this is a premise. The card (YtibofakbhgmhiaaDoorCards.lean) ties it to the program's text. -/
def laid_errors_errorType {H : Type} : DataW H := .iface "internal/reflectlite.rtype" (.agg [.ptr (.lit (.string [101, 114, 114, 111, 114]))])
def laid_mapreduce_mapreduce_ErrArg {H : Type} : DataW H := .iface "*errors.errorString" (.ptr (.agg [.lit (.string [97, 110, 32, 97, 114, 103, 117, 109, 101, 110, 116, 32, 116, 104, 97, 116, 32, 109, 97, 121, 32, 110, 111, 116, 32, 98, 101])]))
def laid_mapreduce_mapreduce_ErrShort {H : Type} : DataW H := .iface "*errors.errorString" (.ptr (.agg [.lit (.string [97, 32, 114, 101, 99, 111, 114, 100, 32, 116, 104, 97, 116, 32, 101, 110, 100, 115, 32, 116, 111, 111, 32, 101, 97, 114, 108, 121])]))
def laid_mapreduce_mapreduce_ErrSum {H : Type} : DataW H := .iface "*errors.errorString" (.ptr (.agg [.lit (.string [97, 32, 114, 101, 99, 111, 114, 100, 32, 119, 104, 111, 115, 101, 32, 115, 117, 109, 32, 105, 115, 32, 119, 114, 111, 110, 103])]))
def laid_mapreduce_mapreduce_ErrInput {H : Type} : DataW H := .iface "*errors.errorString" (.ptr (.agg [.lit (.string [97, 32, 108, 105, 110, 101, 32, 116, 104, 97, 116, 32, 116, 104, 101, 32, 106, 111, 98, 32, 99, 97, 110, 110, 111, 116, 32, 116, 97, 107, 101])]))
def laid_mapreduce_mapreduce_ErrFull {H : Type} : DataW H := .iface "*errors.errorString" (.ptr (.agg [.lit (.string [110, 111, 32, 114, 111, 111, 109, 32, 105, 115, 32, 108, 101, 102, 116])]))
def laid_mapreduce_mapreduce_ErrUnknown {H : Type} : DataW H := .iface "*errors.errorString" (.ptr (.agg [.lit (.string [116, 104, 101, 114, 101, 32, 105, 115, 32, 110, 111, 110, 101])]))
def laid_mapreduce_mapreduce_ErrStale {H : Type} : DataW H := .iface "*errors.errorString" (.ptr (.agg [.lit (.string [105, 116, 32, 99, 111, 117, 110, 116, 115, 32, 110, 111, 32, 108, 111, 110, 103, 101, 114])]))
def laid_mapreduce_mapreduce_ErrWait {H : Type} : DataW H := .iface "*errors.errorString" (.ptr (.agg [.lit (.string [110, 111, 116, 104, 105, 110, 103, 32, 105, 115, 32, 116, 111, 32, 98, 101, 32, 100, 111, 110, 101, 32, 106, 117, 115, 116, 32, 110, 111, 119])]))
def laid_mapreduce_mapreduce_ErrDone {H : Type} : DataW H := .iface "*errors.errorString" (.ptr (.agg [.lit (.string [97, 108, 108, 32, 105, 115, 32, 100, 111, 110, 101])]))
def laid_mapreduce_mapreduce_ErrExhausted {H : Type} : DataW H := .iface "*errors.errorString" (.ptr (.agg [.lit (.string [97, 32, 116, 97, 115, 107, 32, 104, 97, 115, 32, 98, 101, 101, 110, 32, 116, 114, 105, 101, 100, 32, 116, 111, 111, 32, 111, 102, 116, 101, 110])]))
def laid_mapreduce_mapreduce_ErrEnded {H : Type} : DataW H := .iface "*errors.errorString" (.ptr (.agg [.lit (.string [116, 104, 101, 32, 101, 118, 101, 110, 116, 115, 32, 104, 97, 118, 101, 32, 101, 110, 100, 101, 100])]))

/-- 'mapreducelaw.Names': WHATEVER THE INPUT: true; the input reads as it did. -/
def namesSpec : ChangeSpec := { name := "names", fn := fun _ => fun
  | [] => { results := [.lit (.bool true)], args := [] }
  | _ => none }
def namesRow : OpenClaim := { program := "ytibofakbhgmhiaadoor", sum := "c03a713519d77c858d2900f165ae159b87fc43cc9ed2d3a87d7cd2f5a89e4628", func := "mapreduce/mapreducelaw.Names", spec := "names", inPlace := ["internal/reflectlite.TypeOf", "internal/reflectlite.ValueOf", "(internal/reflectlite.Value).Type", "(internal/reflectlite.Value).IsNil", "(internal/reflectlite.Value).Elem", "(internal/reflectlite.Value).Set"], unfollowed := true, recurses := true, named := ["mapreduce/mapreduce.ErrArg", "mapreduce/mapreduce.ErrShort", "mapreduce/mapreduce.ErrSum", "mapreduce/mapreduce.ErrInput", "mapreduce/mapreduce.ErrFull", "mapreduce/mapreduce.ErrUnknown", "mapreduce/mapreduce.ErrStale", "mapreduce/mapreduce.ErrWait", "mapreduce/mapreduce.ErrDone", "mapreduce/mapreduce.ErrExhausted", "mapreduce/mapreduce.ErrEnded", "errors.errorType"], apart := false, laid := [("errors.errorType", laid_errors_errorType), ("mapreduce/mapreduce.ErrArg", laid_mapreduce_mapreduce_ErrArg), ("mapreduce/mapreduce.ErrShort", laid_mapreduce_mapreduce_ErrShort), ("mapreduce/mapreduce.ErrSum", laid_mapreduce_mapreduce_ErrSum), ("mapreduce/mapreduce.ErrInput", laid_mapreduce_mapreduce_ErrInput), ("mapreduce/mapreduce.ErrFull", laid_mapreduce_mapreduce_ErrFull), ("mapreduce/mapreduce.ErrUnknown", laid_mapreduce_mapreduce_ErrUnknown), ("mapreduce/mapreduce.ErrStale", laid_mapreduce_mapreduce_ErrStale), ("mapreduce/mapreduce.ErrWait", laid_mapreduce_mapreduce_ErrWait), ("mapreduce/mapreduce.ErrDone", laid_mapreduce_mapreduce_ErrDone), ("mapreduce/mapreduce.ErrExhausted", laid_mapreduce_mapreduce_ErrExhausted), ("mapreduce/mapreduce.ErrEnded", laid_mapreduce_mapreduce_ErrEnded)] }
def NamesSaid : Prop := namesRow.holds Tryd.pinned (OpenSpec.ofChange namesSpec)

/-- ITS FALSE NEIGHBOUR: 'it returns false'. Refute it at one input. -/
def namesWrong : ChangeSpec := { name := "names", fn := fun _ => fun
  | [] => { results := [.lit (.bool false)], args := [] }
  | _ => none }
def NamesWrongFalsely : Prop := namesRow.holds Tryd.pinned (OpenSpec.ofChange namesWrong)

/- THE SECOND FORM. 'bulk': how many values and letters a reading holds, each counted each time it is reached (what is shared counts as often as it is met; a slice's spare places count too). A statement '..UptoSaid' is the law's where the arguments, and the package variables that the reading takes, are together of bulk at most 1048576: NARROWER than '..Said'. Prove '..Said' where nothing that the law and all that it calls make is longer than what came in: it says more and counts as full. Else prove '..UptoSaid'. A law counts once. -/
mutual
def uptoBulk {H : Type} : DataW H → Nat
  | .lit (.string bytes) => bytes.length + 1
  | .lit _ => 1
  | .nil => 1
  | .ptr d => uptoBulk d + 1
  | .slice elems spare => uptoBulkAll elems + uptoBulkAll spare + 1
  | .agg parts => uptoBulkAll parts + 1
  | .iface _ d => uptoBulk d + 1
  | .map entries => uptoBulkEntries entries + 1
  | .held _ => 1
def uptoBulkAll {H : Type} : List (DataW H) → Nat
  | [] => 0
  | d :: r => uptoBulk d + uptoBulkAll r
def uptoBulkEntries {H : Type} : List (Lit × DataW H) → Nat
  | [] => 0
  | x :: r => uptoBulkEntry x + uptoBulkEntries r
def uptoBulkEntry {H : Type} : Lit × DataW H → Nat
  | (.string bytes, d) => bytes.length + uptoBulk d + 1
  | (_, d) => uptoBulk d + 1
 end
def uptoSmall : (H : Type) → List (DataW H) → Bool := fun _ ds => decide (uptoBulkAll ds ≤ 1048576)
def OpenSpec.upto (s : _root_.Go.ChangeSpec) : _root_.Go.OpenSpec := { _root_.Go.OpenSpec.ofChange s with cond := some uptoSmall }

/-- 'mapreducelaw.Names', WHERE WHAT IT READS IS OF BULK AT MOST 1048576: true; the input reads as it did. -/
def namesUptoRow : OpenClaim := { program := "ytibofakbhgmhiaadoor", sum := "c03a713519d77c858d2900f165ae159b87fc43cc9ed2d3a87d7cd2f5a89e4628", func := "mapreduce/mapreducelaw.Names", spec := "names", inPlace := ["internal/reflectlite.TypeOf", "internal/reflectlite.ValueOf", "(internal/reflectlite.Value).Type", "(internal/reflectlite.Value).IsNil", "(internal/reflectlite.Value).Elem", "(internal/reflectlite.Value).Set"], unfollowed := true, recurses := true, named := ["mapreduce/mapreduce.ErrArg", "mapreduce/mapreduce.ErrShort", "mapreduce/mapreduce.ErrSum", "mapreduce/mapreduce.ErrInput", "mapreduce/mapreduce.ErrFull", "mapreduce/mapreduce.ErrUnknown", "mapreduce/mapreduce.ErrStale", "mapreduce/mapreduce.ErrWait", "mapreduce/mapreduce.ErrDone", "mapreduce/mapreduce.ErrExhausted", "mapreduce/mapreduce.ErrEnded", "errors.errorType"], apart := false, laid := [("errors.errorType", laid_errors_errorType), ("mapreduce/mapreduce.ErrArg", laid_mapreduce_mapreduce_ErrArg), ("mapreduce/mapreduce.ErrShort", laid_mapreduce_mapreduce_ErrShort), ("mapreduce/mapreduce.ErrSum", laid_mapreduce_mapreduce_ErrSum), ("mapreduce/mapreduce.ErrInput", laid_mapreduce_mapreduce_ErrInput), ("mapreduce/mapreduce.ErrFull", laid_mapreduce_mapreduce_ErrFull), ("mapreduce/mapreduce.ErrUnknown", laid_mapreduce_mapreduce_ErrUnknown), ("mapreduce/mapreduce.ErrStale", laid_mapreduce_mapreduce_ErrStale), ("mapreduce/mapreduce.ErrWait", laid_mapreduce_mapreduce_ErrWait), ("mapreduce/mapreduce.ErrDone", laid_mapreduce_mapreduce_ErrDone), ("mapreduce/mapreduce.ErrExhausted", laid_mapreduce_mapreduce_ErrExhausted), ("mapreduce/mapreduce.ErrEnded", laid_mapreduce_mapreduce_ErrEnded)], narrowed := true }
def NamesUptoSaid : Prop := namesUptoRow.holds Tryd.pinned (OpenSpec.upto namesSpec)

end Rows
end Go.Proofs.YtibofakbhgmhiaaDoor
