/-
  NARROWER THAN 'FOR EVERY INPUT', by the rows' own cells (each row's printed sentence says how): MsgTells: loops, laid · MsgBack: loops, laid · MsgReads: loops, laid · MsgSpoils: loops, laid · MsgResults: laid · MsgSearches: laid.
  DERIVED. THE GIVEN ROWS OF THIS SEAT. 6 by the template 'for every input the law returns true; each argument reads behind the call as it read before'; 0 by the template 'total and deterministic' (their statements: YtconghaebebncaaGreatDoorTotals.lean).
  GIVEN WITH THE SEED: the statements are not yours to turn. If you find one false, say at which input.
  Laid BY PROGRAM, IN A SANDBOX (cutbox-rows.mjs): the forced cells as the released guide's own fill.sh prints them over the translation aa7b4a9f47c605f2… (all of the seat's roots in one cut). By AI agents, Wed Nov 11 2026. No macro, syntax, notation, axiom, sorry.
-/
import Derived.Test.YtconghaebebncaaGreatDoorChecked
import GoSem.Claim
import GoSem.ClaimJoined
import GoSem.ClaimMapViews
import Derived.JoinedTies
import Derived.KernelRfl
namespace Go.Proofs.YtconghaebebncaaGreatDoor
/- THE CELL 'sum', in the pinned program and in every row, IS THE sha256 OF THE DUMP (.gsa) THAT YtconghaebebncaaGreatDoorProg.lean LOADS. Nothing in Lean hashes anything: it is a label: what it is worth is what the hold of that sum in a sandbox is worth. -/
noncomputable def Tryz.pinned : Pinned := { name := "ytconghaebebncaagreatdoor", sum := "aa7b4a9f47c605f2b9dfdef5153a10239e93ef2e08aaf967a6e24fce25c429dd", checked := Tryz.checked }
namespace Rows
def none {H : Type} : Left H := { results := [], args := [] }

/- WHAT THE LISTED PACKAGE-LEVEL VARIABLES READ AS WHEN THE CALL BEGINS. Each datum BY PROGRAM (the guide's laid-datum.mjs) off the statement by which the dump's own 'gosem.cut.vars' lays the variable. In a bare row this is a premise. The card (YtconghaebebncaaGreatDoorCards.lean) ties it to the program's text. -/
def laid_errors_errorType {H : Type} : DataW H := .iface "internal/reflectlite.rtype" (.agg [.ptr (.lit (.string [101, 114, 114, 111, 114]))])
def laid_prefect_msg_operations {H : Type} : DataW H := .agg [.agg [.lit (.int .i64 1), .lit (.int .i64 0), .lit (.int .u8 96)], .agg [.lit (.int .i64 2), .lit (.int .i64 0), .lit (.int .u8 66)], .agg [.lit (.int .i64 3), .lit (.int .i64 0), .lit (.int .u8 99)], .agg [.lit (.int .i64 4), .lit (.int .i64 0), .lit (.int .u8 102)], .agg [.lit (.int .i64 5), .lit (.int .i64 0), .lit (.int .u8 104)], .agg [.lit (.int .i64 6), .lit (.int .i64 0), .lit (.int .u8 74)], .agg [.lit (.int .i64 7), .lit (.int .i64 0), .lit (.int .u8 108)], .agg [.lit (.int .i64 8), .lit (.int .i64 0), .lit (.int .u8 110)], .agg [.lit (.int .i64 10), .lit (.int .i64 0), .lit (.int .u8 100)], .agg [.lit (.int .i64 9), .lit (.int .i64 1), .lit (.int .u8 97)], .agg [.lit (.int .i64 9), .lit (.int .i64 3), .lit (.int .u8 101)], .agg [.lit (.int .i64 9), .lit (.int .i64 4), .lit (.int .u8 103)], .agg [.lit (.int .i64 9), .lit (.int .i64 5), .lit (.int .u8 105)], .agg [.lit (.int .i64 9), .lit (.int .i64 6), .lit (.int .u8 107)], .agg [.lit (.int .i64 9), .lit (.int .i64 7), .lit (.int .u8 109)], .agg [.lit (.int .i64 9), .lit (.int .i64 8), .lit (.int .u8 111)]]
def laid_prefect_msg_filters {H : Type} : DataW H := .agg [.agg [.lit (.int .i64 1), .lit (.int .u8 160)], .agg [.lit (.int .i64 2), .lit (.int .u8 161)], .agg [.lit (.int .i64 3), .lit (.int .u8 162)], .agg [.lit (.int .i64 4), .lit (.int .u8 163)], .agg [.lit (.int .i64 8), .lit (.int .u8 164)], .agg [.lit (.int .i64 5), .lit (.int .u8 165)], .agg [.lit (.int .i64 6), .lit (.int .u8 166)], .agg [.lit (.int .i64 7), .lit (.int .u8 135)]]

/-- 'prefectlaw9.MsgTells': WHATEVER THE INPUT: true; the input reads as it did. -/
def msgTellsSpec : ChangeSpec := { name := "msgTells", fn := fun _ => fun
  | [d1, d2] => { results := [.lit (.bool true)], args := [d1, d2] }
  | _ => none }
def msgTellsRow : OpenClaim := { program := "ytconghaebebncaagreatdoor", sum := "aa7b4a9f47c605f2b9dfdef5153a10239e93ef2e08aaf967a6e24fce25c429dd", func := "prefect/prefectlaw9.MsgTells", spec := "msgTells", inPlace := ["internal/abi.NoEscape", "internal/bytealg.MakeNoZero", "internal/reflectlite.ValueOf", "(internal/reflectlite.Value).Type", "(internal/reflectlite.Value).IsNil", "internal/reflectlite.TypeOf", "(internal/reflectlite.Value).Elem", "(internal/reflectlite.Value).Set"], unfollowed := true, recurses := true, named := ["prefect/msg.operations", "prefect/msg.filters", "errors.errorType"], loops := true, apart := false, laid := [("errors.errorType", laid_errors_errorType), ("prefect/msg.operations", laid_prefect_msg_operations), ("prefect/msg.filters", laid_prefect_msg_filters)] }
def MsgTellsSaid : Prop := msgTellsRow.holds Tryz.pinned (OpenSpec.ofChange msgTellsSpec)

/-- ITS FALSE NEIGHBOUR: 'it returns false'. Refute it at one input. -/
def msgTellsWrong : ChangeSpec := { name := "msgTells", fn := fun _ => fun
  | [d1, d2] => { results := [.lit (.bool false)], args := [d1, d2] }
  | _ => none }
def MsgTellsWrongFalsely : Prop := msgTellsRow.holds Tryz.pinned (OpenSpec.ofChange msgTellsWrong)

/-- 'prefectlaw9.MsgBack': WHATEVER THE INPUT: true; the input reads as it did. -/
def msgBackSpec : ChangeSpec := { name := "msgBack", fn := fun _ => fun
  | [d1, d2] => { results := [.lit (.bool true)], args := [d1, d2] }
  | _ => none }
def msgBackRow : OpenClaim := { program := "ytconghaebebncaagreatdoor", sum := "aa7b4a9f47c605f2b9dfdef5153a10239e93ef2e08aaf967a6e24fce25c429dd", func := "prefect/prefectlaw9.MsgBack", spec := "msgBack", inPlace := ["internal/abi.NoEscape", "internal/bytealg.MakeNoZero", "internal/reflectlite.ValueOf", "(internal/reflectlite.Value).Type", "(internal/reflectlite.Value).IsNil", "internal/reflectlite.TypeOf", "(internal/reflectlite.Value).Elem", "(internal/reflectlite.Value).Set"], unfollowed := true, recurses := true, named := ["prefect/msg.operations", "prefect/msg.filters", "errors.errorType"], loops := true, apart := false, laid := [("errors.errorType", laid_errors_errorType), ("prefect/msg.operations", laid_prefect_msg_operations), ("prefect/msg.filters", laid_prefect_msg_filters)] }
def MsgBackSaid : Prop := msgBackRow.holds Tryz.pinned (OpenSpec.ofChange msgBackSpec)

/-- ITS FALSE NEIGHBOUR: 'it returns false'. Refute it at one input. -/
def msgBackWrong : ChangeSpec := { name := "msgBack", fn := fun _ => fun
  | [d1, d2] => { results := [.lit (.bool false)], args := [d1, d2] }
  | _ => none }
def MsgBackWrongFalsely : Prop := msgBackRow.holds Tryz.pinned (OpenSpec.ofChange msgBackWrong)

/-- 'prefectlaw9.MsgReads': WHATEVER THE INPUT: true; the input reads as it did. -/
def msgReadsSpec : ChangeSpec := { name := "msgReads", fn := fun _ => fun
  | [d1, d2, d3, d4, d5] => { results := [.lit (.bool true)], args := [d1, d2, d3, d4, d5] }
  | _ => none }
def msgReadsRow : OpenClaim := { program := "ytconghaebebncaagreatdoor", sum := "aa7b4a9f47c605f2b9dfdef5153a10239e93ef2e08aaf967a6e24fce25c429dd", func := "prefect/prefectlaw9.MsgReads", spec := "msgReads", inPlace := ["internal/abi.NoEscape", "internal/bytealg.MakeNoZero", "internal/reflectlite.ValueOf", "(internal/reflectlite.Value).Type", "(internal/reflectlite.Value).IsNil", "internal/reflectlite.TypeOf", "(internal/reflectlite.Value).Elem", "(internal/reflectlite.Value).Set"], unfollowed := true, recurses := true, named := ["prefect/msg.operations", "prefect/msg.filters", "errors.errorType"], loops := true, apart := false, laid := [("errors.errorType", laid_errors_errorType), ("prefect/msg.operations", laid_prefect_msg_operations), ("prefect/msg.filters", laid_prefect_msg_filters)] }
def MsgReadsSaid : Prop := msgReadsRow.holds Tryz.pinned (OpenSpec.ofChange msgReadsSpec)

/-- ITS FALSE NEIGHBOUR: 'it returns false'. Refute it at one input. -/
def msgReadsWrong : ChangeSpec := { name := "msgReads", fn := fun _ => fun
  | [d1, d2, d3, d4, d5] => { results := [.lit (.bool false)], args := [d1, d2, d3, d4, d5] }
  | _ => none }
def MsgReadsWrongFalsely : Prop := msgReadsRow.holds Tryz.pinned (OpenSpec.ofChange msgReadsWrong)

/-- 'prefectlaw9.MsgSpoils': WHATEVER THE INPUT: true; the input reads as it did. -/
def msgSpoilsSpec : ChangeSpec := { name := "msgSpoils", fn := fun _ => fun
  | [d1, d2] => { results := [.lit (.bool true)], args := [d1, d2] }
  | _ => none }
def msgSpoilsRow : OpenClaim := { program := "ytconghaebebncaagreatdoor", sum := "aa7b4a9f47c605f2b9dfdef5153a10239e93ef2e08aaf967a6e24fce25c429dd", func := "prefect/prefectlaw9.MsgSpoils", spec := "msgSpoils", inPlace := ["internal/abi.NoEscape", "internal/bytealg.MakeNoZero", "internal/reflectlite.ValueOf", "(internal/reflectlite.Value).Type", "(internal/reflectlite.Value).IsNil", "internal/reflectlite.TypeOf", "(internal/reflectlite.Value).Elem", "(internal/reflectlite.Value).Set"], unfollowed := true, recurses := true, named := ["prefect/msg.operations", "prefect/msg.filters", "errors.errorType"], loops := true, apart := false, laid := [("errors.errorType", laid_errors_errorType), ("prefect/msg.operations", laid_prefect_msg_operations), ("prefect/msg.filters", laid_prefect_msg_filters)] }
def MsgSpoilsSaid : Prop := msgSpoilsRow.holds Tryz.pinned (OpenSpec.ofChange msgSpoilsSpec)

/-- ITS FALSE NEIGHBOUR: 'it returns false'. Refute it at one input. -/
def msgSpoilsWrong : ChangeSpec := { name := "msgSpoils", fn := fun _ => fun
  | [d1, d2] => { results := [.lit (.bool false)], args := [d1, d2] }
  | _ => none }
def MsgSpoilsWrongFalsely : Prop := msgSpoilsRow.holds Tryz.pinned (OpenSpec.ofChange msgSpoilsWrong)

/-- 'prefectlaw9.MsgResults': WHATEVER THE INPUT: true; the input reads as it did. -/
def msgResultsSpec : ChangeSpec := { name := "msgResults", fn := fun _ => fun
  | [d1, d2, d3, d4, d5] => { results := [.lit (.bool true)], args := [d1, d2, d3, d4, d5] }
  | _ => none }
def msgResultsRow : OpenClaim := { program := "ytconghaebebncaagreatdoor", sum := "aa7b4a9f47c605f2b9dfdef5153a10239e93ef2e08aaf967a6e24fce25c429dd", func := "prefect/prefectlaw9.MsgResults", spec := "msgResults", inPlace := ["internal/abi.NoEscape", "internal/bytealg.MakeNoZero", "internal/reflectlite.ValueOf", "(internal/reflectlite.Value).Type", "(internal/reflectlite.Value).IsNil", "internal/reflectlite.TypeOf", "(internal/reflectlite.Value).Elem", "(internal/reflectlite.Value).Set"], unfollowed := true, recurses := true, named := ["prefect/msg.operations", "prefect/msg.filters", "errors.errorType"], apart := false, laid := [("errors.errorType", laid_errors_errorType), ("prefect/msg.operations", laid_prefect_msg_operations), ("prefect/msg.filters", laid_prefect_msg_filters)] }
def MsgResultsSaid : Prop := msgResultsRow.holds Tryz.pinned (OpenSpec.ofChange msgResultsSpec)

/-- ITS FALSE NEIGHBOUR: 'it returns false'. Refute it at one input. -/
def msgResultsWrong : ChangeSpec := { name := "msgResults", fn := fun _ => fun
  | [d1, d2, d3, d4, d5] => { results := [.lit (.bool false)], args := [d1, d2, d3, d4, d5] }
  | _ => none }
def MsgResultsWrongFalsely : Prop := msgResultsRow.holds Tryz.pinned (OpenSpec.ofChange msgResultsWrong)

/-- 'prefectlaw9.MsgSearches': WHATEVER THE INPUT: true; the input reads as it did. -/
def msgSearchesSpec : ChangeSpec := { name := "msgSearches", fn := fun _ => fun
  | [d1, d2, d3, d4, d5] => { results := [.lit (.bool true)], args := [d1, d2, d3, d4, d5] }
  | _ => none }
def msgSearchesRow : OpenClaim := { program := "ytconghaebebncaagreatdoor", sum := "aa7b4a9f47c605f2b9dfdef5153a10239e93ef2e08aaf967a6e24fce25c429dd", func := "prefect/prefectlaw9.MsgSearches", spec := "msgSearches", inPlace := ["internal/abi.NoEscape", "internal/bytealg.MakeNoZero", "internal/reflectlite.ValueOf", "(internal/reflectlite.Value).Type", "(internal/reflectlite.Value).IsNil", "internal/reflectlite.TypeOf", "(internal/reflectlite.Value).Elem", "(internal/reflectlite.Value).Set"], unfollowed := true, recurses := true, named := ["prefect/msg.operations", "prefect/msg.filters", "errors.errorType"], apart := false, laid := [("errors.errorType", laid_errors_errorType), ("prefect/msg.operations", laid_prefect_msg_operations), ("prefect/msg.filters", laid_prefect_msg_filters)] }
def MsgSearchesSaid : Prop := msgSearchesRow.holds Tryz.pinned (OpenSpec.ofChange msgSearchesSpec)

/-- ITS FALSE NEIGHBOUR: 'it returns false'. Refute it at one input. -/
def msgSearchesWrong : ChangeSpec := { name := "msgSearches", fn := fun _ => fun
  | [d1, d2, d3, d4, d5] => { results := [.lit (.bool false)], args := [d1, d2, d3, d4, d5] }
  | _ => none }
def MsgSearchesWrongFalsely : Prop := msgSearchesRow.holds Tryz.pinned (OpenSpec.ofChange msgSearchesWrong)

/- THE SECOND FORM. 'bulk': how many values and letters a reading holds, each counted each time it is reached (what is shared counts as often as it is met; a slice's spare places count too). A statement '..UptoSaid' is the law's where the arguments, and the package variables that the reading takes, are together of bulk at most 1048576: NARROWER than '..Said'. Prove '..Said' where nothing that the law and all that it calls make is longer than what came in: it says more and counts as full. Else prove '..UptoSaid'. A law counts once. -/
mutual
def uptoBulk {H : Type} : DataW H → Nat
  | .lit (.string bytes) => bytes.length + 1
  | .lit _ => 1
  | .nil => 1
  | .ptr d => uptoBulk d + 1
  | .slice elems spare => uptoBulkAll elems + uptoBulkAll spare + 1
  | .agg parts => uptoBulkAll parts + 1
  | .iface _ d => uptoBulk d + 1
  | .map entries => uptoBulkEntries entries + 1
  | .held _ => 1
def uptoBulkAll {H : Type} : List (DataW H) → Nat
  | [] => 0
  | d :: r => uptoBulk d + uptoBulkAll r
def uptoBulkEntries {H : Type} : List (Lit × DataW H) → Nat
  | [] => 0
  | x :: r => uptoBulkEntry x + uptoBulkEntries r
def uptoBulkEntry {H : Type} : Lit × DataW H → Nat
  | (.string bytes, d) => bytes.length + uptoBulk d + 1
  | (_, d) => uptoBulk d + 1
 end
def uptoSmall : (H : Type) → List (DataW H) → Bool := fun _ ds => decide (uptoBulkAll ds ≤ 1048576)
def OpenSpec.upto (s : _root_.Go.ChangeSpec) : _root_.Go.OpenSpec := { _root_.Go.OpenSpec.ofChange s with cond := some uptoSmall }

/-- 'prefectlaw9.MsgTells', WHERE WHAT IT READS IS OF BULK AT MOST 1048576: true; the input reads as it did. -/
def msgTellsUptoRow : OpenClaim := { program := "ytconghaebebncaagreatdoor", sum := "aa7b4a9f47c605f2b9dfdef5153a10239e93ef2e08aaf967a6e24fce25c429dd", func := "prefect/prefectlaw9.MsgTells", spec := "msgTells", inPlace := ["internal/abi.NoEscape", "internal/bytealg.MakeNoZero", "internal/reflectlite.ValueOf", "(internal/reflectlite.Value).Type", "(internal/reflectlite.Value).IsNil", "internal/reflectlite.TypeOf", "(internal/reflectlite.Value).Elem", "(internal/reflectlite.Value).Set"], unfollowed := true, recurses := true, named := ["prefect/msg.operations", "prefect/msg.filters", "errors.errorType"], loops := true, apart := false, laid := [("errors.errorType", laid_errors_errorType), ("prefect/msg.operations", laid_prefect_msg_operations), ("prefect/msg.filters", laid_prefect_msg_filters)], narrowed := true }
def MsgTellsUptoSaid : Prop := msgTellsUptoRow.holds Tryz.pinned (OpenSpec.upto msgTellsSpec)

/-- 'prefectlaw9.MsgBack', WHERE WHAT IT READS IS OF BULK AT MOST 1048576: true; the input reads as it did. -/
def msgBackUptoRow : OpenClaim := { program := "ytconghaebebncaagreatdoor", sum := "aa7b4a9f47c605f2b9dfdef5153a10239e93ef2e08aaf967a6e24fce25c429dd", func := "prefect/prefectlaw9.MsgBack", spec := "msgBack", inPlace := ["internal/abi.NoEscape", "internal/bytealg.MakeNoZero", "internal/reflectlite.ValueOf", "(internal/reflectlite.Value).Type", "(internal/reflectlite.Value).IsNil", "internal/reflectlite.TypeOf", "(internal/reflectlite.Value).Elem", "(internal/reflectlite.Value).Set"], unfollowed := true, recurses := true, named := ["prefect/msg.operations", "prefect/msg.filters", "errors.errorType"], loops := true, apart := false, laid := [("errors.errorType", laid_errors_errorType), ("prefect/msg.operations", laid_prefect_msg_operations), ("prefect/msg.filters", laid_prefect_msg_filters)], narrowed := true }
def MsgBackUptoSaid : Prop := msgBackUptoRow.holds Tryz.pinned (OpenSpec.upto msgBackSpec)

/-- 'prefectlaw9.MsgReads', WHERE WHAT IT READS IS OF BULK AT MOST 1048576: true; the input reads as it did. -/
def msgReadsUptoRow : OpenClaim := { program := "ytconghaebebncaagreatdoor", sum := "aa7b4a9f47c605f2b9dfdef5153a10239e93ef2e08aaf967a6e24fce25c429dd", func := "prefect/prefectlaw9.MsgReads", spec := "msgReads", inPlace := ["internal/abi.NoEscape", "internal/bytealg.MakeNoZero", "internal/reflectlite.ValueOf", "(internal/reflectlite.Value).Type", "(internal/reflectlite.Value).IsNil", "internal/reflectlite.TypeOf", "(internal/reflectlite.Value).Elem", "(internal/reflectlite.Value).Set"], unfollowed := true, recurses := true, named := ["prefect/msg.operations", "prefect/msg.filters", "errors.errorType"], loops := true, apart := false, laid := [("errors.errorType", laid_errors_errorType), ("prefect/msg.operations", laid_prefect_msg_operations), ("prefect/msg.filters", laid_prefect_msg_filters)], narrowed := true }
def MsgReadsUptoSaid : Prop := msgReadsUptoRow.holds Tryz.pinned (OpenSpec.upto msgReadsSpec)

/-- 'prefectlaw9.MsgSpoils', WHERE WHAT IT READS IS OF BULK AT MOST 1048576: true; the input reads as it did. -/
def msgSpoilsUptoRow : OpenClaim := { program := "ytconghaebebncaagreatdoor", sum := "aa7b4a9f47c605f2b9dfdef5153a10239e93ef2e08aaf967a6e24fce25c429dd", func := "prefect/prefectlaw9.MsgSpoils", spec := "msgSpoils", inPlace := ["internal/abi.NoEscape", "internal/bytealg.MakeNoZero", "internal/reflectlite.ValueOf", "(internal/reflectlite.Value).Type", "(internal/reflectlite.Value).IsNil", "internal/reflectlite.TypeOf", "(internal/reflectlite.Value).Elem", "(internal/reflectlite.Value).Set"], unfollowed := true, recurses := true, named := ["prefect/msg.operations", "prefect/msg.filters", "errors.errorType"], loops := true, apart := false, laid := [("errors.errorType", laid_errors_errorType), ("prefect/msg.operations", laid_prefect_msg_operations), ("prefect/msg.filters", laid_prefect_msg_filters)], narrowed := true }
def MsgSpoilsUptoSaid : Prop := msgSpoilsUptoRow.holds Tryz.pinned (OpenSpec.upto msgSpoilsSpec)

/-- 'prefectlaw9.MsgResults', WHERE WHAT IT READS IS OF BULK AT MOST 1048576: true; the input reads as it did. -/
def msgResultsUptoRow : OpenClaim := { program := "ytconghaebebncaagreatdoor", sum := "aa7b4a9f47c605f2b9dfdef5153a10239e93ef2e08aaf967a6e24fce25c429dd", func := "prefect/prefectlaw9.MsgResults", spec := "msgResults", inPlace := ["internal/abi.NoEscape", "internal/bytealg.MakeNoZero", "internal/reflectlite.ValueOf", "(internal/reflectlite.Value).Type", "(internal/reflectlite.Value).IsNil", "internal/reflectlite.TypeOf", "(internal/reflectlite.Value).Elem", "(internal/reflectlite.Value).Set"], unfollowed := true, recurses := true, named := ["prefect/msg.operations", "prefect/msg.filters", "errors.errorType"], apart := false, laid := [("errors.errorType", laid_errors_errorType), ("prefect/msg.operations", laid_prefect_msg_operations), ("prefect/msg.filters", laid_prefect_msg_filters)], narrowed := true }
def MsgResultsUptoSaid : Prop := msgResultsUptoRow.holds Tryz.pinned (OpenSpec.upto msgResultsSpec)

/-- 'prefectlaw9.MsgSearches', WHERE WHAT IT READS IS OF BULK AT MOST 1048576: true; the input reads as it did. -/
def msgSearchesUptoRow : OpenClaim := { program := "ytconghaebebncaagreatdoor", sum := "aa7b4a9f47c605f2b9dfdef5153a10239e93ef2e08aaf967a6e24fce25c429dd", func := "prefect/prefectlaw9.MsgSearches", spec := "msgSearches", inPlace := ["internal/abi.NoEscape", "internal/bytealg.MakeNoZero", "internal/reflectlite.ValueOf", "(internal/reflectlite.Value).Type", "(internal/reflectlite.Value).IsNil", "internal/reflectlite.TypeOf", "(internal/reflectlite.Value).Elem", "(internal/reflectlite.Value).Set"], unfollowed := true, recurses := true, named := ["prefect/msg.operations", "prefect/msg.filters", "errors.errorType"], apart := false, laid := [("errors.errorType", laid_errors_errorType), ("prefect/msg.operations", laid_prefect_msg_operations), ("prefect/msg.filters", laid_prefect_msg_filters)], narrowed := true }
def MsgSearchesUptoSaid : Prop := msgSearchesUptoRow.holds Tryz.pinned (OpenSpec.upto msgSearchesSpec)

end Rows
end Go.Proofs.YtconghaebebncaaGreatDoor
