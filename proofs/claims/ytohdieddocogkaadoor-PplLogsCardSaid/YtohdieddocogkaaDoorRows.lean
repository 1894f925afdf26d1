/-
  NARROWER THAN 'FOR EVERY INPUT', by the rows' own cells (each row's printed sentence says how): PplCodes: laid · PplBack: laid · PplTurned: laid · PplLogs: laid · PplCrash: laid · PplSure: laid · PplNobody: laid.
  DERIVED. THE GIVEN ROWS OF THIS SEAT. 7 by the template 'for every input the law returns true; each argument reads behind the call as it read before'; 0 by the template 'total and deterministic' (their statements: YtohdieddocogkaaDoorTotals.lean).
  GIVEN WITH THE SEED: the statements are not yours to turn. If you find one false, say at which input.
  Laid BY PROGRAM, IN A SANDBOX (cutbox-rows.mjs): the forced cells as the released guide's own fill.sh prints them over the translation 92902f3dbb076ce9… (all of the seat's roots in one cut). By AI agents, Wed Nov 11 2026. No macro, syntax, notation, axiom, sorry.
-/
import Derived.Test.YtohdieddocogkaaDoorChecked
import GoSem.Claim
import GoSem.ClaimJoined
import GoSem.ClaimMapViews
import Derived.JoinedTies
import Derived.KernelRfl
namespace Go.Proofs.YtohdieddocogkaaDoor
/- THE CELL 'sum', in the pinned program and in every row, IS THE sha256 OF THE DUMP (.gsa) THAT YtohdieddocogkaaDoorProg.lean LOADS. Nothing in Lean hashes anything: it is a label: what it is worth is what the hold of that sum in a sandbox is worth. -/
noncomputable def Tryd.pinned : Pinned := { name := "ytohdieddocogkaadoor", sum := "92902f3dbb076ce9a8e65485b7681c2babf838064298372759145c5012d618a5", checked := Tryd.checked }
namespace Rows
def none {H : Type} : Left H := { results := [], args := [] }

/- WHAT THE LISTED PACKAGE-LEVEL VARIABLES READ AS WHEN THE CALL BEGINS. Each datum BY PROGRAM (the guide's laid-datum.mjs) off the statement by which the dump's own 'gosem.cut.vars' lays the variable. In a bare row this is a premise. The card (YtohdieddocogkaaDoorCards.lean) ties it to the program's text. -/
def laid_ashlar_octets_lowRests {H : Type} : DataW H := .agg [.lit (.int .u32 0), .lit (.int .u32 4067132163), .lit (.int .u32 3778769143), .lit (.int .u32 324072436), .lit (.int .u32 3348797215), .lit (.int .u32 904991772), .lit (.int .u32 648144872), .lit (.int .u32 3570033899), .lit (.int .u32 2329499855), .lit (.int .u32 2024987596), .lit (.int .u32 1809983544), .lit (.int .u32 2575936315), .lit (.int .u32 1296289744), .lit (.int .u32 3207089363), .lit (.int .u32 2893594407), .lit (.int .u32 1578318884)]
def laid_ashlar_octets_highRests {H : Type} : DataW H := .agg [.lit (.int .u32 0), .lit (.int .u32 274646895), .lit (.int .u32 549293790), .lit (.int .u32 820201905), .lit (.int .u32 1098587580), .lit (.int .u32 1361435347), .lit (.int .u32 1640403810), .lit (.int .u32 1905808397), .lit (.int .u32 2197175160), .lit (.int .u32 2460548119), .lit (.int .u32 2722870694), .lit (.int .u32 2987750089), .lit (.int .u32 3280807620), .lit (.int .u32 3553878443), .lit (.int .u32 3811616794), .lit (.int .u32 4084100981)]
def laid_ashlar_ppl_fields {H : Type} : DataW H := .agg [.agg [.lit (.int .i64 4), .lit (.int .u64 1024)], .agg [.lit (.int .i64 8), .lit (.int .u64 15)], .agg [.lit (.int .i64 12), .lit (.int .u64 4294967296)]]

/-- 'ashlarlaw07.PplCodes': WHATEVER THE INPUT: true; the input reads as it did. -/
def pplCodesSpec : ChangeSpec := { name := "pplCodes", fn := fun _ => fun
  | [d1, d2, d3] => { results := [.lit (.bool true)], args := [d1, d2, d3] }
  | _ => none }
def pplCodesRow : OpenClaim := { program := "ytohdieddocogkaadoor", sum := "92902f3dbb076ce9a8e65485b7681c2babf838064298372759145c5012d618a5", func := "ashlar/ashlarlaw07.PplCodes", spec := "pplCodes", unfollowed := true, recurses := true, named := ["ashlar/ppl.fields", "ashlar/octets.lowRests", "ashlar/octets.highRests"], apart := false, laid := [("ashlar/octets.lowRests", laid_ashlar_octets_lowRests), ("ashlar/octets.highRests", laid_ashlar_octets_highRests), ("ashlar/ppl.fields", laid_ashlar_ppl_fields)] }
def PplCodesSaid : Prop := pplCodesRow.holds Tryd.pinned (OpenSpec.ofChange pplCodesSpec)

/-- ITS FALSE NEIGHBOUR: 'it returns false'. Refute it at one input. -/
def pplCodesWrong : ChangeSpec := { name := "pplCodes", fn := fun _ => fun
  | [d1, d2, d3] => { results := [.lit (.bool false)], args := [d1, d2, d3] }
  | _ => none }
def PplCodesWrongFalsely : Prop := pplCodesRow.holds Tryd.pinned (OpenSpec.ofChange pplCodesWrong)

/-- 'ashlarlaw07.PplBack': WHATEVER THE INPUT: true; the input reads as it did. -/
def pplBackSpec : ChangeSpec := { name := "pplBack", fn := fun _ => fun
  | [d] => { results := [.lit (.bool true)], args := [d] }
  | _ => none }
def pplBackRow : OpenClaim := { program := "ytohdieddocogkaadoor", sum := "92902f3dbb076ce9a8e65485b7681c2babf838064298372759145c5012d618a5", func := "ashlar/ashlarlaw07.PplBack", spec := "pplBack", unfollowed := true, recurses := true, named := ["ashlar/ppl.fields", "ashlar/octets.lowRests", "ashlar/octets.highRests"], apart := false, laid := [("ashlar/octets.lowRests", laid_ashlar_octets_lowRests), ("ashlar/octets.highRests", laid_ashlar_octets_highRests), ("ashlar/ppl.fields", laid_ashlar_ppl_fields)] }
def PplBackSaid : Prop := pplBackRow.holds Tryd.pinned (OpenSpec.ofChange pplBackSpec)

/-- ITS FALSE NEIGHBOUR: 'it returns false'. Refute it at one input. -/
def pplBackWrong : ChangeSpec := { name := "pplBack", fn := fun _ => fun
  | [d] => { results := [.lit (.bool false)], args := [d] }
  | _ => none }
def PplBackWrongFalsely : Prop := pplBackRow.holds Tryd.pinned (OpenSpec.ofChange pplBackWrong)

/-- 'ashlarlaw07.PplTurned': WHATEVER THE INPUT: true; the input reads as it did. -/
def pplTurnedSpec : ChangeSpec := { name := "pplTurned", fn := fun _ => fun
  | [d1, d2, d3] => { results := [.lit (.bool true)], args := [d1, d2, d3] }
  | _ => none }
def pplTurnedRow : OpenClaim := { program := "ytohdieddocogkaadoor", sum := "92902f3dbb076ce9a8e65485b7681c2babf838064298372759145c5012d618a5", func := "ashlar/ashlarlaw07.PplTurned", spec := "pplTurned", unfollowed := true, recurses := true, named := ["ashlar/ppl.fields", "ashlar/octets.lowRests", "ashlar/octets.highRests"], apart := false, laid := [("ashlar/octets.lowRests", laid_ashlar_octets_lowRests), ("ashlar/octets.highRests", laid_ashlar_octets_highRests), ("ashlar/ppl.fields", laid_ashlar_ppl_fields)] }
def PplTurnedSaid : Prop := pplTurnedRow.holds Tryd.pinned (OpenSpec.ofChange pplTurnedSpec)

/-- ITS FALSE NEIGHBOUR: 'it returns false'. Refute it at one input. -/
def pplTurnedWrong : ChangeSpec := { name := "pplTurned", fn := fun _ => fun
  | [d1, d2, d3] => { results := [.lit (.bool false)], args := [d1, d2, d3] }
  | _ => none }
def PplTurnedWrongFalsely : Prop := pplTurnedRow.holds Tryd.pinned (OpenSpec.ofChange pplTurnedWrong)

/-- 'ashlarlaw07.PplLogs': WHATEVER THE INPUT: true; the input reads as it did. -/
def pplLogsSpec : ChangeSpec := { name := "pplLogs", fn := fun _ => fun
  | [d1, d2] => { results := [.lit (.bool true)], args := [d1, d2] }
  | _ => none }
def pplLogsRow : OpenClaim := { program := "ytohdieddocogkaadoor", sum := "92902f3dbb076ce9a8e65485b7681c2babf838064298372759145c5012d618a5", func := "ashlar/ashlarlaw07.PplLogs", spec := "pplLogs", unfollowed := true, recurses := true, named := ["ashlar/ppl.fields", "ashlar/octets.lowRests", "ashlar/octets.highRests"], apart := false, laid := [("ashlar/octets.lowRests", laid_ashlar_octets_lowRests), ("ashlar/octets.highRests", laid_ashlar_octets_highRests), ("ashlar/ppl.fields", laid_ashlar_ppl_fields)] }
def PplLogsSaid : Prop := pplLogsRow.holds Tryd.pinned (OpenSpec.ofChange pplLogsSpec)

/-- ITS FALSE NEIGHBOUR: 'it returns false'. Refute it at one input. -/
def pplLogsWrong : ChangeSpec := { name := "pplLogs", fn := fun _ => fun
  | [d1, d2] => { results := [.lit (.bool false)], args := [d1, d2] }
  | _ => none }
def PplLogsWrongFalsely : Prop := pplLogsRow.holds Tryd.pinned (OpenSpec.ofChange pplLogsWrong)

/-- 'ashlarlaw07.PplCrash': WHATEVER THE INPUT: true; the input reads as it did. -/
def pplCrashSpec : ChangeSpec := { name := "pplCrash", fn := fun _ => fun
  | [d1, d2, d3] => { results := [.lit (.bool true)], args := [d1, d2, d3] }
  | _ => none }
def pplCrashRow : OpenClaim := { program := "ytohdieddocogkaadoor", sum := "92902f3dbb076ce9a8e65485b7681c2babf838064298372759145c5012d618a5", func := "ashlar/ashlarlaw07.PplCrash", spec := "pplCrash", unfollowed := true, recurses := true, named := ["ashlar/ppl.fields", "ashlar/octets.lowRests", "ashlar/octets.highRests"], apart := false, laid := [("ashlar/octets.lowRests", laid_ashlar_octets_lowRests), ("ashlar/octets.highRests", laid_ashlar_octets_highRests), ("ashlar/ppl.fields", laid_ashlar_ppl_fields)] }
def PplCrashSaid : Prop := pplCrashRow.holds Tryd.pinned (OpenSpec.ofChange pplCrashSpec)

/-- ITS FALSE NEIGHBOUR: 'it returns false'. Refute it at one input. -/
def pplCrashWrong : ChangeSpec := { name := "pplCrash", fn := fun _ => fun
  | [d1, d2, d3] => { results := [.lit (.bool false)], args := [d1, d2, d3] }
  | _ => none }
def PplCrashWrongFalsely : Prop := pplCrashRow.holds Tryd.pinned (OpenSpec.ofChange pplCrashWrong)

/-- 'ashlarlaw07.PplSure': WHATEVER THE INPUT: true; the input reads as it did. -/
def pplSureSpec : ChangeSpec := { name := "pplSure", fn := fun _ => fun
  | [d1, d2, d3, d4] => { results := [.lit (.bool true)], args := [d1, d2, d3, d4] }
  | _ => none }
def pplSureRow : OpenClaim := { program := "ytohdieddocogkaadoor", sum := "92902f3dbb076ce9a8e65485b7681c2babf838064298372759145c5012d618a5", func := "ashlar/ashlarlaw07.PplSure", spec := "pplSure", unfollowed := true, recurses := true, named := ["ashlar/ppl.fields", "ashlar/octets.lowRests", "ashlar/octets.highRests"], apart := false, laid := [("ashlar/octets.lowRests", laid_ashlar_octets_lowRests), ("ashlar/octets.highRests", laid_ashlar_octets_highRests), ("ashlar/ppl.fields", laid_ashlar_ppl_fields)] }
def PplSureSaid : Prop := pplSureRow.holds Tryd.pinned (OpenSpec.ofChange pplSureSpec)

/-- ITS FALSE NEIGHBOUR: 'it returns false'. Refute it at one input. -/
def pplSureWrong : ChangeSpec := { name := "pplSure", fn := fun _ => fun
  | [d1, d2, d3, d4] => { results := [.lit (.bool false)], args := [d1, d2, d3, d4] }
  | _ => none }
def PplSureWrongFalsely : Prop := pplSureRow.holds Tryd.pinned (OpenSpec.ofChange pplSureWrong)

/-- 'ashlarlaw07.PplNobody': WHATEVER THE INPUT: true; the input reads as it did. -/
def pplNobodySpec : ChangeSpec := { name := "pplNobody", fn := fun _ => fun
  | [d1, d2, d3, d4] => { results := [.lit (.bool true)], args := [d1, d2, d3, d4] }
  | _ => none }
def pplNobodyRow : OpenClaim := { program := "ytohdieddocogkaadoor", sum := "92902f3dbb076ce9a8e65485b7681c2babf838064298372759145c5012d618a5", func := "ashlar/ashlarlaw07.PplNobody", spec := "pplNobody", unfollowed := true, recurses := true, named := ["ashlar/octets.lowRests", "ashlar/octets.highRests", "ashlar/ppl.fields"], apart := false, laid := [("ashlar/octets.lowRests", laid_ashlar_octets_lowRests), ("ashlar/octets.highRests", laid_ashlar_octets_highRests), ("ashlar/ppl.fields", laid_ashlar_ppl_fields)] }
def PplNobodySaid : Prop := pplNobodyRow.holds Tryd.pinned (OpenSpec.ofChange pplNobodySpec)

/-- ITS FALSE NEIGHBOUR: 'it returns false'. Refute it at one input. -/
def pplNobodyWrong : ChangeSpec := { name := "pplNobody", fn := fun _ => fun
  | [d1, d2, d3, d4] => { results := [.lit (.bool false)], args := [d1, d2, d3, d4] }
  | _ => none }
def PplNobodyWrongFalsely : Prop := pplNobodyRow.holds Tryd.pinned (OpenSpec.ofChange pplNobodyWrong)

/- THE SECOND FORM. 'bulk': how many values and letters a reading holds, each counted each time it is reached (what is shared counts as often as it is met; a slice's spare places count too). A statement '..UptoSaid' is the law's where the arguments, and the package variables that the reading takes, are together of bulk at most 1048576: NARROWER than '..Said'. Prove '..Said' where nothing that the law and all that it calls make is longer than what came in: it says more and counts as full. Else prove '..UptoSaid'. A law counts once. -/
mutual
def uptoBulk {H : Type} : DataW H → Nat
  | .lit (.string bytes) => bytes.length + 1
  | .lit _ => 1
  | .nil => 1
  | .ptr d => uptoBulk d + 1
  | .slice elems spare => uptoBulkAll elems + uptoBulkAll spare + 1
  | .agg parts => uptoBulkAll parts + 1
  | .iface _ d => uptoBulk d + 1
  | .map entries => uptoBulkEntries entries + 1
  | .held _ => 1
def uptoBulkAll {H : Type} : List (DataW H) → Nat
  | [] => 0
  | d :: r => uptoBulk d + uptoBulkAll r
def uptoBulkEntries {H : Type} : List (Lit × DataW H) → Nat
  | [] => 0
  | x :: r => uptoBulkEntry x + uptoBulkEntries r
def uptoBulkEntry {H : Type} : Lit × DataW H → Nat
  | (.string bytes, d) => bytes.length + uptoBulk d + 1
  | (_, d) => uptoBulk d + 1
 end
def uptoSmall : (H : Type) → List (DataW H) → Bool := fun _ ds => decide (uptoBulkAll ds ≤ 1048576)
def OpenSpec.upto (s : _root_.Go.ChangeSpec) : _root_.Go.OpenSpec := { _root_.Go.OpenSpec.ofChange s with cond := some uptoSmall }

/-- 'ashlarlaw07.PplCodes', WHERE WHAT IT READS IS OF BULK AT MOST 1048576: true; the input reads as it did. -/
def pplCodesUptoRow : OpenClaim := { program := "ytohdieddocogkaadoor", sum := "92902f3dbb076ce9a8e65485b7681c2babf838064298372759145c5012d618a5", func := "ashlar/ashlarlaw07.PplCodes", spec := "pplCodes", unfollowed := true, recurses := true, named := ["ashlar/ppl.fields", "ashlar/octets.lowRests", "ashlar/octets.highRests"], apart := false, laid := [("ashlar/octets.lowRests", laid_ashlar_octets_lowRests), ("ashlar/octets.highRests", laid_ashlar_octets_highRests), ("ashlar/ppl.fields", laid_ashlar_ppl_fields)], narrowed := true }
def PplCodesUptoSaid : Prop := pplCodesUptoRow.holds Tryd.pinned (OpenSpec.upto pplCodesSpec)

/-- 'ashlarlaw07.PplBack', WHERE WHAT IT READS IS OF BULK AT MOST 1048576: true; the input reads as it did. -/
def pplBackUptoRow : OpenClaim := { program := "ytohdieddocogkaadoor", sum := "92902f3dbb076ce9a8e65485b7681c2babf838064298372759145c5012d618a5", func := "ashlar/ashlarlaw07.PplBack", spec := "pplBack", unfollowed := true, recurses := true, named := ["ashlar/ppl.fields", "ashlar/octets.lowRests", "ashlar/octets.highRests"], apart := false, laid := [("ashlar/octets.lowRests", laid_ashlar_octets_lowRests), ("ashlar/octets.highRests", laid_ashlar_octets_highRests), ("ashlar/ppl.fields", laid_ashlar_ppl_fields)], narrowed := true }
def PplBackUptoSaid : Prop := pplBackUptoRow.holds Tryd.pinned (OpenSpec.upto pplBackSpec)

/-- 'ashlarlaw07.PplTurned', WHERE WHAT IT READS IS OF BULK AT MOST 1048576: true; the input reads as it did. -/
def pplTurnedUptoRow : OpenClaim := { program := "ytohdieddocogkaadoor", sum := "92902f3dbb076ce9a8e65485b7681c2babf838064298372759145c5012d618a5", func := "ashlar/ashlarlaw07.PplTurned", spec := "pplTurned", unfollowed := true, recurses := true, named := ["ashlar/ppl.fields", "ashlar/octets.lowRests", "ashlar/octets.highRests"], apart := false, laid := [("ashlar/octets.lowRests", laid_ashlar_octets_lowRests), ("ashlar/octets.highRests", laid_ashlar_octets_highRests), ("ashlar/ppl.fields", laid_ashlar_ppl_fields)], narrowed := true }
def PplTurnedUptoSaid : Prop := pplTurnedUptoRow.holds Tryd.pinned (OpenSpec.upto pplTurnedSpec)

/-- 'ashlarlaw07.PplLogs', WHERE WHAT IT READS IS OF BULK AT MOST 1048576: true; the input reads as it did. -/
def pplLogsUptoRow : OpenClaim := { program := "ytohdieddocogkaadoor", sum := "92902f3dbb076ce9a8e65485b7681c2babf838064298372759145c5012d618a5", func := "ashlar/ashlarlaw07.PplLogs", spec := "pplLogs", unfollowed := true, recurses := true, named := ["ashlar/ppl.fields", "ashlar/octets.lowRests", "ashlar/octets.highRests"], apart := false, laid := [("ashlar/octets.lowRests", laid_ashlar_octets_lowRests), ("ashlar/octets.highRests", laid_ashlar_octets_highRests), ("ashlar/ppl.fields", laid_ashlar_ppl_fields)], narrowed := true }
def PplLogsUptoSaid : Prop := pplLogsUptoRow.holds Tryd.pinned (OpenSpec.upto pplLogsSpec)

/-- 'ashlarlaw07.PplCrash', WHERE WHAT IT READS IS OF BULK AT MOST 1048576: true; the input reads as it did. -/
def pplCrashUptoRow : OpenClaim := { program := "ytohdieddocogkaadoor", sum := "92902f3dbb076ce9a8e65485b7681c2babf838064298372759145c5012d618a5", func := "ashlar/ashlarlaw07.PplCrash", spec := "pplCrash", unfollowed := true, recurses := true, named := ["ashlar/ppl.fields", "ashlar/octets.lowRests", "ashlar/octets.highRests"], apart := false, laid := [("ashlar/octets.lowRests", laid_ashlar_octets_lowRests), ("ashlar/octets.highRests", laid_ashlar_octets_highRests), ("ashlar/ppl.fields", laid_ashlar_ppl_fields)], narrowed := true }
def PplCrashUptoSaid : Prop := pplCrashUptoRow.holds Tryd.pinned (OpenSpec.upto pplCrashSpec)

/-- 'ashlarlaw07.PplSure', WHERE WHAT IT READS IS OF BULK AT MOST 1048576: true; the input reads as it did. -/
def pplSureUptoRow : OpenClaim := { program := "ytohdieddocogkaadoor", sum := "92902f3dbb076ce9a8e65485b7681c2babf838064298372759145c5012d618a5", func := "ashlar/ashlarlaw07.PplSure", spec := "pplSure", unfollowed := true, recurses := true, named := ["ashlar/ppl.fields", "ashlar/octets.lowRests", "ashlar/octets.highRests"], apart := false, laid := [("ashlar/octets.lowRests", laid_ashlar_octets_lowRests), ("ashlar/octets.highRests", laid_ashlar_octets_highRests), ("ashlar/ppl.fields", laid_ashlar_ppl_fields)], narrowed := true }
def PplSureUptoSaid : Prop := pplSureUptoRow.holds Tryd.pinned (OpenSpec.upto pplSureSpec)

/-- 'ashlarlaw07.PplNobody', WHERE WHAT IT READS IS OF BULK AT MOST 1048576: true; the input reads as it did. -/
def pplNobodyUptoRow : OpenClaim := { program := "ytohdieddocogkaadoor", sum := "92902f3dbb076ce9a8e65485b7681c2babf838064298372759145c5012d618a5", func := "ashlar/ashlarlaw07.PplNobody", spec := "pplNobody", unfollowed := true, recurses := true, named := ["ashlar/octets.lowRests", "ashlar/octets.highRests", "ashlar/ppl.fields"], apart := false, laid := [("ashlar/octets.lowRests", laid_ashlar_octets_lowRests), ("ashlar/octets.highRests", laid_ashlar_octets_highRests), ("ashlar/ppl.fields", laid_ashlar_ppl_fields)], narrowed := true }
def PplNobodyUptoSaid : Prop := pplNobodyUptoRow.holds Tryd.pinned (OpenSpec.upto pplNobodySpec)

end Rows
end Go.Proofs.YtohdieddocogkaaDoor
