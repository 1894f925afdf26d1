/-
  NARROWER THAN 'FOR EVERY INPUT', by the rows' own cells (each row's printed sentence says how): SumsPlaces: laid · SumsApart: laid · SumsSum: laid · SumsCrash: laid · SumsTurned: laid · SumsMoved: laid · SumsMend: laid · SumsNobody: laid · PplCodes: laid · PplBack: laid · PplTurned: laid · PplLogs: laid · PplCrash: laid · PplSure: laid · PplNobody: laid.
  DERIVED. THE GIVEN ROWS OF THIS SEAT. 15 by the template 'for every input the law returns true; each argument reads behind the call as it read before'; 0 by the template 'total and deterministic' (their statements: YtjdjpafnakhpcaaDoorTotals.lean).
  GIVEN WITH THE SEED: the statements are not yours to turn. If you find one false, say at which input.
  Laid BY PROGRAM, IN A SANDBOX (cutbox-rows.mjs): the forced cells as the released guide's own fill.sh prints them over the translation 6f95e61999dd204b… (all of the seat's roots in one cut). By AI agents, Wed Nov 11 2026. No macro, syntax, notation, axiom, sorry.
-/
import Derived.Test.YtjdjpafnakhpcaaDoorChecked
import GoSem.Claim
import GoSem.ClaimJoined
import GoSem.ClaimMapViews
import Derived.JoinedTies
import Derived.KernelRfl
namespace Go.Proofs.YtjdjpafnakhpcaaDoor
/- THE CELL 'sum', in the pinned program and in every row, IS THE sha256 OF THE DUMP (.gsa) THAT YtjdjpafnakhpcaaDoorProg.lean LOADS. Nothing in Lean hashes anything: it is a label: what it is worth is what the hold of that sum in a sandbox is worth. -/
noncomputable def Tryd.pinned : Pinned := { name := "ytjdjpafnakhpcaadoor", sum := "6f95e61999dd204b392f8cfbccf677cdffc92fb9b339ae41aac9c9c6c30c899a", checked := Tryd.checked }
namespace Rows
def none {H : Type} : Left H := { results := [], args := [] }

/- WHAT THE LISTED PACKAGE-LEVEL VARIABLES READ AS WHEN THE CALL BEGINS. Each datum BY PROGRAM (the guide's laid-datum.mjs) off the statement by which the dump's own 'gosem.cut.vars' lays the variable. In a bare row this is a premise. The card (YtjdjpafnakhpcaaDoorCards.lean) ties it to the program's text. -/
def laid_ashlar_octets_lowRests {H : Type} : DataW H := .agg [.lit (.int .u32 0), .lit (.int .u32 4067132163), .lit (.int .u32 3778769143), .lit (.int .u32 324072436), .lit (.int .u32 3348797215), .lit (.int .u32 904991772), .lit (.int .u32 648144872), .lit (.int .u32 3570033899), .lit (.int .u32 2329499855), .lit (.int .u32 2024987596), .lit (.int .u32 1809983544), .lit (.int .u32 2575936315), .lit (.int .u32 1296289744), .lit (.int .u32 3207089363), .lit (.int .u32 2893594407), .lit (.int .u32 1578318884)]
def laid_ashlar_octets_highRests {H : Type} : DataW H := .agg [.lit (.int .u32 0), .lit (.int .u32 274646895), .lit (.int .u32 549293790), .lit (.int .u32 820201905), .lit (.int .u32 1098587580), .lit (.int .u32 1361435347), .lit (.int .u32 1640403810), .lit (.int .u32 1905808397), .lit (.int .u32 2197175160), .lit (.int .u32 2460548119), .lit (.int .u32 2722870694), .lit (.int .u32 2987750089), .lit (.int .u32 3280807620), .lit (.int .u32 3553878443), .lit (.int .u32 3811616794), .lit (.int .u32 4084100981)]
def laid_ashlar_ppl_fields {H : Type} : DataW H := .agg [.agg [.lit (.int .i64 4), .lit (.int .u64 1024)], .agg [.lit (.int .i64 8), .lit (.int .u64 15)], .agg [.lit (.int .i64 12), .lit (.int .u64 4294967296)]]

/-- 'ashlarlaw06.SumsPlaces': WHATEVER THE INPUT: true; the input reads as it did. -/
def sumsPlacesSpec : ChangeSpec := { name := "sumsPlaces", fn := fun _ => fun
  | [d1, d2] => { results := [.lit (.bool true)], args := [d1, d2] }
  | _ => none }
def sumsPlacesRow : OpenClaim := { program := "ytjdjpafnakhpcaadoor", sum := "6f95e61999dd204b392f8cfbccf677cdffc92fb9b339ae41aac9c9c6c30c899a", func := "ashlar/ashlarlaw06.SumsPlaces", spec := "sumsPlaces", unfollowed := true, recurses := true, named := ["ashlar/octets.lowRests", "ashlar/octets.highRests"], apart := false, laid := [("ashlar/octets.lowRests", laid_ashlar_octets_lowRests), ("ashlar/octets.highRests", laid_ashlar_octets_highRests)] }
def SumsPlacesSaid : Prop := sumsPlacesRow.holds Tryd.pinned (OpenSpec.ofChange sumsPlacesSpec)

/-- ITS FALSE NEIGHBOUR: 'it returns false'. Refute it at one input. -/
def sumsPlacesWrong : ChangeSpec := { name := "sumsPlaces", fn := fun _ => fun
  | [d1, d2] => { results := [.lit (.bool false)], args := [d1, d2] }
  | _ => none }
def SumsPlacesWrongFalsely : Prop := sumsPlacesRow.holds Tryd.pinned (OpenSpec.ofChange sumsPlacesWrong)

/-- 'ashlarlaw06.SumsApart': WHATEVER THE INPUT: true; the input reads as it did. -/
def sumsApartSpec : ChangeSpec := { name := "sumsApart", fn := fun _ => fun
  | [d1, d2] => { results := [.lit (.bool true)], args := [d1, d2] }
  | _ => none }
def sumsApartRow : OpenClaim := { program := "ytjdjpafnakhpcaadoor", sum := "6f95e61999dd204b392f8cfbccf677cdffc92fb9b339ae41aac9c9c6c30c899a", func := "ashlar/ashlarlaw06.SumsApart", spec := "sumsApart", unfollowed := true, recurses := true, named := ["ashlar/octets.lowRests", "ashlar/octets.highRests"], apart := false, laid := [("ashlar/octets.lowRests", laid_ashlar_octets_lowRests), ("ashlar/octets.highRests", laid_ashlar_octets_highRests)] }
def SumsApartSaid : Prop := sumsApartRow.holds Tryd.pinned (OpenSpec.ofChange sumsApartSpec)

/-- ITS FALSE NEIGHBOUR: 'it returns false'. Refute it at one input. -/
def sumsApartWrong : ChangeSpec := { name := "sumsApart", fn := fun _ => fun
  | [d1, d2] => { results := [.lit (.bool false)], args := [d1, d2] }
  | _ => none }
def SumsApartWrongFalsely : Prop := sumsApartRow.holds Tryd.pinned (OpenSpec.ofChange sumsApartWrong)

/-- 'ashlarlaw06.SumsSum': WHATEVER THE INPUT: true; the input reads as it did. -/
def sumsSumSpec : ChangeSpec := { name := "sumsSum", fn := fun _ => fun
  | [d1, d2, d3] => { results := [.lit (.bool true)], args := [d1, d2, d3] }
  | _ => none }
def sumsSumRow : OpenClaim := { program := "ytjdjpafnakhpcaadoor", sum := "6f95e61999dd204b392f8cfbccf677cdffc92fb9b339ae41aac9c9c6c30c899a", func := "ashlar/ashlarlaw06.SumsSum", spec := "sumsSum", unfollowed := true, recurses := true, named := ["ashlar/octets.lowRests", "ashlar/octets.highRests"], apart := false, laid := [("ashlar/octets.lowRests", laid_ashlar_octets_lowRests), ("ashlar/octets.highRests", laid_ashlar_octets_highRests)] }
def SumsSumSaid : Prop := sumsSumRow.holds Tryd.pinned (OpenSpec.ofChange sumsSumSpec)

/-- ITS FALSE NEIGHBOUR: 'it returns false'. Refute it at one input. -/
def sumsSumWrong : ChangeSpec := { name := "sumsSum", fn := fun _ => fun
  | [d1, d2, d3] => { results := [.lit (.bool false)], args := [d1, d2, d3] }
  | _ => none }
def SumsSumWrongFalsely : Prop := sumsSumRow.holds Tryd.pinned (OpenSpec.ofChange sumsSumWrong)

/-- 'ashlarlaw06.SumsCrash': WHATEVER THE INPUT: true; the input reads as it did. -/
def sumsCrashSpec : ChangeSpec := { name := "sumsCrash", fn := fun _ => fun
  | [d1, d2, d3] => { results := [.lit (.bool true)], args := [d1, d2, d3] }
  | _ => none }
def sumsCrashRow : OpenClaim := { program := "ytjdjpafnakhpcaadoor", sum := "6f95e61999dd204b392f8cfbccf677cdffc92fb9b339ae41aac9c9c6c30c899a", func := "ashlar/ashlarlaw06.SumsCrash", spec := "sumsCrash", unfollowed := true, recurses := true, named := ["ashlar/octets.lowRests", "ashlar/octets.highRests"], apart := false, laid := [("ashlar/octets.lowRests", laid_ashlar_octets_lowRests), ("ashlar/octets.highRests", laid_ashlar_octets_highRests)] }
def SumsCrashSaid : Prop := sumsCrashRow.holds Tryd.pinned (OpenSpec.ofChange sumsCrashSpec)

/-- ITS FALSE NEIGHBOUR: 'it returns false'. Refute it at one input. -/
def sumsCrashWrong : ChangeSpec := { name := "sumsCrash", fn := fun _ => fun
  | [d1, d2, d3] => { results := [.lit (.bool false)], args := [d1, d2, d3] }
  | _ => none }
def SumsCrashWrongFalsely : Prop := sumsCrashRow.holds Tryd.pinned (OpenSpec.ofChange sumsCrashWrong)

/-- 'ashlarlaw06.SumsTurned': WHATEVER THE INPUT: true; the input reads as it did. -/
def sumsTurnedSpec : ChangeSpec := { name := "sumsTurned", fn := fun _ => fun
  | [d1, d2, d3, d4, d5] => { results := [.lit (.bool true)], args := [d1, d2, d3, d4, d5] }
  | _ => none }
def sumsTurnedRow : OpenClaim := { program := "ytjdjpafnakhpcaadoor", sum := "6f95e61999dd204b392f8cfbccf677cdffc92fb9b339ae41aac9c9c6c30c899a", func := "ashlar/ashlarlaw06.SumsTurned", spec := "sumsTurned", unfollowed := true, recurses := true, named := ["ashlar/octets.lowRests", "ashlar/octets.highRests"], apart := false, laid := [("ashlar/octets.lowRests", laid_ashlar_octets_lowRests), ("ashlar/octets.highRests", laid_ashlar_octets_highRests)] }
def SumsTurnedSaid : Prop := sumsTurnedRow.holds Tryd.pinned (OpenSpec.ofChange sumsTurnedSpec)

/-- ITS FALSE NEIGHBOUR: 'it returns false'. Refute it at one input. -/
def sumsTurnedWrong : ChangeSpec := { name := "sumsTurned", fn := fun _ => fun
  | [d1, d2, d3, d4, d5] => { results := [.lit (.bool false)], args := [d1, d2, d3, d4, d5] }
  | _ => none }
def SumsTurnedWrongFalsely : Prop := sumsTurnedRow.holds Tryd.pinned (OpenSpec.ofChange sumsTurnedWrong)

/-- 'ashlarlaw06.SumsMoved': WHATEVER THE INPUT: true; the input reads as it did. -/
def sumsMovedSpec : ChangeSpec := { name := "sumsMoved", fn := fun _ => fun
  | [d1, d2, d3, d4, d5] => { results := [.lit (.bool true)], args := [d1, d2, d3, d4, d5] }
  | _ => none }
def sumsMovedRow : OpenClaim := { program := "ytjdjpafnakhpcaadoor", sum := "6f95e61999dd204b392f8cfbccf677cdffc92fb9b339ae41aac9c9c6c30c899a", func := "ashlar/ashlarlaw06.SumsMoved", spec := "sumsMoved", unfollowed := true, recurses := true, named := ["ashlar/octets.lowRests", "ashlar/octets.highRests"], apart := false, laid := [("ashlar/octets.lowRests", laid_ashlar_octets_lowRests), ("ashlar/octets.highRests", laid_ashlar_octets_highRests)] }
def SumsMovedSaid : Prop := sumsMovedRow.holds Tryd.pinned (OpenSpec.ofChange sumsMovedSpec)

/-- ITS FALSE NEIGHBOUR: 'it returns false'. Refute it at one input. -/
def sumsMovedWrong : ChangeSpec := { name := "sumsMoved", fn := fun _ => fun
  | [d1, d2, d3, d4, d5] => { results := [.lit (.bool false)], args := [d1, d2, d3, d4, d5] }
  | _ => none }
def SumsMovedWrongFalsely : Prop := sumsMovedRow.holds Tryd.pinned (OpenSpec.ofChange sumsMovedWrong)

/-- 'ashlarlaw06.SumsMend': WHATEVER THE INPUT: true; the input reads as it did. -/
def sumsMendSpec : ChangeSpec := { name := "sumsMend", fn := fun _ => fun
  | [d1, d2, d3, d4, d5] => { results := [.lit (.bool true)], args := [d1, d2, d3, d4, d5] }
  | _ => none }
def sumsMendRow : OpenClaim := { program := "ytjdjpafnakhpcaadoor", sum := "6f95e61999dd204b392f8cfbccf677cdffc92fb9b339ae41aac9c9c6c30c899a", func := "ashlar/ashlarlaw06.SumsMend", spec := "sumsMend", unfollowed := true, recurses := true, named := ["ashlar/octets.lowRests", "ashlar/octets.highRests"], apart := false, laid := [("ashlar/octets.lowRests", laid_ashlar_octets_lowRests), ("ashlar/octets.highRests", laid_ashlar_octets_highRests)] }
def SumsMendSaid : Prop := sumsMendRow.holds Tryd.pinned (OpenSpec.ofChange sumsMendSpec)

/-- ITS FALSE NEIGHBOUR: 'it returns false'. Refute it at one input. -/
def sumsMendWrong : ChangeSpec := { name := "sumsMend", fn := fun _ => fun
  | [d1, d2, d3, d4, d5] => { results := [.lit (.bool false)], args := [d1, d2, d3, d4, d5] }
  | _ => none }
def SumsMendWrongFalsely : Prop := sumsMendRow.holds Tryd.pinned (OpenSpec.ofChange sumsMendWrong)

/-- 'ashlarlaw06.SumsNobody': WHATEVER THE INPUT: true; the input reads as it did. -/
def sumsNobodySpec : ChangeSpec := { name := "sumsNobody", fn := fun _ => fun
  | [d1, d2, d3] => { results := [.lit (.bool true)], args := [d1, d2, d3] }
  | _ => none }
def sumsNobodyRow : OpenClaim := { program := "ytjdjpafnakhpcaadoor", sum := "6f95e61999dd204b392f8cfbccf677cdffc92fb9b339ae41aac9c9c6c30c899a", func := "ashlar/ashlarlaw06.SumsNobody", spec := "sumsNobody", unfollowed := true, recurses := true, named := ["ashlar/octets.lowRests", "ashlar/octets.highRests"], apart := false, laid := [("ashlar/octets.lowRests", laid_ashlar_octets_lowRests), ("ashlar/octets.highRests", laid_ashlar_octets_highRests)] }
def SumsNobodySaid : Prop := sumsNobodyRow.holds Tryd.pinned (OpenSpec.ofChange sumsNobodySpec)

/-- ITS FALSE NEIGHBOUR: 'it returns false'. Refute it at one input. -/
def sumsNobodyWrong : ChangeSpec := { name := "sumsNobody", fn := fun _ => fun
  | [d1, d2, d3] => { results := [.lit (.bool false)], args := [d1, d2, d3] }
  | _ => none }
def SumsNobodyWrongFalsely : Prop := sumsNobodyRow.holds Tryd.pinned (OpenSpec.ofChange sumsNobodyWrong)

/-- 'ashlarlaw07.PplCodes': WHATEVER THE INPUT: true; the input reads as it did. -/
def pplCodesSpec : ChangeSpec := { name := "pplCodes", fn := fun _ => fun
  | [d1, d2, d3] => { results := [.lit (.bool true)], args := [d1, d2, d3] }
  | _ => none }
def pplCodesRow : OpenClaim := { program := "ytjdjpafnakhpcaadoor", sum := "6f95e61999dd204b392f8cfbccf677cdffc92fb9b339ae41aac9c9c6c30c899a", func := "ashlar/ashlarlaw07.PplCodes", spec := "pplCodes", unfollowed := true, recurses := true, named := ["ashlar/ppl.fields", "ashlar/octets.lowRests", "ashlar/octets.highRests"], apart := false, laid := [("ashlar/octets.lowRests", laid_ashlar_octets_lowRests), ("ashlar/octets.highRests", laid_ashlar_octets_highRests), ("ashlar/ppl.fields", laid_ashlar_ppl_fields)] }
def PplCodesSaid : Prop := pplCodesRow.holds Tryd.pinned (OpenSpec.ofChange pplCodesSpec)

/-- ITS FALSE NEIGHBOUR: 'it returns false'. Refute it at one input. -/
def pplCodesWrong : ChangeSpec := { name := "pplCodes", fn := fun _ => fun
  | [d1, d2, d3] => { results := [.lit (.bool false)], args := [d1, d2, d3] }
  | _ => none }
def PplCodesWrongFalsely : Prop := pplCodesRow.holds Tryd.pinned (OpenSpec.ofChange pplCodesWrong)

/-- 'ashlarlaw07.PplBack': WHATEVER THE INPUT: true; the input reads as it did. -/
def pplBackSpec : ChangeSpec := { name := "pplBack", fn := fun _ => fun
  | [d] => { results := [.lit (.bool true)], args := [d] }
  | _ => none }
def pplBackRow : OpenClaim := { program := "ytjdjpafnakhpcaadoor", sum := "6f95e61999dd204b392f8cfbccf677cdffc92fb9b339ae41aac9c9c6c30c899a", func := "ashlar/ashlarlaw07.PplBack", spec := "pplBack", unfollowed := true, recurses := true, named := ["ashlar/ppl.fields", "ashlar/octets.lowRests", "ashlar/octets.highRests"], apart := false, laid := [("ashlar/octets.lowRests", laid_ashlar_octets_lowRests), ("ashlar/octets.highRests", laid_ashlar_octets_highRests), ("ashlar/ppl.fields", laid_ashlar_ppl_fields)] }
def PplBackSaid : Prop := pplBackRow.holds Tryd.pinned (OpenSpec.ofChange pplBackSpec)

/-- ITS FALSE NEIGHBOUR: 'it returns false'. Refute it at one input. -/
def pplBackWrong : ChangeSpec := { name := "pplBack", fn := fun _ => fun
  | [d] => { results := [.lit (.bool false)], args := [d] }
  | _ => none }
def PplBackWrongFalsely : Prop := pplBackRow.holds Tryd.pinned (OpenSpec.ofChange pplBackWrong)

/-- 'ashlarlaw07.PplTurned': WHATEVER THE INPUT: true; the input reads as it did. -/
def pplTurnedSpec : ChangeSpec := { name := "pplTurned", fn := fun _ => fun
  | [d1, d2, d3] => { results := [.lit (.bool true)], args := [d1, d2, d3] }
  | _ => none }
def pplTurnedRow : OpenClaim := { program := "ytjdjpafnakhpcaadoor", sum := "6f95e61999dd204b392f8cfbccf677cdffc92fb9b339ae41aac9c9c6c30c899a", func := "ashlar/ashlarlaw07.PplTurned", spec := "pplTurned", unfollowed := true, recurses := true, named := ["ashlar/ppl.fields", "ashlar/octets.lowRests", "ashlar/octets.highRests"], apart := false, laid := [("ashlar/octets.lowRests", laid_ashlar_octets_lowRests), ("ashlar/octets.highRests", laid_ashlar_octets_highRests), ("ashlar/ppl.fields", laid_ashlar_ppl_fields)] }
def PplTurnedSaid : Prop := pplTurnedRow.holds Tryd.pinned (OpenSpec.ofChange pplTurnedSpec)

/-- ITS FALSE NEIGHBOUR: 'it returns false'. Refute it at one input. -/
def pplTurnedWrong : ChangeSpec := { name := "pplTurned", fn := fun _ => fun
  | [d1, d2, d3] => { results := [.lit (.bool false)], args := [d1, d2, d3] }
  | _ => none }
def PplTurnedWrongFalsely : Prop := pplTurnedRow.holds Tryd.pinned (OpenSpec.ofChange pplTurnedWrong)

/-- 'ashlarlaw07.PplLogs': WHATEVER THE INPUT: true; the input reads as it did. -/
def pplLogsSpec : ChangeSpec := { name := "pplLogs", fn := fun _ => fun
  | [d1, d2] => { results := [.lit (.bool true)], args := [d1, d2] }
  | _ => none }
def pplLogsRow : OpenClaim := { program := "ytjdjpafnakhpcaadoor", sum := "6f95e61999dd204b392f8cfbccf677cdffc92fb9b339ae41aac9c9c6c30c899a", func := "ashlar/ashlarlaw07.PplLogs", spec := "pplLogs", unfollowed := true, recurses := true, named := ["ashlar/ppl.fields", "ashlar/octets.lowRests", "ashlar/octets.highRests"], apart := false, laid := [("ashlar/octets.lowRests", laid_ashlar_octets_lowRests), ("ashlar/octets.highRests", laid_ashlar_octets_highRests), ("ashlar/ppl.fields", laid_ashlar_ppl_fields)] }
def PplLogsSaid : Prop := pplLogsRow.holds Tryd.pinned (OpenSpec.ofChange pplLogsSpec)

/-- ITS FALSE NEIGHBOUR: 'it returns false'. Refute it at one input. -/
def pplLogsWrong : ChangeSpec := { name := "pplLogs", fn := fun _ => fun
  | [d1, d2] => { results := [.lit (.bool false)], args := [d1, d2] }
  | _ => none }
def PplLogsWrongFalsely : Prop := pplLogsRow.holds Tryd.pinned (OpenSpec.ofChange pplLogsWrong)

/-- 'ashlarlaw07.PplCrash': WHATEVER THE INPUT: true; the input reads as it did. -/
def pplCrashSpec : ChangeSpec := { name := "pplCrash", fn := fun _ => fun
  | [d1, d2, d3] => { results := [.lit (.bool true)], args := [d1, d2, d3] }
  | _ => none }
def pplCrashRow : OpenClaim := { program := "ytjdjpafnakhpcaadoor", sum := "6f95e61999dd204b392f8cfbccf677cdffc92fb9b339ae41aac9c9c6c30c899a", func := "ashlar/ashlarlaw07.PplCrash", spec := "pplCrash", unfollowed := true, recurses := true, named := ["ashlar/ppl.fields", "ashlar/octets.lowRests", "ashlar/octets.highRests"], apart := false, laid := [("ashlar/octets.lowRests", laid_ashlar_octets_lowRests), ("ashlar/octets.highRests", laid_ashlar_octets_highRests), ("ashlar/ppl.fields", laid_ashlar_ppl_fields)] }
def PplCrashSaid : Prop := pplCrashRow.holds Tryd.pinned (OpenSpec.ofChange pplCrashSpec)

/-- ITS FALSE NEIGHBOUR: 'it returns false'. Refute it at one input. -/
def pplCrashWrong : ChangeSpec := { name := "pplCrash", fn := fun _ => fun
  | [d1, d2, d3] => { results := [.lit (.bool false)], args := [d1, d2, d3] }
  | _ => none }
def PplCrashWrongFalsely : Prop := pplCrashRow.holds Tryd.pinned (OpenSpec.ofChange pplCrashWrong)

/-- 'ashlarlaw07.PplSure': WHATEVER THE INPUT: true; the input reads as it did. -/
def pplSureSpec : ChangeSpec := { name := "pplSure", fn := fun _ => fun
  | [d1, d2, d3, d4] => { results := [.lit (.bool true)], args := [d1, d2, d3, d4] }
  | _ => none }
def pplSureRow : OpenClaim := { program := "ytjdjpafnakhpcaadoor", sum := "6f95e61999dd204b392f8cfbccf677cdffc92fb9b339ae41aac9c9c6c30c899a", func := "ashlar/ashlarlaw07.PplSure", spec := "pplSure", unfollowed := true, recurses := true, named := ["ashlar/ppl.fields", "ashlar/octets.lowRests", "ashlar/octets.highRests"], apart := false, laid := [("ashlar/octets.lowRests", laid_ashlar_octets_lowRests), ("ashlar/octets.highRests", laid_ashlar_octets_highRests), ("ashlar/ppl.fields", laid_ashlar_ppl_fields)] }
def PplSureSaid : Prop := pplSureRow.holds Tryd.pinned (OpenSpec.ofChange pplSureSpec)

/-- ITS FALSE NEIGHBOUR: 'it returns false'. Refute it at one input. -/
def pplSureWrong : ChangeSpec := { name := "pplSure", fn := fun _ => fun
  | [d1, d2, d3, d4] => { results := [.lit (.bool false)], args := [d1, d2, d3, d4] }
  | _ => none }
def PplSureWrongFalsely : Prop := pplSureRow.holds Tryd.pinned (OpenSpec.ofChange pplSureWrong)

/-- 'ashlarlaw07.PplNobody': WHATEVER THE INPUT: true; the input reads as it did. -/
def pplNobodySpec : ChangeSpec := { name := "pplNobody", fn := fun _ => fun
  | [d1, d2, d3, d4] => { results := [.lit (.bool true)], args := [d1, d2, d3, d4] }
  | _ => none }
def pplNobodyRow : OpenClaim := { program := "ytjdjpafnakhpcaadoor", sum := "6f95e61999dd204b392f8cfbccf677cdffc92fb9b339ae41aac9c9c6c30c899a", func := "ashlar/ashlarlaw07.PplNobody", spec := "pplNobody", unfollowed := true, recurses := true, named := ["ashlar/octets.lowRests", "ashlar/octets.highRests", "ashlar/ppl.fields"], apart := false, laid := [("ashlar/octets.lowRests", laid_ashlar_octets_lowRests), ("ashlar/octets.highRests", laid_ashlar_octets_highRests), ("ashlar/ppl.fields", laid_ashlar_ppl_fields)] }
def PplNobodySaid : Prop := pplNobodyRow.holds Tryd.pinned (OpenSpec.ofChange pplNobodySpec)

/-- ITS FALSE NEIGHBOUR: 'it returns false'. Refute it at one input. -/
def pplNobodyWrong : ChangeSpec := { name := "pplNobody", fn := fun _ => fun
  | [d1, d2, d3, d4] => { results := [.lit (.bool false)], args := [d1, d2, d3, d4] }
  | _ => none }
def PplNobodyWrongFalsely : Prop := pplNobodyRow.holds Tryd.pinned (OpenSpec.ofChange pplNobodyWrong)

/- THE SECOND FORM. 'bulk': how many values and letters a reading holds, each counted each time it is reached (what is shared counts as often as it is met; a slice's spare places count too). A statement '..UptoSaid' is the law's where the arguments, and the package variables that the reading takes, are together of bulk at most 1048576: NARROWER than '..Said'. Prove '..Said' where nothing that the law and all that it calls make is longer than what came in: it says more and counts as full. Else prove '..UptoSaid'. A law counts once. -/
mutual
def uptoBulk {H : Type} : DataW H → Nat
  | .lit (.string bytes) => bytes.length + 1
  | .lit _ => 1
  | .nil => 1
  | .ptr d => uptoBulk d + 1
  | .slice elems spare => uptoBulkAll elems + uptoBulkAll spare + 1
  | .agg parts => uptoBulkAll parts + 1
  | .iface _ d => uptoBulk d + 1
  | .map entries => uptoBulkEntries entries + 1
  | .held _ => 1
def uptoBulkAll {H : Type} : List (DataW H) → Nat
  | [] => 0
  | d :: r => uptoBulk d + uptoBulkAll r
def uptoBulkEntries {H : Type} : List (Lit × DataW H) → Nat
  | [] => 0
  | x :: r => uptoBulkEntry x + uptoBulkEntries r
def uptoBulkEntry {H : Type} : Lit × DataW H → Nat
  | (.string bytes, d) => bytes.length + uptoBulk d + 1
  | (_, d) => uptoBulk d + 1
 end
def uptoSmall : (H : Type) → List (DataW H) → Bool := fun _ ds => decide (uptoBulkAll ds ≤ 1048576)
def OpenSpec.upto (s : _root_.Go.ChangeSpec) : _root_.Go.OpenSpec := { _root_.Go.OpenSpec.ofChange s with cond := some uptoSmall }

/-- 'ashlarlaw06.SumsPlaces', WHERE WHAT IT READS IS OF BULK AT MOST 1048576: true; the input reads as it did. -/
def sumsPlacesUptoRow : OpenClaim := { program := "ytjdjpafnakhpcaadoor", sum := "6f95e61999dd204b392f8cfbccf677cdffc92fb9b339ae41aac9c9c6c30c899a", func := "ashlar/ashlarlaw06.SumsPlaces", spec := "sumsPlaces", unfollowed := true, recurses := true, named := ["ashlar/octets.lowRests", "ashlar/octets.highRests"], apart := false, laid := [("ashlar/octets.lowRests", laid_ashlar_octets_lowRests), ("ashlar/octets.highRests", laid_ashlar_octets_highRests)], narrowed := true }
def SumsPlacesUptoSaid : Prop := sumsPlacesUptoRow.holds Tryd.pinned (OpenSpec.upto sumsPlacesSpec)

/-- 'ashlarlaw06.SumsApart', WHERE WHAT IT READS IS OF BULK AT MOST 1048576: true; the input reads as it did. -/
def sumsApartUptoRow : OpenClaim := { program := "ytjdjpafnakhpcaadoor", sum := "6f95e61999dd204b392f8cfbccf677cdffc92fb9b339ae41aac9c9c6c30c899a", func := "ashlar/ashlarlaw06.SumsApart", spec := "sumsApart", unfollowed := true, recurses := true, named := ["ashlar/octets.lowRests", "ashlar/octets.highRests"], apart := false, laid := [("ashlar/octets.lowRests", laid_ashlar_octets_lowRests), ("ashlar/octets.highRests", laid_ashlar_octets_highRests)], narrowed := true }
def SumsApartUptoSaid : Prop := sumsApartUptoRow.holds Tryd.pinned (OpenSpec.upto sumsApartSpec)

/-- 'ashlarlaw06.SumsSum', WHERE WHAT IT READS IS OF BULK AT MOST 1048576: true; the input reads as it did. -/
def sumsSumUptoRow : OpenClaim := { program := "ytjdjpafnakhpcaadoor", sum := "6f95e61999dd204b392f8cfbccf677cdffc92fb9b339ae41aac9c9c6c30c899a", func := "ashlar/ashlarlaw06.SumsSum", spec := "sumsSum", unfollowed := true, recurses := true, named := ["ashlar/octets.lowRests", "ashlar/octets.highRests"], apart := false, laid := [("ashlar/octets.lowRests", laid_ashlar_octets_lowRests), ("ashlar/octets.highRests", laid_ashlar_octets_highRests)], narrowed := true }
def SumsSumUptoSaid : Prop := sumsSumUptoRow.holds Tryd.pinned (OpenSpec.upto sumsSumSpec)

/-- 'ashlarlaw06.SumsCrash', WHERE WHAT IT READS IS OF BULK AT MOST 1048576: true; the input reads as it did. -/
def sumsCrashUptoRow : OpenClaim := { program := "ytjdjpafnakhpcaadoor", sum := "6f95e61999dd204b392f8cfbccf677cdffc92fb9b339ae41aac9c9c6c30c899a", func := "ashlar/ashlarlaw06.SumsCrash", spec := "sumsCrash", unfollowed := true, recurses := true, named := ["ashlar/octets.lowRests", "ashlar/octets.highRests"], apart := false, laid := [("ashlar/octets.lowRests", laid_ashlar_octets_lowRests), ("ashlar/octets.highRests", laid_ashlar_octets_highRests)], narrowed := true }
def SumsCrashUptoSaid : Prop := sumsCrashUptoRow.holds Tryd.pinned (OpenSpec.upto sumsCrashSpec)

/-- 'ashlarlaw06.SumsTurned', WHERE WHAT IT READS IS OF BULK AT MOST 1048576: true; the input reads as it did. -/
def sumsTurnedUptoRow : OpenClaim := { program := "ytjdjpafnakhpcaadoor", sum := "6f95e61999dd204b392f8cfbccf677cdffc92fb9b339ae41aac9c9c6c30c899a", func := "ashlar/ashlarlaw06.SumsTurned", spec := "sumsTurned", unfollowed := true, recurses := true, named := ["ashlar/octets.lowRests", "ashlar/octets.highRests"], apart := false, laid := [("ashlar/octets.lowRests", laid_ashlar_octets_lowRests), ("ashlar/octets.highRests", laid_ashlar_octets_highRests)], narrowed := true }
def SumsTurnedUptoSaid : Prop := sumsTurnedUptoRow.holds Tryd.pinned (OpenSpec.upto sumsTurnedSpec)

/-- 'ashlarlaw06.SumsMoved', WHERE WHAT IT READS IS OF BULK AT MOST 1048576: true; the input reads as it did. -/
def sumsMovedUptoRow : OpenClaim := { program := "ytjdjpafnakhpcaadoor", sum := "6f95e61999dd204b392f8cfbccf677cdffc92fb9b339ae41aac9c9c6c30c899a", func := "ashlar/ashlarlaw06.SumsMoved", spec := "sumsMoved", unfollowed := true, recurses := true, named := ["ashlar/octets.lowRests", "ashlar/octets.highRests"], apart := false, laid := [("ashlar/octets.lowRests", laid_ashlar_octets_lowRests), ("ashlar/octets.highRests", laid_ashlar_octets_highRests)], narrowed := true }
def SumsMovedUptoSaid : Prop := sumsMovedUptoRow.holds Tryd.pinned (OpenSpec.upto sumsMovedSpec)

/-- 'ashlarlaw06.SumsMend', WHERE WHAT IT READS IS OF BULK AT MOST 1048576: true; the input reads as it did. -/
def sumsMendUptoRow : OpenClaim := { program := "ytjdjpafnakhpcaadoor", sum := "6f95e61999dd204b392f8cfbccf677cdffc92fb9b339ae41aac9c9c6c30c899a", func := "ashlar/ashlarlaw06.SumsMend", spec := "sumsMend", unfollowed := true, recurses := true, named := ["ashlar/octets.lowRests", "ashlar/octets.highRests"], apart := false, laid := [("ashlar/octets.lowRests", laid_ashlar_octets_lowRests), ("ashlar/octets.highRests", laid_ashlar_octets_highRests)], narrowed := true }
def SumsMendUptoSaid : Prop := sumsMendUptoRow.holds Tryd.pinned (OpenSpec.upto sumsMendSpec)

/-- 'ashlarlaw06.SumsNobody', WHERE WHAT IT READS IS OF BULK AT MOST 1048576: true; the input reads as it did. -/
def sumsNobodyUptoRow : OpenClaim := { program := "ytjdjpafnakhpcaadoor", sum := "6f95e61999dd204b392f8cfbccf677cdffc92fb9b339ae41aac9c9c6c30c899a", func := "ashlar/ashlarlaw06.SumsNobody", spec := "sumsNobody", unfollowed := true, recurses := true, named := ["ashlar/octets.lowRests", "ashlar/octets.highRests"], apart := false, laid := [("ashlar/octets.lowRests", laid_ashlar_octets_lowRests), ("ashlar/octets.highRests", laid_ashlar_octets_highRests)], narrowed := true }
def SumsNobodyUptoSaid : Prop := sumsNobodyUptoRow.holds Tryd.pinned (OpenSpec.upto sumsNobodySpec)

/-- 'ashlarlaw07.PplCodes', WHERE WHAT IT READS IS OF BULK AT MOST 1048576: true; the input reads as it did. -/
def pplCodesUptoRow : OpenClaim := { program := "ytjdjpafnakhpcaadoor", sum := "6f95e61999dd204b392f8cfbccf677cdffc92fb9b339ae41aac9c9c6c30c899a", func := "ashlar/ashlarlaw07.PplCodes", spec := "pplCodes", unfollowed := true, recurses := true, named := ["ashlar/ppl.fields", "ashlar/octets.lowRests", "ashlar/octets.highRests"], apart := false, laid := [("ashlar/octets.lowRests", laid_ashlar_octets_lowRests), ("ashlar/octets.highRests", laid_ashlar_octets_highRests), ("ashlar/ppl.fields", laid_ashlar_ppl_fields)], narrowed := true }
def PplCodesUptoSaid : Prop := pplCodesUptoRow.holds Tryd.pinned (OpenSpec.upto pplCodesSpec)

/-- 'ashlarlaw07.PplBack', WHERE WHAT IT READS IS OF BULK AT MOST 1048576: true; the input reads as it did. -/
def pplBackUptoRow : OpenClaim := { program := "ytjdjpafnakhpcaadoor", sum := "6f95e61999dd204b392f8cfbccf677cdffc92fb9b339ae41aac9c9c6c30c899a", func := "ashlar/ashlarlaw07.PplBack", spec := "pplBack", unfollowed := true, recurses := true, named := ["ashlar/ppl.fields", "ashlar/octets.lowRests", "ashlar/octets.highRests"], apart := false, laid := [("ashlar/octets.lowRests", laid_ashlar_octets_lowRests), ("ashlar/octets.highRests", laid_ashlar_octets_highRests), ("ashlar/ppl.fields", laid_ashlar_ppl_fields)], narrowed := true }
def PplBackUptoSaid : Prop := pplBackUptoRow.holds Tryd.pinned (OpenSpec.upto pplBackSpec)

/-- 'ashlarlaw07.PplTurned', WHERE WHAT IT READS IS OF BULK AT MOST 1048576: true; the input reads as it did. -/
def pplTurnedUptoRow : OpenClaim := { program := "ytjdjpafnakhpcaadoor", sum := "6f95e61999dd204b392f8cfbccf677cdffc92fb9b339ae41aac9c9c6c30c899a", func := "ashlar/ashlarlaw07.PplTurned", spec := "pplTurned", unfollowed := true, recurses := true, named := ["ashlar/ppl.fields", "ashlar/octets.lowRests", "ashlar/octets.highRests"], apart := false, laid := [("ashlar/octets.lowRests", laid_ashlar_octets_lowRests), ("ashlar/octets.highRests", laid_ashlar_octets_highRests), ("ashlar/ppl.fields", laid_ashlar_ppl_fields)], narrowed := true }
def PplTurnedUptoSaid : Prop := pplTurnedUptoRow.holds Tryd.pinned (OpenSpec.upto pplTurnedSpec)

/-- 'ashlarlaw07.PplLogs', WHERE WHAT IT READS IS OF BULK AT MOST 1048576: true; the input reads as it did. -/
def pplLogsUptoRow : OpenClaim := { program := "ytjdjpafnakhpcaadoor", sum := "6f95e61999dd204b392f8cfbccf677cdffc92fb9b339ae41aac9c9c6c30c899a", func := "ashlar/ashlarlaw07.PplLogs", spec := "pplLogs", unfollowed := true, recurses := true, named := ["ashlar/ppl.fields", "ashlar/octets.lowRests", "ashlar/octets.highRests"], apart := false, laid := [("ashlar/octets.lowRests", laid_ashlar_octets_lowRests), ("ashlar/octets.highRests", laid_ashlar_octets_highRests), ("ashlar/ppl.fields", laid_ashlar_ppl_fields)], narrowed := true }
def PplLogsUptoSaid : Prop := pplLogsUptoRow.holds Tryd.pinned (OpenSpec.upto pplLogsSpec)

/-- 'ashlarlaw07.PplCrash', WHERE WHAT IT READS IS OF BULK AT MOST 1048576: true; the input reads as it did. -/
def pplCrashUptoRow : OpenClaim := { program := "ytjdjpafnakhpcaadoor", sum := "6f95e61999dd204b392f8cfbccf677cdffc92fb9b339ae41aac9c9c6c30c899a", func := "ashlar/ashlarlaw07.PplCrash", spec := "pplCrash", unfollowed := true, recurses := true, named := ["ashlar/ppl.fields", "ashlar/octets.lowRests", "ashlar/octets.highRests"], apart := false, laid := [("ashlar/octets.lowRests", laid_ashlar_octets_lowRests), ("ashlar/octets.highRests", laid_ashlar_octets_highRests), ("ashlar/ppl.fields", laid_ashlar_ppl_fields)], narrowed := true }
def PplCrashUptoSaid : Prop := pplCrashUptoRow.holds Tryd.pinned (OpenSpec.upto pplCrashSpec)

/-- 'ashlarlaw07.PplSure', WHERE WHAT IT READS IS OF BULK AT MOST 1048576: true; the input reads as it did. -/
def pplSureUptoRow : OpenClaim := { program := "ytjdjpafnakhpcaadoor", sum := "6f95e61999dd204b392f8cfbccf677cdffc92fb9b339ae41aac9c9c6c30c899a", func := "ashlar/ashlarlaw07.PplSure", spec := "pplSure", unfollowed := true, recurses := true, named := ["ashlar/ppl.fields", "ashlar/octets.lowRests", "ashlar/octets.highRests"], apart := false, laid := [("ashlar/octets.lowRests", laid_ashlar_octets_lowRests), ("ashlar/octets.highRests", laid_ashlar_octets_highRests), ("ashlar/ppl.fields", laid_ashlar_ppl_fields)], narrowed := true }
def PplSureUptoSaid : Prop := pplSureUptoRow.holds Tryd.pinned (OpenSpec.upto pplSureSpec)

/-- 'ashlarlaw07.PplNobody', WHERE WHAT IT READS IS OF BULK AT MOST 1048576: true; the input reads as it did. -/
def pplNobodyUptoRow : OpenClaim := { program := "ytjdjpafnakhpcaadoor", sum := "6f95e61999dd204b392f8cfbccf677cdffc92fb9b339ae41aac9c9c6c30c899a", func := "ashlar/ashlarlaw07.PplNobody", spec := "pplNobody", unfollowed := true, recurses := true, named := ["ashlar/octets.lowRests", "ashlar/octets.highRests", "ashlar/ppl.fields"], apart := false, laid := [("ashlar/octets.lowRests", laid_ashlar_octets_lowRests), ("ashlar/octets.highRests", laid_ashlar_octets_highRests), ("ashlar/ppl.fields", laid_ashlar_ppl_fields)], narrowed := true }
def PplNobodyUptoSaid : Prop := pplNobodyUptoRow.holds Tryd.pinned (OpenSpec.upto pplNobodySpec)

end Rows
end Go.Proofs.YtjdjpafnakhpcaaDoor
