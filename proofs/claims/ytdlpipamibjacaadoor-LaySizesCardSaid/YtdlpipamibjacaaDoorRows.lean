/-
  NARROWER THAN 'FOR EVERY INPUT', by the rows' own cells (each row's printed sentence says how): LayMaps: laid · LayBacks: laid · LaySizes: laid · LayThere: laid · LayEach: laid · LayTurns: laid · LayNext: laid · SuperCodes: laid · SuperBack: laid · SuperOnly: laid · SuperTurned: laid · SuperNewest: laid.
  DERIVED. THE GIVEN ROWS OF THIS SEAT. 12 by the template 'for every input the law returns true; each argument reads behind the call as it read before'; 0 by the template 'total and deterministic' (their statements: YtdlpipamibjacaaDoorTotals.lean).
  GIVEN WITH THE SEED: the statements are not yours to turn. If you find one false, say at which input.
  Laid BY PROGRAM, IN A SANDBOX (cutbox-rows.mjs): the forced cells as the released guide's own fill.sh prints them over the translation 2c0d9c5bb2dbf1ec… (all of the seat's roots in one cut). By AI agents, Wed Nov 11 2026. No macro, syntax, notation, axiom, sorry.
-/
import Derived.Test.YtdlpipamibjacaaDoorChecked
import GoSem.Claim
import GoSem.ClaimJoined
import GoSem.ClaimMapViews
import Derived.JoinedTies
import Derived.KernelRfl
namespace Go.Proofs.YtdlpipamibjacaaDoor
/- THE CELL 'sum', in the pinned program and in every row, IS THE sha256 OF THE DUMP (.gsa) THAT YtdlpipamibjacaaDoorProg.lean LOADS. Nothing in Lean hashes anything: it is a label: what it is worth is what the hold of that sum in a sandbox is worth. -/
noncomputable def Tryd.pinned : Pinned := { name := "ytdlpipamibjacaadoor", sum := "2c0d9c5bb2dbf1ec3b15ddf8208f8eb3df7834bdef5ca749df9d49bc6f52c7c5", checked := Tryd.checked }
namespace Rows
def none {H : Type} : Left H := { results := [], args := [] }

/- WHAT THE LISTED PACKAGE-LEVEL VARIABLES READ AS WHEN THE CALL BEGINS. Each datum BY PROGRAM (the guide's laid-datum.mjs) off the statement by which the dump's own 'gosem.cut.vars' lays the variable. In a bare row this is a premise. The card (YtdlpipamibjacaaDoorCards.lean) ties it to the program's text. -/
def laid_ashlar_lay_places {H : Type} : DataW H := .agg [.lit (.int .i64 (-1)), .lit (.int .i64 0), .lit (.int .i64 1), .lit (.int .i64 2), .lit (.int .i64 3), .lit (.int .i64 4), .lit (.int .i64 5), .lit (.int .i64 6), .lit (.int .i64 7), .lit (.int .i64 8), .lit (.int .i64 9), .lit (.int .i64 10), .lit (.int .i64 11), .lit (.int .i64 12), .lit (.int .i64 13), .lit (.int .i64 14)]
def laid_ashlar_octets_lowRests {H : Type} : DataW H := .agg [.lit (.int .u32 0), .lit (.int .u32 4067132163), .lit (.int .u32 3778769143), .lit (.int .u32 324072436), .lit (.int .u32 3348797215), .lit (.int .u32 904991772), .lit (.int .u32 648144872), .lit (.int .u32 3570033899), .lit (.int .u32 2329499855), .lit (.int .u32 2024987596), .lit (.int .u32 1809983544), .lit (.int .u32 2575936315), .lit (.int .u32 1296289744), .lit (.int .u32 3207089363), .lit (.int .u32 2893594407), .lit (.int .u32 1578318884)]
def laid_ashlar_octets_highRests {H : Type} : DataW H := .agg [.lit (.int .u32 0), .lit (.int .u32 274646895), .lit (.int .u32 549293790), .lit (.int .u32 820201905), .lit (.int .u32 1098587580), .lit (.int .u32 1361435347), .lit (.int .u32 1640403810), .lit (.int .u32 1905808397), .lit (.int .u32 2197175160), .lit (.int .u32 2460548119), .lit (.int .u32 2722870694), .lit (.int .u32 2987750089), .lit (.int .u32 3280807620), .lit (.int .u32 3553878443), .lit (.int .u32 3811616794), .lit (.int .u32 4084100981)]
def laid_ashlar_super_widths {H : Type} : DataW H := .agg [.lit (.int .i64 8), .lit (.int .i64 1), .lit (.int .i64 1), .lit (.int .i64 1), .lit (.int .i64 1), .lit (.int .i64 4), .lit (.int .i64 4), .lit (.int .i64 4)]

/-- 'ashlarlaw03.LayMaps': WHATEVER THE INPUT: true; the input reads as it did. -/
def layMapsSpec : ChangeSpec := { name := "layMaps", fn := fun _ => fun
  | [d1, d2, d3] => { results := [.lit (.bool true)], args := [d1, d2, d3] }
  | _ => none }
def layMapsRow : OpenClaim := { program := "ytdlpipamibjacaadoor", sum := "2c0d9c5bb2dbf1ec3b15ddf8208f8eb3df7834bdef5ca749df9d49bc6f52c7c5", func := "ashlar/ashlarlaw03.LayMaps", spec := "layMaps", named := ["ashlar/lay.places"], apart := false, laid := [("ashlar/lay.places", laid_ashlar_lay_places)] }
def LayMapsSaid : Prop := layMapsRow.holds Tryd.pinned (OpenSpec.ofChange layMapsSpec)

/-- ITS FALSE NEIGHBOUR: 'it returns false'. Refute it at one input. -/
def layMapsWrong : ChangeSpec := { name := "layMaps", fn := fun _ => fun
  | [d1, d2, d3] => { results := [.lit (.bool false)], args := [d1, d2, d3] }
  | _ => none }
def LayMapsWrongFalsely : Prop := layMapsRow.holds Tryd.pinned (OpenSpec.ofChange layMapsWrong)

/-- 'ashlarlaw03.LayBacks': WHATEVER THE INPUT: true; the input reads as it did. -/
def layBacksSpec : ChangeSpec := { name := "layBacks", fn := fun _ => fun
  | [d1, d2, d3] => { results := [.lit (.bool true)], args := [d1, d2, d3] }
  | _ => none }
def layBacksRow : OpenClaim := { program := "ytdlpipamibjacaadoor", sum := "2c0d9c5bb2dbf1ec3b15ddf8208f8eb3df7834bdef5ca749df9d49bc6f52c7c5", func := "ashlar/ashlarlaw03.LayBacks", spec := "layBacks", named := ["ashlar/lay.places"], apart := false, laid := [("ashlar/lay.places", laid_ashlar_lay_places)] }
def LayBacksSaid : Prop := layBacksRow.holds Tryd.pinned (OpenSpec.ofChange layBacksSpec)

/-- ITS FALSE NEIGHBOUR: 'it returns false'. Refute it at one input. -/
def layBacksWrong : ChangeSpec := { name := "layBacks", fn := fun _ => fun
  | [d1, d2, d3] => { results := [.lit (.bool false)], args := [d1, d2, d3] }
  | _ => none }
def LayBacksWrongFalsely : Prop := layBacksRow.holds Tryd.pinned (OpenSpec.ofChange layBacksWrong)

/-- 'ashlarlaw03.LaySizes': WHATEVER THE INPUT: true; the input reads as it did. -/
def laySizesSpec : ChangeSpec := { name := "laySizes", fn := fun _ => fun
  | [d1, d2] => { results := [.lit (.bool true)], args := [d1, d2] }
  | _ => none }
def laySizesRow : OpenClaim := { program := "ytdlpipamibjacaadoor", sum := "2c0d9c5bb2dbf1ec3b15ddf8208f8eb3df7834bdef5ca749df9d49bc6f52c7c5", func := "ashlar/ashlarlaw03.LaySizes", spec := "laySizes", named := ["ashlar/lay.places"], apart := false, laid := [("ashlar/lay.places", laid_ashlar_lay_places)] }
def LaySizesSaid : Prop := laySizesRow.holds Tryd.pinned (OpenSpec.ofChange laySizesSpec)

/-- ITS FALSE NEIGHBOUR: 'it returns false'. Refute it at one input. -/
def laySizesWrong : ChangeSpec := { name := "laySizes", fn := fun _ => fun
  | [d1, d2] => { results := [.lit (.bool false)], args := [d1, d2] }
  | _ => none }
def LaySizesWrongFalsely : Prop := laySizesRow.holds Tryd.pinned (OpenSpec.ofChange laySizesWrong)

/-- 'ashlarlaw03.LayThere': WHATEVER THE INPUT: true; the input reads as it did. -/
def layThereSpec : ChangeSpec := { name := "layThere", fn := fun _ => fun
  | [d1, d2, d3] => { results := [.lit (.bool true)], args := [d1, d2, d3] }
  | _ => none }
def layThereRow : OpenClaim := { program := "ytdlpipamibjacaadoor", sum := "2c0d9c5bb2dbf1ec3b15ddf8208f8eb3df7834bdef5ca749df9d49bc6f52c7c5", func := "ashlar/ashlarlaw03.LayThere", spec := "layThere", named := ["ashlar/lay.places"], apart := false, laid := [("ashlar/lay.places", laid_ashlar_lay_places)] }
def LayThereSaid : Prop := layThereRow.holds Tryd.pinned (OpenSpec.ofChange layThereSpec)

/-- ITS FALSE NEIGHBOUR: 'it returns false'. Refute it at one input. -/
def layThereWrong : ChangeSpec := { name := "layThere", fn := fun _ => fun
  | [d1, d2, d3] => { results := [.lit (.bool false)], args := [d1, d2, d3] }
  | _ => none }
def LayThereWrongFalsely : Prop := layThereRow.holds Tryd.pinned (OpenSpec.ofChange layThereWrong)

/-- 'ashlarlaw03.LayEach': WHATEVER THE INPUT: true; the input reads as it did. -/
def layEachSpec : ChangeSpec := { name := "layEach", fn := fun _ => fun
  | [d1, d2] => { results := [.lit (.bool true)], args := [d1, d2] }
  | _ => none }
def layEachRow : OpenClaim := { program := "ytdlpipamibjacaadoor", sum := "2c0d9c5bb2dbf1ec3b15ddf8208f8eb3df7834bdef5ca749df9d49bc6f52c7c5", func := "ashlar/ashlarlaw03.LayEach", spec := "layEach", named := ["ashlar/lay.places"], apart := false, laid := [("ashlar/lay.places", laid_ashlar_lay_places)] }
def LayEachSaid : Prop := layEachRow.holds Tryd.pinned (OpenSpec.ofChange layEachSpec)

/-- ITS FALSE NEIGHBOUR: 'it returns false'. Refute it at one input. -/
def layEachWrong : ChangeSpec := { name := "layEach", fn := fun _ => fun
  | [d1, d2] => { results := [.lit (.bool false)], args := [d1, d2] }
  | _ => none }
def LayEachWrongFalsely : Prop := layEachRow.holds Tryd.pinned (OpenSpec.ofChange layEachWrong)

/-- 'ashlarlaw03.LayTurns': WHATEVER THE INPUT: true; the input reads as it did. -/
def layTurnsSpec : ChangeSpec := { name := "layTurns", fn := fun _ => fun
  | [d1, d2] => { results := [.lit (.bool true)], args := [d1, d2] }
  | _ => none }
def layTurnsRow : OpenClaim := { program := "ytdlpipamibjacaadoor", sum := "2c0d9c5bb2dbf1ec3b15ddf8208f8eb3df7834bdef5ca749df9d49bc6f52c7c5", func := "ashlar/ashlarlaw03.LayTurns", spec := "layTurns", named := ["ashlar/lay.places"], apart := false, laid := [("ashlar/lay.places", laid_ashlar_lay_places)] }
def LayTurnsSaid : Prop := layTurnsRow.holds Tryd.pinned (OpenSpec.ofChange layTurnsSpec)

/-- ITS FALSE NEIGHBOUR: 'it returns false'. Refute it at one input. -/
def layTurnsWrong : ChangeSpec := { name := "layTurns", fn := fun _ => fun
  | [d1, d2] => { results := [.lit (.bool false)], args := [d1, d2] }
  | _ => none }
def LayTurnsWrongFalsely : Prop := layTurnsRow.holds Tryd.pinned (OpenSpec.ofChange layTurnsWrong)

/-- 'ashlarlaw03.LayNext': WHATEVER THE INPUT: true; the input reads as it did. -/
def layNextSpec : ChangeSpec := { name := "layNext", fn := fun _ => fun
  | [d1, d2] => { results := [.lit (.bool true)], args := [d1, d2] }
  | _ => none }
def layNextRow : OpenClaim := { program := "ytdlpipamibjacaadoor", sum := "2c0d9c5bb2dbf1ec3b15ddf8208f8eb3df7834bdef5ca749df9d49bc6f52c7c5", func := "ashlar/ashlarlaw03.LayNext", spec := "layNext", named := ["ashlar/lay.places"], apart := false, laid := [("ashlar/lay.places", laid_ashlar_lay_places)] }
def LayNextSaid : Prop := layNextRow.holds Tryd.pinned (OpenSpec.ofChange layNextSpec)

/-- ITS FALSE NEIGHBOUR: 'it returns false'. Refute it at one input. -/
def layNextWrong : ChangeSpec := { name := "layNext", fn := fun _ => fun
  | [d1, d2] => { results := [.lit (.bool false)], args := [d1, d2] }
  | _ => none }
def LayNextWrongFalsely : Prop := layNextRow.holds Tryd.pinned (OpenSpec.ofChange layNextWrong)

/-- 'ashlarlaw04.SuperCodes': WHATEVER THE INPUT: true; the input reads as it did. -/
def superCodesSpec : ChangeSpec := { name := "superCodes", fn := fun _ => fun
  | [d1, d2] => { results := [.lit (.bool true)], args := [d1, d2] }
  | _ => none }
def superCodesRow : OpenClaim := { program := "ytdlpipamibjacaadoor", sum := "2c0d9c5bb2dbf1ec3b15ddf8208f8eb3df7834bdef5ca749df9d49bc6f52c7c5", func := "ashlar/ashlarlaw04.SuperCodes", spec := "superCodes", named := ["ashlar/super.widths", "ashlar/octets.lowRests", "ashlar/octets.highRests"], apart := false, laid := [("ashlar/octets.lowRests", laid_ashlar_octets_lowRests), ("ashlar/octets.highRests", laid_ashlar_octets_highRests), ("ashlar/super.widths", laid_ashlar_super_widths)] }
def SuperCodesSaid : Prop := superCodesRow.holds Tryd.pinned (OpenSpec.ofChange superCodesSpec)

/-- ITS FALSE NEIGHBOUR: 'it returns false'. Refute it at one input. -/
def superCodesWrong : ChangeSpec := { name := "superCodes", fn := fun _ => fun
  | [d1, d2] => { results := [.lit (.bool false)], args := [d1, d2] }
  | _ => none }
def SuperCodesWrongFalsely : Prop := superCodesRow.holds Tryd.pinned (OpenSpec.ofChange superCodesWrong)

/-- 'ashlarlaw04.SuperBack': WHATEVER THE INPUT: true; the input reads as it did. -/
def superBackSpec : ChangeSpec := { name := "superBack", fn := fun _ => fun
  | [d] => { results := [.lit (.bool true)], args := [d] }
  | _ => none }
def superBackRow : OpenClaim := { program := "ytdlpipamibjacaadoor", sum := "2c0d9c5bb2dbf1ec3b15ddf8208f8eb3df7834bdef5ca749df9d49bc6f52c7c5", func := "ashlar/ashlarlaw04.SuperBack", spec := "superBack", named := ["ashlar/super.widths", "ashlar/octets.lowRests", "ashlar/octets.highRests"], apart := false, laid := [("ashlar/octets.lowRests", laid_ashlar_octets_lowRests), ("ashlar/octets.highRests", laid_ashlar_octets_highRests), ("ashlar/super.widths", laid_ashlar_super_widths)] }
def SuperBackSaid : Prop := superBackRow.holds Tryd.pinned (OpenSpec.ofChange superBackSpec)

/-- ITS FALSE NEIGHBOUR: 'it returns false'. Refute it at one input. -/
def superBackWrong : ChangeSpec := { name := "superBack", fn := fun _ => fun
  | [d] => { results := [.lit (.bool false)], args := [d] }
  | _ => none }
def SuperBackWrongFalsely : Prop := superBackRow.holds Tryd.pinned (OpenSpec.ofChange superBackWrong)

/-- 'ashlarlaw04.SuperOnly': WHATEVER THE INPUT: true; the input reads as it did. -/
def superOnlySpec : ChangeSpec := { name := "superOnly", fn := fun _ => fun
  | [d] => { results := [.lit (.bool true)], args := [d] }
  | _ => none }
def superOnlyRow : OpenClaim := { program := "ytdlpipamibjacaadoor", sum := "2c0d9c5bb2dbf1ec3b15ddf8208f8eb3df7834bdef5ca749df9d49bc6f52c7c5", func := "ashlar/ashlarlaw04.SuperOnly", spec := "superOnly", named := ["ashlar/super.widths", "ashlar/octets.lowRests", "ashlar/octets.highRests"], apart := false, laid := [("ashlar/octets.lowRests", laid_ashlar_octets_lowRests), ("ashlar/octets.highRests", laid_ashlar_octets_highRests), ("ashlar/super.widths", laid_ashlar_super_widths)] }
def SuperOnlySaid : Prop := superOnlyRow.holds Tryd.pinned (OpenSpec.ofChange superOnlySpec)

/-- ITS FALSE NEIGHBOUR: 'it returns false'. Refute it at one input. -/
def superOnlyWrong : ChangeSpec := { name := "superOnly", fn := fun _ => fun
  | [d] => { results := [.lit (.bool false)], args := [d] }
  | _ => none }
def SuperOnlyWrongFalsely : Prop := superOnlyRow.holds Tryd.pinned (OpenSpec.ofChange superOnlyWrong)

/-- 'ashlarlaw04.SuperTurned': WHATEVER THE INPUT: true; the input reads as it did. -/
def superTurnedSpec : ChangeSpec := { name := "superTurned", fn := fun _ => fun
  | [d1, d2, d3] => { results := [.lit (.bool true)], args := [d1, d2, d3] }
  | _ => none }
def superTurnedRow : OpenClaim := { program := "ytdlpipamibjacaadoor", sum := "2c0d9c5bb2dbf1ec3b15ddf8208f8eb3df7834bdef5ca749df9d49bc6f52c7c5", func := "ashlar/ashlarlaw04.SuperTurned", spec := "superTurned", named := ["ashlar/super.widths", "ashlar/octets.lowRests", "ashlar/octets.highRests"], apart := false, laid := [("ashlar/octets.lowRests", laid_ashlar_octets_lowRests), ("ashlar/octets.highRests", laid_ashlar_octets_highRests), ("ashlar/super.widths", laid_ashlar_super_widths)] }
def SuperTurnedSaid : Prop := superTurnedRow.holds Tryd.pinned (OpenSpec.ofChange superTurnedSpec)

/-- ITS FALSE NEIGHBOUR: 'it returns false'. Refute it at one input. -/
def superTurnedWrong : ChangeSpec := { name := "superTurned", fn := fun _ => fun
  | [d1, d2, d3] => { results := [.lit (.bool false)], args := [d1, d2, d3] }
  | _ => none }
def SuperTurnedWrongFalsely : Prop := superTurnedRow.holds Tryd.pinned (OpenSpec.ofChange superTurnedWrong)

/-- 'ashlarlaw04.SuperNewest': WHATEVER THE INPUT: true; the input reads as it did. -/
def superNewestSpec : ChangeSpec := { name := "superNewest", fn := fun _ => fun
  | [d1, d2, d3, d4] => { results := [.lit (.bool true)], args := [d1, d2, d3, d4] }
  | _ => none }
def superNewestRow : OpenClaim := { program := "ytdlpipamibjacaadoor", sum := "2c0d9c5bb2dbf1ec3b15ddf8208f8eb3df7834bdef5ca749df9d49bc6f52c7c5", func := "ashlar/ashlarlaw04.SuperNewest", spec := "superNewest", named := ["ashlar/super.widths", "ashlar/octets.lowRests", "ashlar/octets.highRests"], apart := false, laid := [("ashlar/octets.lowRests", laid_ashlar_octets_lowRests), ("ashlar/octets.highRests", laid_ashlar_octets_highRests), ("ashlar/super.widths", laid_ashlar_super_widths)] }
def SuperNewestSaid : Prop := superNewestRow.holds Tryd.pinned (OpenSpec.ofChange superNewestSpec)

/-- ITS FALSE NEIGHBOUR: 'it returns false'. Refute it at one input. -/
def superNewestWrong : ChangeSpec := { name := "superNewest", fn := fun _ => fun
  | [d1, d2, d3, d4] => { results := [.lit (.bool false)], args := [d1, d2, d3, d4] }
  | _ => none }
def SuperNewestWrongFalsely : Prop := superNewestRow.holds Tryd.pinned (OpenSpec.ofChange superNewestWrong)

/- THE SECOND FORM. 'bulk': how many values and letters a reading holds, each counted each time it is reached (what is shared counts as often as it is met; a slice's spare places count too). A statement '..UptoSaid' is the law's where the arguments, and the package variables that the reading takes, are together of bulk at most 1048576: NARROWER than '..Said'. Prove '..Said' where nothing that the law and all that it calls make is longer than what came in: it says more and counts as full. Else prove '..UptoSaid'. A law counts once. -/
mutual
def uptoBulk {H : Type} : DataW H → Nat
  | .lit (.string bytes) => bytes.length + 1
  | .lit _ => 1
  | .nil => 1
  | .ptr d => uptoBulk d + 1
  | .slice elems spare => uptoBulkAll elems + uptoBulkAll spare + 1
  | .agg parts => uptoBulkAll parts + 1
  | .iface _ d => uptoBulk d + 1
  | .map entries => uptoBulkEntries entries + 1
  | .held _ => 1
def uptoBulkAll {H : Type} : List (DataW H) → Nat
  | [] => 0
  | d :: r => uptoBulk d + uptoBulkAll r
def uptoBulkEntries {H : Type} : List (Lit × DataW H) → Nat
  | [] => 0
  | x :: r => uptoBulkEntry x + uptoBulkEntries r
def uptoBulkEntry {H : Type} : Lit × DataW H → Nat
  | (.string bytes, d) => bytes.length + uptoBulk d + 1
  | (_, d) => uptoBulk d + 1
 end
def uptoSmall : (H : Type) → List (DataW H) → Bool := fun _ ds => decide (uptoBulkAll ds ≤ 1048576)
def OpenSpec.upto (s : _root_.Go.ChangeSpec) : _root_.Go.OpenSpec := { _root_.Go.OpenSpec.ofChange s with cond := some uptoSmall }

/-- 'ashlarlaw03.LayMaps', WHERE WHAT IT READS IS OF BULK AT MOST 1048576: true; the input reads as it did. -/
def layMapsUptoRow : OpenClaim := { program := "ytdlpipamibjacaadoor", sum := "2c0d9c5bb2dbf1ec3b15ddf8208f8eb3df7834bdef5ca749df9d49bc6f52c7c5", func := "ashlar/ashlarlaw03.LayMaps", spec := "layMaps", named := ["ashlar/lay.places"], apart := false, laid := [("ashlar/lay.places", laid_ashlar_lay_places)], narrowed := true }
def LayMapsUptoSaid : Prop := layMapsUptoRow.holds Tryd.pinned (OpenSpec.upto layMapsSpec)

/-- 'ashlarlaw03.LayBacks', WHERE WHAT IT READS IS OF BULK AT MOST 1048576: true; the input reads as it did. -/
def layBacksUptoRow : OpenClaim := { program := "ytdlpipamibjacaadoor", sum := "2c0d9c5bb2dbf1ec3b15ddf8208f8eb3df7834bdef5ca749df9d49bc6f52c7c5", func := "ashlar/ashlarlaw03.LayBacks", spec := "layBacks", named := ["ashlar/lay.places"], apart := false, laid := [("ashlar/lay.places", laid_ashlar_lay_places)], narrowed := true }
def LayBacksUptoSaid : Prop := layBacksUptoRow.holds Tryd.pinned (OpenSpec.upto layBacksSpec)

/-- 'ashlarlaw03.LaySizes', WHERE WHAT IT READS IS OF BULK AT MOST 1048576: true; the input reads as it did. -/
def laySizesUptoRow : OpenClaim := { program := "ytdlpipamibjacaadoor", sum := "2c0d9c5bb2dbf1ec3b15ddf8208f8eb3df7834bdef5ca749df9d49bc6f52c7c5", func := "ashlar/ashlarlaw03.LaySizes", spec := "laySizes", named := ["ashlar/lay.places"], apart := false, laid := [("ashlar/lay.places", laid_ashlar_lay_places)], narrowed := true }
def LaySizesUptoSaid : Prop := laySizesUptoRow.holds Tryd.pinned (OpenSpec.upto laySizesSpec)

/-- 'ashlarlaw03.LayThere', WHERE WHAT IT READS IS OF BULK AT MOST 1048576: true; the input reads as it did. -/
def layThereUptoRow : OpenClaim := { program := "ytdlpipamibjacaadoor", sum := "2c0d9c5bb2dbf1ec3b15ddf8208f8eb3df7834bdef5ca749df9d49bc6f52c7c5", func := "ashlar/ashlarlaw03.LayThere", spec := "layThere", named := ["ashlar/lay.places"], apart := false, laid := [("ashlar/lay.places", laid_ashlar_lay_places)], narrowed := true }
def LayThereUptoSaid : Prop := layThereUptoRow.holds Tryd.pinned (OpenSpec.upto layThereSpec)

/-- 'ashlarlaw03.LayEach', WHERE WHAT IT READS IS OF BULK AT MOST 1048576: true; the input reads as it did. -/
def layEachUptoRow : OpenClaim := { program := "ytdlpipamibjacaadoor", sum := "2c0d9c5bb2dbf1ec3b15ddf8208f8eb3df7834bdef5ca749df9d49bc6f52c7c5", func := "ashlar/ashlarlaw03.LayEach", spec := "layEach", named := ["ashlar/lay.places"], apart := false, laid := [("ashlar/lay.places", laid_ashlar_lay_places)], narrowed := true }
def LayEachUptoSaid : Prop := layEachUptoRow.holds Tryd.pinned (OpenSpec.upto layEachSpec)

/-- 'ashlarlaw03.LayTurns', WHERE WHAT IT READS IS OF BULK AT MOST 1048576: true; the input reads as it did. -/
def layTurnsUptoRow : OpenClaim := { program := "ytdlpipamibjacaadoor", sum := "2c0d9c5bb2dbf1ec3b15ddf8208f8eb3df7834bdef5ca749df9d49bc6f52c7c5", func := "ashlar/ashlarlaw03.LayTurns", spec := "layTurns", named := ["ashlar/lay.places"], apart := false, laid := [("ashlar/lay.places", laid_ashlar_lay_places)], narrowed := true }
def LayTurnsUptoSaid : Prop := layTurnsUptoRow.holds Tryd.pinned (OpenSpec.upto layTurnsSpec)

/-- 'ashlarlaw03.LayNext', WHERE WHAT IT READS IS OF BULK AT MOST 1048576: true; the input reads as it did. -/
def layNextUptoRow : OpenClaim := { program := "ytdlpipamibjacaadoor", sum := "2c0d9c5bb2dbf1ec3b15ddf8208f8eb3df7834bdef5ca749df9d49bc6f52c7c5", func := "ashlar/ashlarlaw03.LayNext", spec := "layNext", named := ["ashlar/lay.places"], apart := false, laid := [("ashlar/lay.places", laid_ashlar_lay_places)], narrowed := true }
def LayNextUptoSaid : Prop := layNextUptoRow.holds Tryd.pinned (OpenSpec.upto layNextSpec)

/-- 'ashlarlaw04.SuperCodes', WHERE WHAT IT READS IS OF BULK AT MOST 1048576: true; the input reads as it did. -/
def superCodesUptoRow : OpenClaim := { program := "ytdlpipamibjacaadoor", sum := "2c0d9c5bb2dbf1ec3b15ddf8208f8eb3df7834bdef5ca749df9d49bc6f52c7c5", func := "ashlar/ashlarlaw04.SuperCodes", spec := "superCodes", named := ["ashlar/super.widths", "ashlar/octets.lowRests", "ashlar/octets.highRests"], apart := false, laid := [("ashlar/octets.lowRests", laid_ashlar_octets_lowRests), ("ashlar/octets.highRests", laid_ashlar_octets_highRests), ("ashlar/super.widths", laid_ashlar_super_widths)], narrowed := true }
def SuperCodesUptoSaid : Prop := superCodesUptoRow.holds Tryd.pinned (OpenSpec.upto superCodesSpec)

/-- 'ashlarlaw04.SuperBack', WHERE WHAT IT READS IS OF BULK AT MOST 1048576: true; the input reads as it did. -/
def superBackUptoRow : OpenClaim := { program := "ytdlpipamibjacaadoor", sum := "2c0d9c5bb2dbf1ec3b15ddf8208f8eb3df7834bdef5ca749df9d49bc6f52c7c5", func := "ashlar/ashlarlaw04.SuperBack", spec := "superBack", named := ["ashlar/super.widths", "ashlar/octets.lowRests", "ashlar/octets.highRests"], apart := false, laid := [("ashlar/octets.lowRests", laid_ashlar_octets_lowRests), ("ashlar/octets.highRests", laid_ashlar_octets_highRests), ("ashlar/super.widths", laid_ashlar_super_widths)], narrowed := true }
def SuperBackUptoSaid : Prop := superBackUptoRow.holds Tryd.pinned (OpenSpec.upto superBackSpec)

/-- 'ashlarlaw04.SuperOnly', WHERE WHAT IT READS IS OF BULK AT MOST 1048576: true; the input reads as it did. -/
def superOnlyUptoRow : OpenClaim := { program := "ytdlpipamibjacaadoor", sum := "2c0d9c5bb2dbf1ec3b15ddf8208f8eb3df7834bdef5ca749df9d49bc6f52c7c5", func := "ashlar/ashlarlaw04.SuperOnly", spec := "superOnly", named := ["ashlar/super.widths", "ashlar/octets.lowRests", "ashlar/octets.highRests"], apart := false, laid := [("ashlar/octets.lowRests", laid_ashlar_octets_lowRests), ("ashlar/octets.highRests", laid_ashlar_octets_highRests), ("ashlar/super.widths", laid_ashlar_super_widths)], narrowed := true }
def SuperOnlyUptoSaid : Prop := superOnlyUptoRow.holds Tryd.pinned (OpenSpec.upto superOnlySpec)

/-- 'ashlarlaw04.SuperTurned', WHERE WHAT IT READS IS OF BULK AT MOST 1048576: true; the input reads as it did. -/
def superTurnedUptoRow : OpenClaim := { program := "ytdlpipamibjacaadoor", sum := "2c0d9c5bb2dbf1ec3b15ddf8208f8eb3df7834bdef5ca749df9d49bc6f52c7c5", func := "ashlar/ashlarlaw04.SuperTurned", spec := "superTurned", named := ["ashlar/super.widths", "ashlar/octets.lowRests", "ashlar/octets.highRests"], apart := false, laid := [("ashlar/octets.lowRests", laid_ashlar_octets_lowRests), ("ashlar/octets.highRests", laid_ashlar_octets_highRests), ("ashlar/super.widths", laid_ashlar_super_widths)], narrowed := true }
def SuperTurnedUptoSaid : Prop := superTurnedUptoRow.holds Tryd.pinned (OpenSpec.upto superTurnedSpec)

/-- 'ashlarlaw04.SuperNewest', WHERE WHAT IT READS IS OF BULK AT MOST 1048576: true; the input reads as it did. -/
def superNewestUptoRow : OpenClaim := { program := "ytdlpipamibjacaadoor", sum := "2c0d9c5bb2dbf1ec3b15ddf8208f8eb3df7834bdef5ca749df9d49bc6f52c7c5", func := "ashlar/ashlarlaw04.SuperNewest", spec := "superNewest", named := ["ashlar/super.widths", "ashlar/octets.lowRests", "ashlar/octets.highRests"], apart := false, laid := [("ashlar/octets.lowRests", laid_ashlar_octets_lowRests), ("ashlar/octets.highRests", laid_ashlar_octets_highRests), ("ashlar/super.widths", laid_ashlar_super_widths)], narrowed := true }
def SuperNewestUptoSaid : Prop := superNewestUptoRow.holds Tryd.pinned (OpenSpec.upto superNewestSpec)

end Rows
end Go.Proofs.YtdlpipamibjacaaDoor
