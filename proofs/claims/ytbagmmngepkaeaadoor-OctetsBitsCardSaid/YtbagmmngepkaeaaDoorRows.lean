/-
  NARROWER THAN 'FOR EVERY INPUT', by the rows' own cells (each row's printed sentence says how): OctetsNumbers: laid · OctetsBack: laid · OctetsSums: laid · OctetsJoins: laid · OctetsTurned: laid · OctetsXors: laid · OctetsTwice: laid · OctetsBits: laid · OctetsTaken: laid.
  DERIVED. THE GIVEN ROWS OF THIS SEAT. 9 by the template 'for every input the law returns true; each argument reads behind the call as it read before'; 0 by the template 'total and deterministic' (their statements: YtbagmmngepkaeaaDoorTotals.lean).
  GIVEN WITH THE SEED: the statements are not yours to turn. If you find one false, say at which input.
  Laid BY PROGRAM, IN A SANDBOX (cutbox-rows.mjs): the forced cells as the released guide's own fill.sh prints them over the translation 679b579c0e5b7345… (all of the seat's roots in one cut). By AI agents, Wed Nov 11 2026. No macro, syntax, notation, axiom, sorry.
-/
import Derived.Test.YtbagmmngepkaeaaDoorChecked
import GoSem.Claim
import GoSem.ClaimJoined
import GoSem.ClaimMapViews
import Derived.JoinedTies
import Derived.KernelRfl
namespace Go.Proofs.YtbagmmngepkaeaaDoor
/- THE CELL 'sum', in the pinned program and in every row, IS THE sha256 OF THE DUMP (.gsa) THAT YtbagmmngepkaeaaDoorProg.lean LOADS. Nothing in Lean hashes anything: it is a label: what it is worth is what the hold of that sum in a sandbox is worth. -/
noncomputable def Tryd.pinned : Pinned := { name := "ytbagmmngepkaeaadoor", sum := "679b579c0e5b73457b01e87ac781acdee6c19fc8c5c07f3ecb6c36476cbcef90", checked := Tryd.checked }
namespace Rows
def none {H : Type} : Left H := { results := [], args := [] }

/- WHAT THE LISTED PACKAGE-LEVEL VARIABLES READ AS WHEN THE CALL BEGINS. Each datum BY PROGRAM (the guide's laid-datum.mjs) off the statement by which the dump's own 'gosem.cut.vars' lays the variable. In a bare row this is a premise. The card (YtbagmmngepkaeaaDoorCards.lean) ties it to the program's text. -/
def laid_ashlar_octets_lowRests {H : Type} : DataW H := .agg [.lit (.int .u32 0), .lit (.int .u32 4067132163), .lit (.int .u32 3778769143), .lit (.int .u32 324072436), .lit (.int .u32 3348797215), .lit (.int .u32 904991772), .lit (.int .u32 648144872), .lit (.int .u32 3570033899), .lit (.int .u32 2329499855), .lit (.int .u32 2024987596), .lit (.int .u32 1809983544), .lit (.int .u32 2575936315), .lit (.int .u32 1296289744), .lit (.int .u32 3207089363), .lit (.int .u32 2893594407), .lit (.int .u32 1578318884)]
def laid_ashlar_octets_highRests {H : Type} : DataW H := .agg [.lit (.int .u32 0), .lit (.int .u32 274646895), .lit (.int .u32 549293790), .lit (.int .u32 820201905), .lit (.int .u32 1098587580), .lit (.int .u32 1361435347), .lit (.int .u32 1640403810), .lit (.int .u32 1905808397), .lit (.int .u32 2197175160), .lit (.int .u32 2460548119), .lit (.int .u32 2722870694), .lit (.int .u32 2987750089), .lit (.int .u32 3280807620), .lit (.int .u32 3553878443), .lit (.int .u32 3811616794), .lit (.int .u32 4084100981)]

/-- 'ashlarlaw01.OctetsNumbers': WHATEVER THE INPUT: true; the input reads as it did. -/
def octetsNumbersSpec : ChangeSpec := { name := "octetsNumbers", fn := fun _ => fun
  | [d1, d2, d3, d4] => { results := [.lit (.bool true)], args := [d1, d2, d3, d4] }
  | _ => none }
def octetsNumbersRow : OpenClaim := { program := "ytbagmmngepkaeaadoor", sum := "679b579c0e5b73457b01e87ac781acdee6c19fc8c5c07f3ecb6c36476cbcef90", func := "ashlar/ashlarlaw01.OctetsNumbers", spec := "octetsNumbers", named := ["ashlar/octets.lowRests", "ashlar/octets.highRests"], apart := false, laid := [("ashlar/octets.lowRests", laid_ashlar_octets_lowRests), ("ashlar/octets.highRests", laid_ashlar_octets_highRests)] }
def OctetsNumbersSaid : Prop := octetsNumbersRow.holds Tryd.pinned (OpenSpec.ofChange octetsNumbersSpec)

/-- ITS FALSE NEIGHBOUR: 'it returns false'. Refute it at one input. -/
def octetsNumbersWrong : ChangeSpec := { name := "octetsNumbers", fn := fun _ => fun
  | [d1, d2, d3, d4] => { results := [.lit (.bool false)], args := [d1, d2, d3, d4] }
  | _ => none }
def OctetsNumbersWrongFalsely : Prop := octetsNumbersRow.holds Tryd.pinned (OpenSpec.ofChange octetsNumbersWrong)

/-- 'ashlarlaw01.OctetsBack': WHATEVER THE INPUT: true; the input reads as it did. -/
def octetsBackSpec : ChangeSpec := { name := "octetsBack", fn := fun _ => fun
  | [d1, d2, d3, d4] => { results := [.lit (.bool true)], args := [d1, d2, d3, d4] }
  | _ => none }
def octetsBackRow : OpenClaim := { program := "ytbagmmngepkaeaadoor", sum := "679b579c0e5b73457b01e87ac781acdee6c19fc8c5c07f3ecb6c36476cbcef90", func := "ashlar/ashlarlaw01.OctetsBack", spec := "octetsBack", named := ["ashlar/octets.lowRests", "ashlar/octets.highRests"], apart := false, laid := [("ashlar/octets.lowRests", laid_ashlar_octets_lowRests), ("ashlar/octets.highRests", laid_ashlar_octets_highRests)] }
def OctetsBackSaid : Prop := octetsBackRow.holds Tryd.pinned (OpenSpec.ofChange octetsBackSpec)

/-- ITS FALSE NEIGHBOUR: 'it returns false'. Refute it at one input. -/
def octetsBackWrong : ChangeSpec := { name := "octetsBack", fn := fun _ => fun
  | [d1, d2, d3, d4] => { results := [.lit (.bool false)], args := [d1, d2, d3, d4] }
  | _ => none }
def OctetsBackWrongFalsely : Prop := octetsBackRow.holds Tryd.pinned (OpenSpec.ofChange octetsBackWrong)

/-- 'ashlarlaw01.OctetsSums': WHATEVER THE INPUT: true; the input reads as it did. -/
def octetsSumsSpec : ChangeSpec := { name := "octetsSums", fn := fun _ => fun
  | [d1, d2] => { results := [.lit (.bool true)], args := [d1, d2] }
  | _ => none }
def octetsSumsRow : OpenClaim := { program := "ytbagmmngepkaeaadoor", sum := "679b579c0e5b73457b01e87ac781acdee6c19fc8c5c07f3ecb6c36476cbcef90", func := "ashlar/ashlarlaw01.OctetsSums", spec := "octetsSums", named := ["ashlar/octets.lowRests", "ashlar/octets.highRests"], apart := false, laid := [("ashlar/octets.lowRests", laid_ashlar_octets_lowRests), ("ashlar/octets.highRests", laid_ashlar_octets_highRests)] }
def OctetsSumsSaid : Prop := octetsSumsRow.holds Tryd.pinned (OpenSpec.ofChange octetsSumsSpec)

/-- ITS FALSE NEIGHBOUR: 'it returns false'. Refute it at one input. -/
def octetsSumsWrong : ChangeSpec := { name := "octetsSums", fn := fun _ => fun
  | [d1, d2] => { results := [.lit (.bool false)], args := [d1, d2] }
  | _ => none }
def OctetsSumsWrongFalsely : Prop := octetsSumsRow.holds Tryd.pinned (OpenSpec.ofChange octetsSumsWrong)

/-- 'ashlarlaw01.OctetsJoins': WHATEVER THE INPUT: true; the input reads as it did. -/
def octetsJoinsSpec : ChangeSpec := { name := "octetsJoins", fn := fun _ => fun
  | [d1, d2, d3] => { results := [.lit (.bool true)], args := [d1, d2, d3] }
  | _ => none }
def octetsJoinsRow : OpenClaim := { program := "ytbagmmngepkaeaadoor", sum := "679b579c0e5b73457b01e87ac781acdee6c19fc8c5c07f3ecb6c36476cbcef90", func := "ashlar/ashlarlaw01.OctetsJoins", spec := "octetsJoins", named := ["ashlar/octets.lowRests", "ashlar/octets.highRests"], apart := false, laid := [("ashlar/octets.lowRests", laid_ashlar_octets_lowRests), ("ashlar/octets.highRests", laid_ashlar_octets_highRests)] }
def OctetsJoinsSaid : Prop := octetsJoinsRow.holds Tryd.pinned (OpenSpec.ofChange octetsJoinsSpec)

/-- ITS FALSE NEIGHBOUR: 'it returns false'. Refute it at one input. -/
def octetsJoinsWrong : ChangeSpec := { name := "octetsJoins", fn := fun _ => fun
  | [d1, d2, d3] => { results := [.lit (.bool false)], args := [d1, d2, d3] }
  | _ => none }
def OctetsJoinsWrongFalsely : Prop := octetsJoinsRow.holds Tryd.pinned (OpenSpec.ofChange octetsJoinsWrong)

/-- 'ashlarlaw01.OctetsTurned': WHATEVER THE INPUT: true; the input reads as it did. -/
def octetsTurnedSpec : ChangeSpec := { name := "octetsTurned", fn := fun _ => fun
  | [d1, d2, d3, d4] => { results := [.lit (.bool true)], args := [d1, d2, d3, d4] }
  | _ => none }
def octetsTurnedRow : OpenClaim := { program := "ytbagmmngepkaeaadoor", sum := "679b579c0e5b73457b01e87ac781acdee6c19fc8c5c07f3ecb6c36476cbcef90", func := "ashlar/ashlarlaw01.OctetsTurned", spec := "octetsTurned", named := ["ashlar/octets.lowRests", "ashlar/octets.highRests"], apart := false, laid := [("ashlar/octets.lowRests", laid_ashlar_octets_lowRests), ("ashlar/octets.highRests", laid_ashlar_octets_highRests)] }
def OctetsTurnedSaid : Prop := octetsTurnedRow.holds Tryd.pinned (OpenSpec.ofChange octetsTurnedSpec)

/-- ITS FALSE NEIGHBOUR: 'it returns false'. Refute it at one input. -/
def octetsTurnedWrong : ChangeSpec := { name := "octetsTurned", fn := fun _ => fun
  | [d1, d2, d3, d4] => { results := [.lit (.bool false)], args := [d1, d2, d3, d4] }
  | _ => none }
def OctetsTurnedWrongFalsely : Prop := octetsTurnedRow.holds Tryd.pinned (OpenSpec.ofChange octetsTurnedWrong)

/-- 'ashlarlaw01.OctetsXors': WHATEVER THE INPUT: true; the input reads as it did. -/
def octetsXorsSpec : ChangeSpec := { name := "octetsXors", fn := fun _ => fun
  | [d1, d2] => { results := [.lit (.bool true)], args := [d1, d2] }
  | _ => none }
def octetsXorsRow : OpenClaim := { program := "ytbagmmngepkaeaadoor", sum := "679b579c0e5b73457b01e87ac781acdee6c19fc8c5c07f3ecb6c36476cbcef90", func := "ashlar/ashlarlaw01.OctetsXors", spec := "octetsXors", named := ["ashlar/octets.lowRests", "ashlar/octets.highRests"], apart := false, laid := [("ashlar/octets.lowRests", laid_ashlar_octets_lowRests), ("ashlar/octets.highRests", laid_ashlar_octets_highRests)] }
def OctetsXorsSaid : Prop := octetsXorsRow.holds Tryd.pinned (OpenSpec.ofChange octetsXorsSpec)

/-- ITS FALSE NEIGHBOUR: 'it returns false'. Refute it at one input. -/
def octetsXorsWrong : ChangeSpec := { name := "octetsXors", fn := fun _ => fun
  | [d1, d2] => { results := [.lit (.bool false)], args := [d1, d2] }
  | _ => none }
def OctetsXorsWrongFalsely : Prop := octetsXorsRow.holds Tryd.pinned (OpenSpec.ofChange octetsXorsWrong)

/-- 'ashlarlaw01.OctetsTwice': WHATEVER THE INPUT: true; the input reads as it did. -/
def octetsTwiceSpec : ChangeSpec := { name := "octetsTwice", fn := fun _ => fun
  | [d1, d2] => { results := [.lit (.bool true)], args := [d1, d2] }
  | _ => none }
def octetsTwiceRow : OpenClaim := { program := "ytbagmmngepkaeaadoor", sum := "679b579c0e5b73457b01e87ac781acdee6c19fc8c5c07f3ecb6c36476cbcef90", func := "ashlar/ashlarlaw01.OctetsTwice", spec := "octetsTwice", named := ["ashlar/octets.lowRests", "ashlar/octets.highRests"], apart := false, laid := [("ashlar/octets.lowRests", laid_ashlar_octets_lowRests), ("ashlar/octets.highRests", laid_ashlar_octets_highRests)] }
def OctetsTwiceSaid : Prop := octetsTwiceRow.holds Tryd.pinned (OpenSpec.ofChange octetsTwiceSpec)

/-- ITS FALSE NEIGHBOUR: 'it returns false'. Refute it at one input. -/
def octetsTwiceWrong : ChangeSpec := { name := "octetsTwice", fn := fun _ => fun
  | [d1, d2] => { results := [.lit (.bool false)], args := [d1, d2] }
  | _ => none }
def OctetsTwiceWrongFalsely : Prop := octetsTwiceRow.holds Tryd.pinned (OpenSpec.ofChange octetsTwiceWrong)

/-- 'ashlarlaw01.OctetsBits': WHATEVER THE INPUT: true; the input reads as it did. -/
def octetsBitsSpec : ChangeSpec := { name := "octetsBits", fn := fun _ => fun
  | [d1, d2, d3, d4, d5] => { results := [.lit (.bool true)], args := [d1, d2, d3, d4, d5] }
  | _ => none }
def octetsBitsRow : OpenClaim := { program := "ytbagmmngepkaeaadoor", sum := "679b579c0e5b73457b01e87ac781acdee6c19fc8c5c07f3ecb6c36476cbcef90", func := "ashlar/ashlarlaw01.OctetsBits", spec := "octetsBits", named := ["ashlar/octets.lowRests", "ashlar/octets.highRests"], apart := false, laid := [("ashlar/octets.lowRests", laid_ashlar_octets_lowRests), ("ashlar/octets.highRests", laid_ashlar_octets_highRests)] }
def OctetsBitsSaid : Prop := octetsBitsRow.holds Tryd.pinned (OpenSpec.ofChange octetsBitsSpec)

/-- ITS FALSE NEIGHBOUR: 'it returns false'. Refute it at one input. -/
def octetsBitsWrong : ChangeSpec := { name := "octetsBits", fn := fun _ => fun
  | [d1, d2, d3, d4, d5] => { results := [.lit (.bool false)], args := [d1, d2, d3, d4, d5] }
  | _ => none }
def OctetsBitsWrongFalsely : Prop := octetsBitsRow.holds Tryd.pinned (OpenSpec.ofChange octetsBitsWrong)

/-- 'ashlarlaw01.OctetsTaken': WHATEVER THE INPUT: true; the input reads as it did. -/
def octetsTakenSpec : ChangeSpec := { name := "octetsTaken", fn := fun _ => fun
  | [d1, d2, d3] => { results := [.lit (.bool true)], args := [d1, d2, d3] }
  | _ => none }
def octetsTakenRow : OpenClaim := { program := "ytbagmmngepkaeaadoor", sum := "679b579c0e5b73457b01e87ac781acdee6c19fc8c5c07f3ecb6c36476cbcef90", func := "ashlar/ashlarlaw01.OctetsTaken", spec := "octetsTaken", named := ["ashlar/octets.lowRests", "ashlar/octets.highRests"], apart := false, laid := [("ashlar/octets.lowRests", laid_ashlar_octets_lowRests), ("ashlar/octets.highRests", laid_ashlar_octets_highRests)] }
def OctetsTakenSaid : Prop := octetsTakenRow.holds Tryd.pinned (OpenSpec.ofChange octetsTakenSpec)

/-- ITS FALSE NEIGHBOUR: 'it returns false'. Refute it at one input. -/
def octetsTakenWrong : ChangeSpec := { name := "octetsTaken", fn := fun _ => fun
  | [d1, d2, d3] => { results := [.lit (.bool false)], args := [d1, d2, d3] }
  | _ => none }
def OctetsTakenWrongFalsely : Prop := octetsTakenRow.holds Tryd.pinned (OpenSpec.ofChange octetsTakenWrong)

/- THE SECOND FORM. 'bulk': how many values and letters a reading holds, each counted each time it is reached (what is shared counts as often as it is met; a slice's spare places count too). A statement '..UptoSaid' is the law's where the arguments, and the package variables that the reading takes, are together of bulk at most 1048576: NARROWER than '..Said'. Prove '..Said' where nothing that the law and all that it calls make is longer than what came in: it says more and counts as full. Else prove '..UptoSaid'. A law counts once. -/
mutual
def uptoBulk {H : Type} : DataW H → Nat
  | .lit (.string bytes) => bytes.length + 1
  | .lit _ => 1
  | .nil => 1
  | .ptr d => uptoBulk d + 1
  | .slice elems spare => uptoBulkAll elems + uptoBulkAll spare + 1
  | .agg parts => uptoBulkAll parts + 1
  | .iface _ d => uptoBulk d + 1
  | .map entries => uptoBulkEntries entries + 1
  | .held _ => 1
def uptoBulkAll {H : Type} : List (DataW H) → Nat
  | [] => 0
  | d :: r => uptoBulk d + uptoBulkAll r
def uptoBulkEntries {H : Type} : List (Lit × DataW H) → Nat
  | [] => 0
  | x :: r => uptoBulkEntry x + uptoBulkEntries r
def uptoBulkEntry {H : Type} : Lit × DataW H → Nat
  | (.string bytes, d) => bytes.length + uptoBulk d + 1
  | (_, d) => uptoBulk d + 1
 end
def uptoSmall : (H : Type) → List (DataW H) → Bool := fun _ ds => decide (uptoBulkAll ds ≤ 1048576)
def OpenSpec.upto (s : _root_.Go.ChangeSpec) : _root_.Go.OpenSpec := { _root_.Go.OpenSpec.ofChange s with cond := some uptoSmall }

/-- 'ashlarlaw01.OctetsNumbers', WHERE WHAT IT READS IS OF BULK AT MOST 1048576: true; the input reads as it did. -/
def octetsNumbersUptoRow : OpenClaim := { program := "ytbagmmngepkaeaadoor", sum := "679b579c0e5b73457b01e87ac781acdee6c19fc8c5c07f3ecb6c36476cbcef90", func := "ashlar/ashlarlaw01.OctetsNumbers", spec := "octetsNumbers", named := ["ashlar/octets.lowRests", "ashlar/octets.highRests"], apart := false, laid := [("ashlar/octets.lowRests", laid_ashlar_octets_lowRests), ("ashlar/octets.highRests", laid_ashlar_octets_highRests)], narrowed := true }
def OctetsNumbersUptoSaid : Prop := octetsNumbersUptoRow.holds Tryd.pinned (OpenSpec.upto octetsNumbersSpec)

/-- 'ashlarlaw01.OctetsBack', WHERE WHAT IT READS IS OF BULK AT MOST 1048576: true; the input reads as it did. -/
def octetsBackUptoRow : OpenClaim := { program := "ytbagmmngepkaeaadoor", sum := "679b579c0e5b73457b01e87ac781acdee6c19fc8c5c07f3ecb6c36476cbcef90", func := "ashlar/ashlarlaw01.OctetsBack", spec := "octetsBack", named := ["ashlar/octets.lowRests", "ashlar/octets.highRests"], apart := false, laid := [("ashlar/octets.lowRests", laid_ashlar_octets_lowRests), ("ashlar/octets.highRests", laid_ashlar_octets_highRests)], narrowed := true }
def OctetsBackUptoSaid : Prop := octetsBackUptoRow.holds Tryd.pinned (OpenSpec.upto octetsBackSpec)

/-- 'ashlarlaw01.OctetsSums', WHERE WHAT IT READS IS OF BULK AT MOST 1048576: true; the input reads as it did. -/
def octetsSumsUptoRow : OpenClaim := { program := "ytbagmmngepkaeaadoor", sum := "679b579c0e5b73457b01e87ac781acdee6c19fc8c5c07f3ecb6c36476cbcef90", func := "ashlar/ashlarlaw01.OctetsSums", spec := "octetsSums", named := ["ashlar/octets.lowRests", "ashlar/octets.highRests"], apart := false, laid := [("ashlar/octets.lowRests", laid_ashlar_octets_lowRests), ("ashlar/octets.highRests", laid_ashlar_octets_highRests)], narrowed := true }
def OctetsSumsUptoSaid : Prop := octetsSumsUptoRow.holds Tryd.pinned (OpenSpec.upto octetsSumsSpec)

/-- 'ashlarlaw01.OctetsJoins', WHERE WHAT IT READS IS OF BULK AT MOST 1048576: true; the input reads as it did. -/
def octetsJoinsUptoRow : OpenClaim := { program := "ytbagmmngepkaeaadoor", sum := "679b579c0e5b73457b01e87ac781acdee6c19fc8c5c07f3ecb6c36476cbcef90", func := "ashlar/ashlarlaw01.OctetsJoins", spec := "octetsJoins", named := ["ashlar/octets.lowRests", "ashlar/octets.highRests"], apart := false, laid := [("ashlar/octets.lowRests", laid_ashlar_octets_lowRests), ("ashlar/octets.highRests", laid_ashlar_octets_highRests)], narrowed := true }
def OctetsJoinsUptoSaid : Prop := octetsJoinsUptoRow.holds Tryd.pinned (OpenSpec.upto octetsJoinsSpec)

/-- 'ashlarlaw01.OctetsTurned', WHERE WHAT IT READS IS OF BULK AT MOST 1048576: true; the input reads as it did. -/
def octetsTurnedUptoRow : OpenClaim := { program := "ytbagmmngepkaeaadoor", sum := "679b579c0e5b73457b01e87ac781acdee6c19fc8c5c07f3ecb6c36476cbcef90", func := "ashlar/ashlarlaw01.OctetsTurned", spec := "octetsTurned", named := ["ashlar/octets.lowRests", "ashlar/octets.highRests"], apart := false, laid := [("ashlar/octets.lowRests", laid_ashlar_octets_lowRests), ("ashlar/octets.highRests", laid_ashlar_octets_highRests)], narrowed := true }
def OctetsTurnedUptoSaid : Prop := octetsTurnedUptoRow.holds Tryd.pinned (OpenSpec.upto octetsTurnedSpec)

/-- 'ashlarlaw01.OctetsXors', WHERE WHAT IT READS IS OF BULK AT MOST 1048576: true; the input reads as it did. -/
def octetsXorsUptoRow : OpenClaim := { program := "ytbagmmngepkaeaadoor", sum := "679b579c0e5b73457b01e87ac781acdee6c19fc8c5c07f3ecb6c36476cbcef90", func := "ashlar/ashlarlaw01.OctetsXors", spec := "octetsXors", named := ["ashlar/octets.lowRests", "ashlar/octets.highRests"], apart := false, laid := [("ashlar/octets.lowRests", laid_ashlar_octets_lowRests), ("ashlar/octets.highRests", laid_ashlar_octets_highRests)], narrowed := true }
def OctetsXorsUptoSaid : Prop := octetsXorsUptoRow.holds Tryd.pinned (OpenSpec.upto octetsXorsSpec)

/-- 'ashlarlaw01.OctetsTwice', WHERE WHAT IT READS IS OF BULK AT MOST 1048576: true; the input reads as it did. -/
def octetsTwiceUptoRow : OpenClaim := { program := "ytbagmmngepkaeaadoor", sum := "679b579c0e5b73457b01e87ac781acdee6c19fc8c5c07f3ecb6c36476cbcef90", func := "ashlar/ashlarlaw01.OctetsTwice", spec := "octetsTwice", named := ["ashlar/octets.lowRests", "ashlar/octets.highRests"], apart := false, laid := [("ashlar/octets.lowRests", laid_ashlar_octets_lowRests), ("ashlar/octets.highRests", laid_ashlar_octets_highRests)], narrowed := true }
def OctetsTwiceUptoSaid : Prop := octetsTwiceUptoRow.holds Tryd.pinned (OpenSpec.upto octetsTwiceSpec)

/-- 'ashlarlaw01.OctetsBits', WHERE WHAT IT READS IS OF BULK AT MOST 1048576: true; the input reads as it did. -/
def octetsBitsUptoRow : OpenClaim := { program := "ytbagmmngepkaeaadoor", sum := "679b579c0e5b73457b01e87ac781acdee6c19fc8c5c07f3ecb6c36476cbcef90", func := "ashlar/ashlarlaw01.OctetsBits", spec := "octetsBits", named := ["ashlar/octets.lowRests", "ashlar/octets.highRests"], apart := false, laid := [("ashlar/octets.lowRests", laid_ashlar_octets_lowRests), ("ashlar/octets.highRests", laid_ashlar_octets_highRests)], narrowed := true }
def OctetsBitsUptoSaid : Prop := octetsBitsUptoRow.holds Tryd.pinned (OpenSpec.upto octetsBitsSpec)

/-- 'ashlarlaw01.OctetsTaken', WHERE WHAT IT READS IS OF BULK AT MOST 1048576: true; the input reads as it did. -/
def octetsTakenUptoRow : OpenClaim := { program := "ytbagmmngepkaeaadoor", sum := "679b579c0e5b73457b01e87ac781acdee6c19fc8c5c07f3ecb6c36476cbcef90", func := "ashlar/ashlarlaw01.OctetsTaken", spec := "octetsTaken", named := ["ashlar/octets.lowRests", "ashlar/octets.highRests"], apart := false, laid := [("ashlar/octets.lowRests", laid_ashlar_octets_lowRests), ("ashlar/octets.highRests", laid_ashlar_octets_highRests)], narrowed := true }
def OctetsTakenUptoSaid : Prop := octetsTakenUptoRow.holds Tryd.pinned (OpenSpec.upto octetsTakenSpec)

end Rows
end Go.Proofs.YtbagmmngepkaeaaDoor
