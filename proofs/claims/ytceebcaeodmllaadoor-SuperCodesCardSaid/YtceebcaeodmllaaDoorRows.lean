/-
  NARROWER THAN 'FOR EVERY INPUT', by the rows' own cells (each row's printed sentence says how): SuperCodes: laid · SuperBack: laid · SuperOnly: laid · SuperTurned: laid · SuperNewest: laid · SuperSlots: laid.
  DERIVED. THE GIVEN ROWS OF THIS SEAT. 6 by the template 'for every input the law returns true; each argument reads behind the call as it read before'; 0 by the template 'total and deterministic' (their statements: YtceebcaeodmllaaDoorTotals.lean).
  GIVEN WITH THE SEED: the statements are not yours to turn. If you find one false, say at which input.
  Laid BY PROGRAM, IN A SANDBOX (cutbox-rows.mjs): the forced cells as the released guide's own fill.sh prints them over the translation 8c3372b7f3427aa2… (all of the seat's roots in one cut). By AI agents, Wed Nov 11 2026. No macro, syntax, notation, axiom, sorry.
-/
import Derived.Test.YtceebcaeodmllaaDoorChecked
import GoSem.Claim
import GoSem.ClaimJoined
import GoSem.ClaimMapViews
import Derived.JoinedTies
import Derived.KernelRfl
namespace Go.Proofs.YtceebcaeodmllaaDoor
/- THE CELL 'sum', in the pinned program and in every row, IS THE sha256 OF THE DUMP (.gsa) THAT YtceebcaeodmllaaDoorProg.lean LOADS. Nothing in Lean hashes anything: it is a label: what it is worth is what the hold of that sum in a sandbox is worth. -/
noncomputable def Tryd.pinned : Pinned := { name := "ytceebcaeodmllaadoor", sum := "8c3372b7f3427aa27162c8dc1e61353397a3f9871136cd0ef086470415e1e27a", checked := Tryd.checked }
namespace Rows
def none {H : Type} : Left H := { results := [], args := [] }

/- WHAT THE LISTED PACKAGE-LEVEL VARIABLES READ AS WHEN THE CALL BEGINS. Each datum BY PROGRAM (the guide's laid-datum.mjs) off the statement by which the dump's own 'gosem.cut.vars' lays the variable. In a bare row this is a premise. The card (YtceebcaeodmllaaDoorCards.lean) ties it to the program's text. -/
def laid_ashlar_octets_lowRests {H : Type} : DataW H := .agg [.lit (.int .u32 0), .lit (.int .u32 4067132163), .lit (.int .u32 3778769143), .lit (.int .u32 324072436), .lit (.int .u32 3348797215), .lit (.int .u32 904991772), .lit (.int .u32 648144872), .lit (.int .u32 3570033899), .lit (.int .u32 2329499855), .lit (.int .u32 2024987596), .lit (.int .u32 1809983544), .lit (.int .u32 2575936315), .lit (.int .u32 1296289744), .lit (.int .u32 3207089363), .lit (.int .u32 2893594407), .lit (.int .u32 1578318884)]
def laid_ashlar_octets_highRests {H : Type} : DataW H := .agg [.lit (.int .u32 0), .lit (.int .u32 274646895), .lit (.int .u32 549293790), .lit (.int .u32 820201905), .lit (.int .u32 1098587580), .lit (.int .u32 1361435347), .lit (.int .u32 1640403810), .lit (.int .u32 1905808397), .lit (.int .u32 2197175160), .lit (.int .u32 2460548119), .lit (.int .u32 2722870694), .lit (.int .u32 2987750089), .lit (.int .u32 3280807620), .lit (.int .u32 3553878443), .lit (.int .u32 3811616794), .lit (.int .u32 4084100981)]
def laid_ashlar_super_widths {H : Type} : DataW H := .agg [.lit (.int .i64 8), .lit (.int .i64 1), .lit (.int .i64 1), .lit (.int .i64 1), .lit (.int .i64 1), .lit (.int .i64 4), .lit (.int .i64 4), .lit (.int .i64 4)]

/-- 'ashlarlaw04.SuperCodes': WHATEVER THE INPUT: true; the input reads as it did. -/
def superCodesSpec : ChangeSpec := { name := "superCodes", fn := fun _ => fun
  | [d1, d2] => { results := [.lit (.bool true)], args := [d1, d2] }
  | _ => none }
def superCodesRow : OpenClaim := { program := "ytceebcaeodmllaadoor", sum := "8c3372b7f3427aa27162c8dc1e61353397a3f9871136cd0ef086470415e1e27a", func := "ashlar/ashlarlaw04.SuperCodes", spec := "superCodes", named := ["ashlar/super.widths", "ashlar/octets.lowRests", "ashlar/octets.highRests"], apart := false, laid := [("ashlar/octets.lowRests", laid_ashlar_octets_lowRests), ("ashlar/octets.highRests", laid_ashlar_octets_highRests), ("ashlar/super.widths", laid_ashlar_super_widths)] }
def SuperCodesSaid : Prop := superCodesRow.holds Tryd.pinned (OpenSpec.ofChange superCodesSpec)

/-- ITS FALSE NEIGHBOUR: 'it returns false'. Refute it at one input. -/
def superCodesWrong : ChangeSpec := { name := "superCodes", fn := fun _ => fun
  | [d1, d2] => { results := [.lit (.bool false)], args := [d1, d2] }
  | _ => none }
def SuperCodesWrongFalsely : Prop := superCodesRow.holds Tryd.pinned (OpenSpec.ofChange superCodesWrong)

/-- 'ashlarlaw04.SuperBack': WHATEVER THE INPUT: true; the input reads as it did. -/
def superBackSpec : ChangeSpec := { name := "superBack", fn := fun _ => fun
  | [d] => { results := [.lit (.bool true)], args := [d] }
  | _ => none }
def superBackRow : OpenClaim := { program := "ytceebcaeodmllaadoor", sum := "8c3372b7f3427aa27162c8dc1e61353397a3f9871136cd0ef086470415e1e27a", func := "ashlar/ashlarlaw04.SuperBack", spec := "superBack", named := ["ashlar/super.widths", "ashlar/octets.lowRests", "ashlar/octets.highRests"], apart := false, laid := [("ashlar/octets.lowRests", laid_ashlar_octets_lowRests), ("ashlar/octets.highRests", laid_ashlar_octets_highRests), ("ashlar/super.widths", laid_ashlar_super_widths)] }
def SuperBackSaid : Prop := superBackRow.holds Tryd.pinned (OpenSpec.ofChange superBackSpec)

/-- ITS FALSE NEIGHBOUR: 'it returns false'. Refute it at one input. -/
def superBackWrong : ChangeSpec := { name := "superBack", fn := fun _ => fun
  | [d] => { results := [.lit (.bool false)], args := [d] }
  | _ => none }
def SuperBackWrongFalsely : Prop := superBackRow.holds Tryd.pinned (OpenSpec.ofChange superBackWrong)

/-- 'ashlarlaw04.SuperOnly': WHATEVER THE INPUT: true; the input reads as it did. -/
def superOnlySpec : ChangeSpec := { name := "superOnly", fn := fun _ => fun
  | [d] => { results := [.lit (.bool true)], args := [d] }
  | _ => none }
def superOnlyRow : OpenClaim := { program := "ytceebcaeodmllaadoor", sum := "8c3372b7f3427aa27162c8dc1e61353397a3f9871136cd0ef086470415e1e27a", func := "ashlar/ashlarlaw04.SuperOnly", spec := "superOnly", named := ["ashlar/super.widths", "ashlar/octets.lowRests", "ashlar/octets.highRests"], apart := false, laid := [("ashlar/octets.lowRests", laid_ashlar_octets_lowRests), ("ashlar/octets.highRests", laid_ashlar_octets_highRests), ("ashlar/super.widths", laid_ashlar_super_widths)] }
def SuperOnlySaid : Prop := superOnlyRow.holds Tryd.pinned (OpenSpec.ofChange superOnlySpec)

/-- ITS FALSE NEIGHBOUR: 'it returns false'. Refute it at one input. -/
def superOnlyWrong : ChangeSpec := { name := "superOnly", fn := fun _ => fun
  | [d] => { results := [.lit (.bool false)], args := [d] }
  | _ => none }
def SuperOnlyWrongFalsely : Prop := superOnlyRow.holds Tryd.pinned (OpenSpec.ofChange superOnlyWrong)

/-- 'ashlarlaw04.SuperTurned': WHATEVER THE INPUT: true; the input reads as it did. -/
def superTurnedSpec : ChangeSpec := { name := "superTurned", fn := fun _ => fun
  | [d1, d2, d3] => { results := [.lit (.bool true)], args := [d1, d2, d3] }
  | _ => none }
def superTurnedRow : OpenClaim := { program := "ytceebcaeodmllaadoor", sum := "8c3372b7f3427aa27162c8dc1e61353397a3f9871136cd0ef086470415e1e27a", func := "ashlar/ashlarlaw04.SuperTurned", spec := "superTurned", named := ["ashlar/super.widths", "ashlar/octets.lowRests", "ashlar/octets.highRests"], apart := false, laid := [("ashlar/octets.lowRests", laid_ashlar_octets_lowRests), ("ashlar/octets.highRests", laid_ashlar_octets_highRests), ("ashlar/super.widths", laid_ashlar_super_widths)] }
def SuperTurnedSaid : Prop := superTurnedRow.holds Tryd.pinned (OpenSpec.ofChange superTurnedSpec)

/-- ITS FALSE NEIGHBOUR: 'it returns false'. Refute it at one input. -/
def superTurnedWrong : ChangeSpec := { name := "superTurned", fn := fun _ => fun
  | [d1, d2, d3] => { results := [.lit (.bool false)], args := [d1, d2, d3] }
  | _ => none }
def SuperTurnedWrongFalsely : Prop := superTurnedRow.holds Tryd.pinned (OpenSpec.ofChange superTurnedWrong)

/-- 'ashlarlaw04.SuperNewest': WHATEVER THE INPUT: true; the input reads as it did. -/
def superNewestSpec : ChangeSpec := { name := "superNewest", fn := fun _ => fun
  | [d1, d2, d3, d4] => { results := [.lit (.bool true)], args := [d1, d2, d3, d4] }
  | _ => none }
def superNewestRow : OpenClaim := { program := "ytceebcaeodmllaadoor", sum := "8c3372b7f3427aa27162c8dc1e61353397a3f9871136cd0ef086470415e1e27a", func := "ashlar/ashlarlaw04.SuperNewest", spec := "superNewest", named := ["ashlar/super.widths", "ashlar/octets.lowRests", "ashlar/octets.highRests"], apart := false, laid := [("ashlar/octets.lowRests", laid_ashlar_octets_lowRests), ("ashlar/octets.highRests", laid_ashlar_octets_highRests), ("ashlar/super.widths", laid_ashlar_super_widths)] }
def SuperNewestSaid : Prop := superNewestRow.holds Tryd.pinned (OpenSpec.ofChange superNewestSpec)

/-- ITS FALSE NEIGHBOUR: 'it returns false'. Refute it at one input. -/
def superNewestWrong : ChangeSpec := { name := "superNewest", fn := fun _ => fun
  | [d1, d2, d3, d4] => { results := [.lit (.bool false)], args := [d1, d2, d3, d4] }
  | _ => none }
def SuperNewestWrongFalsely : Prop := superNewestRow.holds Tryd.pinned (OpenSpec.ofChange superNewestWrong)

/-- 'ashlarlaw04.SuperSlots': WHATEVER THE INPUT: true; the input reads as it did. -/
def superSlotsSpec : ChangeSpec := { name := "superSlots", fn := fun _ => fun
  | [d] => { results := [.lit (.bool true)], args := [d] }
  | _ => none }
def superSlotsRow : OpenClaim := { program := "ytceebcaeodmllaadoor", sum := "8c3372b7f3427aa27162c8dc1e61353397a3f9871136cd0ef086470415e1e27a", func := "ashlar/ashlarlaw04.SuperSlots", spec := "superSlots", named := ["ashlar/super.widths", "ashlar/octets.lowRests", "ashlar/octets.highRests"], apart := false, laid := [("ashlar/octets.lowRests", laid_ashlar_octets_lowRests), ("ashlar/octets.highRests", laid_ashlar_octets_highRests), ("ashlar/super.widths", laid_ashlar_super_widths)] }
def SuperSlotsSaid : Prop := superSlotsRow.holds Tryd.pinned (OpenSpec.ofChange superSlotsSpec)

/-- ITS FALSE NEIGHBOUR: 'it returns false'. Refute it at one input. -/
def superSlotsWrong : ChangeSpec := { name := "superSlots", fn := fun _ => fun
  | [d] => { results := [.lit (.bool false)], args := [d] }
  | _ => none }
def SuperSlotsWrongFalsely : Prop := superSlotsRow.holds Tryd.pinned (OpenSpec.ofChange superSlotsWrong)

/- THE SECOND FORM. 'bulk': how many values and letters a reading holds, each counted each time it is reached (what is shared counts as often as it is met; a slice's spare places count too). A statement '..UptoSaid' is the law's where the arguments, and the package variables that the reading takes, are together of bulk at most 1048576: NARROWER than '..Said'. Prove '..Said' where nothing that the law and all that it calls make is longer than what came in: it says more and counts as full. Else prove '..UptoSaid'. A law counts once. -/
mutual
def uptoBulk {H : Type} : DataW H → Nat
  | .lit (.string bytes) => bytes.length + 1
  | .lit _ => 1
  | .nil => 1
  | .ptr d => uptoBulk d + 1
  | .slice elems spare => uptoBulkAll elems + uptoBulkAll spare + 1
  | .agg parts => uptoBulkAll parts + 1
  | .iface _ d => uptoBulk d + 1
  | .map entries => uptoBulkEntries entries + 1
  | .held _ => 1
def uptoBulkAll {H : Type} : List (DataW H) → Nat
  | [] => 0
  | d :: r => uptoBulk d + uptoBulkAll r
def uptoBulkEntries {H : Type} : List (Lit × DataW H) → Nat
  | [] => 0
  | x :: r => uptoBulkEntry x + uptoBulkEntries r
def uptoBulkEntry {H : Type} : Lit × DataW H → Nat
  | (.string bytes, d) => bytes.length + uptoBulk d + 1
  | (_, d) => uptoBulk d + 1
 end
def uptoSmall : (H : Type) → List (DataW H) → Bool := fun _ ds => decide (uptoBulkAll ds ≤ 1048576)
def OpenSpec.upto (s : _root_.Go.ChangeSpec) : _root_.Go.OpenSpec := { _root_.Go.OpenSpec.ofChange s with cond := some uptoSmall }

/-- 'ashlarlaw04.SuperCodes', WHERE WHAT IT READS IS OF BULK AT MOST 1048576: true; the input reads as it did. -/
def superCodesUptoRow : OpenClaim := { program := "ytceebcaeodmllaadoor", sum := "8c3372b7f3427aa27162c8dc1e61353397a3f9871136cd0ef086470415e1e27a", func := "ashlar/ashlarlaw04.SuperCodes", spec := "superCodes", named := ["ashlar/super.widths", "ashlar/octets.lowRests", "ashlar/octets.highRests"], apart := false, laid := [("ashlar/octets.lowRests", laid_ashlar_octets_lowRests), ("ashlar/octets.highRests", laid_ashlar_octets_highRests), ("ashlar/super.widths", laid_ashlar_super_widths)], narrowed := true }
def SuperCodesUptoSaid : Prop := superCodesUptoRow.holds Tryd.pinned (OpenSpec.upto superCodesSpec)

/-- 'ashlarlaw04.SuperBack', WHERE WHAT IT READS IS OF BULK AT MOST 1048576: true; the input reads as it did. -/
def superBackUptoRow : OpenClaim := { program := "ytceebcaeodmllaadoor", sum := "8c3372b7f3427aa27162c8dc1e61353397a3f9871136cd0ef086470415e1e27a", func := "ashlar/ashlarlaw04.SuperBack", spec := "superBack", named := ["ashlar/super.widths", "ashlar/octets.lowRests", "ashlar/octets.highRests"], apart := false, laid := [("ashlar/octets.lowRests", laid_ashlar_octets_lowRests), ("ashlar/octets.highRests", laid_ashlar_octets_highRests), ("ashlar/super.widths", laid_ashlar_super_widths)], narrowed := true }
def SuperBackUptoSaid : Prop := superBackUptoRow.holds Tryd.pinned (OpenSpec.upto superBackSpec)

/-- 'ashlarlaw04.SuperOnly', WHERE WHAT IT READS IS OF BULK AT MOST 1048576: true; the input reads as it did. -/
def superOnlyUptoRow : OpenClaim := { program := "ytceebcaeodmllaadoor", sum := "8c3372b7f3427aa27162c8dc1e61353397a3f9871136cd0ef086470415e1e27a", func := "ashlar/ashlarlaw04.SuperOnly", spec := "superOnly", named := ["ashlar/super.widths", "ashlar/octets.lowRests", "ashlar/octets.highRests"], apart := false, laid := [("ashlar/octets.lowRests", laid_ashlar_octets_lowRests), ("ashlar/octets.highRests", laid_ashlar_octets_highRests), ("ashlar/super.widths", laid_ashlar_super_widths)], narrowed := true }
def SuperOnlyUptoSaid : Prop := superOnlyUptoRow.holds Tryd.pinned (OpenSpec.upto superOnlySpec)

/-- 'ashlarlaw04.SuperTurned', WHERE WHAT IT READS IS OF BULK AT MOST 1048576: true; the input reads as it did. -/
def superTurnedUptoRow : OpenClaim := { program := "ytceebcaeodmllaadoor", sum := "8c3372b7f3427aa27162c8dc1e61353397a3f9871136cd0ef086470415e1e27a", func := "ashlar/ashlarlaw04.SuperTurned", spec := "superTurned", named := ["ashlar/super.widths", "ashlar/octets.lowRests", "ashlar/octets.highRests"], apart := false, laid := [("ashlar/octets.lowRests", laid_ashlar_octets_lowRests), ("ashlar/octets.highRests", laid_ashlar_octets_highRests), ("ashlar/super.widths", laid_ashlar_super_widths)], narrowed := true }
def SuperTurnedUptoSaid : Prop := superTurnedUptoRow.holds Tryd.pinned (OpenSpec.upto superTurnedSpec)

/-- 'ashlarlaw04.SuperNewest', WHERE WHAT IT READS IS OF BULK AT MOST 1048576: true; the input reads as it did. -/
def superNewestUptoRow : OpenClaim := { program := "ytceebcaeodmllaadoor", sum := "8c3372b7f3427aa27162c8dc1e61353397a3f9871136cd0ef086470415e1e27a", func := "ashlar/ashlarlaw04.SuperNewest", spec := "superNewest", named := ["ashlar/super.widths", "ashlar/octets.lowRests", "ashlar/octets.highRests"], apart := false, laid := [("ashlar/octets.lowRests", laid_ashlar_octets_lowRests), ("ashlar/octets.highRests", laid_ashlar_octets_highRests), ("ashlar/super.widths", laid_ashlar_super_widths)], narrowed := true }
def SuperNewestUptoSaid : Prop := superNewestUptoRow.holds Tryd.pinned (OpenSpec.upto superNewestSpec)

/-- 'ashlarlaw04.SuperSlots', WHERE WHAT IT READS IS OF BULK AT MOST 1048576: true; the input reads as it did. -/
def superSlotsUptoRow : OpenClaim := { program := "ytceebcaeodmllaadoor", sum := "8c3372b7f3427aa27162c8dc1e61353397a3f9871136cd0ef086470415e1e27a", func := "ashlar/ashlarlaw04.SuperSlots", spec := "superSlots", named := ["ashlar/super.widths", "ashlar/octets.lowRests", "ashlar/octets.highRests"], apart := false, laid := [("ashlar/octets.lowRests", laid_ashlar_octets_lowRests), ("ashlar/octets.highRests", laid_ashlar_octets_highRests), ("ashlar/super.widths", laid_ashlar_super_widths)], narrowed := true }
def SuperSlotsUptoSaid : Prop := superSlotsUptoRow.holds Tryd.pinned (OpenSpec.upto superSlotsSpec)

end Rows
end Go.Proofs.YtceebcaeodmllaaDoor
