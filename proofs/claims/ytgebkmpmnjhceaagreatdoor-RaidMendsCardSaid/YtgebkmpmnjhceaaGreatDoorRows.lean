/-
  NARROWER THAN 'FOR EVERY INPUT', by the rows' own cells (each row's printed sentence says how): RaidTurned: laid · RaidMends: laid · RaidBeyond: laid.
  DERIVED. THE GIVEN ROWS OF THIS SEAT. 3 by the template 'for every input the law returns true; each argument reads behind the call as it read before'; 0 by the template 'total and deterministic' (their statements: YtgebkmpmnjhceaaGreatDoorTotals.lean).
  GIVEN WITH THE SEED: the statements are not yours to turn. If you find one false, say at which input.
  Laid BY PROGRAM, IN A SANDBOX (cutbox-rows.mjs): the forced cells as the released guide's own fill.sh prints them over the translation 4a2ca17db231b0d2… (all of the seat's roots in one cut). By AI agents, Wed Nov 11 2026. No macro, syntax, notation, axiom, sorry.
-/
import Derived.Test.YtgebkmpmnjhceaaGreatDoorChecked
import GoSem.Claim
import GoSem.ClaimJoined
import GoSem.ClaimMapViews
import Derived.JoinedTies
import Derived.KernelRfl
namespace Go.Proofs.YtgebkmpmnjhceaaGreatDoor
/- THE CELL 'sum', in the pinned program and in every row, IS THE sha256 OF THE DUMP (.gsa) THAT YtgebkmpmnjhceaaGreatDoorProg.lean LOADS. Nothing in Lean hashes anything: it is a label: what it is worth is what the hold of that sum in a sandbox is worth. -/
noncomputable def Tryz.pinned : Pinned := { name := "ytgebkmpmnjhceaagreatdoor", sum := "4a2ca17db231b0d2c2aaa43eb079321f864da4397ad16d6e82d24b7c24b16990", checked := Tryz.checked }
namespace Rows
def none {H : Type} : Left H := { results := [], args := [] }

/- WHAT THE LISTED PACKAGE-LEVEL VARIABLES READ AS WHEN THE CALL BEGINS. Each datum BY PROGRAM (the guide's laid-datum.mjs) off the statement by which the dump's own 'gosem.cut.vars' lays the variable. In a bare row this is a premise. The card (YtgebkmpmnjhceaaGreatDoorCards.lean) ties it to the program's text. -/
def laid_ashlar_lay_places {H : Type} : DataW H := .agg [.lit (.int .i64 (-1)), .lit (.int .i64 0), .lit (.int .i64 1), .lit (.int .i64 2), .lit (.int .i64 3), .lit (.int .i64 4), .lit (.int .i64 5), .lit (.int .i64 6), .lit (.int .i64 7), .lit (.int .i64 8), .lit (.int .i64 9), .lit (.int .i64 10), .lit (.int .i64 11), .lit (.int .i64 12), .lit (.int .i64 13), .lit (.int .i64 14)]
def laid_ashlar_octets_lowRests {H : Type} : DataW H := .agg [.lit (.int .u32 0), .lit (.int .u32 4067132163), .lit (.int .u32 3778769143), .lit (.int .u32 324072436), .lit (.int .u32 3348797215), .lit (.int .u32 904991772), .lit (.int .u32 648144872), .lit (.int .u32 3570033899), .lit (.int .u32 2329499855), .lit (.int .u32 2024987596), .lit (.int .u32 1809983544), .lit (.int .u32 2575936315), .lit (.int .u32 1296289744), .lit (.int .u32 3207089363), .lit (.int .u32 2893594407), .lit (.int .u32 1578318884)]
def laid_ashlar_octets_highRests {H : Type} : DataW H := .agg [.lit (.int .u32 0), .lit (.int .u32 274646895), .lit (.int .u32 549293790), .lit (.int .u32 820201905), .lit (.int .u32 1098587580), .lit (.int .u32 1361435347), .lit (.int .u32 1640403810), .lit (.int .u32 1905808397), .lit (.int .u32 2197175160), .lit (.int .u32 2460548119), .lit (.int .u32 2722870694), .lit (.int .u32 2987750089), .lit (.int .u32 3280807620), .lit (.int .u32 3553878443), .lit (.int .u32 3811616794), .lit (.int .u32 4084100981)]
def laid_ashlar_ppl_fields {H : Type} : DataW H := .agg [.agg [.lit (.int .i64 4), .lit (.int .u64 1024)], .agg [.lit (.int .i64 8), .lit (.int .u64 15)], .agg [.lit (.int .i64 12), .lit (.int .u64 4294967296)]]
def laid_ashlar_super_widths {H : Type} : DataW H := .agg [.lit (.int .i64 8), .lit (.int .i64 1), .lit (.int .i64 1), .lit (.int .i64 1), .lit (.int .i64 1), .lit (.int .i64 4), .lit (.int .i64 4), .lit (.int .i64 4)]

/-- 'ashlarlaw08.RaidTurned': WHATEVER THE INPUT: true; the input reads as it did. -/
def raidTurnedSpec : ChangeSpec := { name := "raidTurned", fn := fun _ => fun
  | [d1, d2, d3, d4] => { results := [.lit (.bool true)], args := [d1, d2, d3, d4] }
  | _ => none }
def raidTurnedRow : OpenClaim := { program := "ytgebkmpmnjhceaagreatdoor", sum := "4a2ca17db231b0d2c2aaa43eb079321f864da4397ad16d6e82d24b7c24b16990", func := "ashlar/ashlarlaw08.RaidTurned", spec := "raidTurned", unfollowed := true, recurses := true, named := ["ashlar/octets.lowRests", "ashlar/octets.highRests", "ashlar/super.widths", "ashlar/ppl.fields", "ashlar/lay.places"], plainKeys := false, apart := false, laid := [("ashlar/lay.places", laid_ashlar_lay_places), ("ashlar/octets.lowRests", laid_ashlar_octets_lowRests), ("ashlar/octets.highRests", laid_ashlar_octets_highRests), ("ashlar/ppl.fields", laid_ashlar_ppl_fields), ("ashlar/super.widths", laid_ashlar_super_widths)] }
def RaidTurnedSaid : Prop := raidTurnedRow.holds Tryz.pinned (OpenSpec.ofChange raidTurnedSpec)

/-- ITS FALSE NEIGHBOUR: 'it returns false'. Refute it at one input. -/
def raidTurnedWrong : ChangeSpec := { name := "raidTurned", fn := fun _ => fun
  | [d1, d2, d3, d4] => { results := [.lit (.bool false)], args := [d1, d2, d3, d4] }
  | _ => none }
def RaidTurnedWrongFalsely : Prop := raidTurnedRow.holds Tryz.pinned (OpenSpec.ofChange raidTurnedWrong)

/-- 'ashlarlaw08.RaidMends': WHATEVER THE INPUT: true; the input reads as it did. -/
def raidMendsSpec : ChangeSpec := { name := "raidMends", fn := fun _ => fun
  | [d1, d2, d3, d4, d5] => { results := [.lit (.bool true)], args := [d1, d2, d3, d4, d5] }
  | _ => none }
def raidMendsRow : OpenClaim := { program := "ytgebkmpmnjhceaagreatdoor", sum := "4a2ca17db231b0d2c2aaa43eb079321f864da4397ad16d6e82d24b7c24b16990", func := "ashlar/ashlarlaw08.RaidMends", spec := "raidMends", unfollowed := true, recurses := true, named := ["ashlar/octets.lowRests", "ashlar/octets.highRests", "ashlar/super.widths", "ashlar/ppl.fields", "ashlar/lay.places"], plainKeys := false, apart := false, laid := [("ashlar/lay.places", laid_ashlar_lay_places), ("ashlar/octets.lowRests", laid_ashlar_octets_lowRests), ("ashlar/octets.highRests", laid_ashlar_octets_highRests), ("ashlar/ppl.fields", laid_ashlar_ppl_fields), ("ashlar/super.widths", laid_ashlar_super_widths)] }
def RaidMendsSaid : Prop := raidMendsRow.holds Tryz.pinned (OpenSpec.ofChange raidMendsSpec)

/-- ITS FALSE NEIGHBOUR: 'it returns false'. Refute it at one input. -/
def raidMendsWrong : ChangeSpec := { name := "raidMends", fn := fun _ => fun
  | [d1, d2, d3, d4, d5] => { results := [.lit (.bool false)], args := [d1, d2, d3, d4, d5] }
  | _ => none }
def RaidMendsWrongFalsely : Prop := raidMendsRow.holds Tryz.pinned (OpenSpec.ofChange raidMendsWrong)

/-- 'ashlarlaw08.RaidBeyond': WHATEVER THE INPUT: true; the input reads as it did. -/
def raidBeyondSpec : ChangeSpec := { name := "raidBeyond", fn := fun _ => fun
  | [d1, d2] => { results := [.lit (.bool true)], args := [d1, d2] }
  | _ => none }
def raidBeyondRow : OpenClaim := { program := "ytgebkmpmnjhceaagreatdoor", sum := "4a2ca17db231b0d2c2aaa43eb079321f864da4397ad16d6e82d24b7c24b16990", func := "ashlar/ashlarlaw08.RaidBeyond", spec := "raidBeyond", unfollowed := true, recurses := true, named := ["ashlar/octets.lowRests", "ashlar/octets.highRests", "ashlar/super.widths", "ashlar/ppl.fields"], plainKeys := false, apart := false, laid := [("ashlar/octets.lowRests", laid_ashlar_octets_lowRests), ("ashlar/octets.highRests", laid_ashlar_octets_highRests), ("ashlar/ppl.fields", laid_ashlar_ppl_fields), ("ashlar/super.widths", laid_ashlar_super_widths)] }
def RaidBeyondSaid : Prop := raidBeyondRow.holds Tryz.pinned (OpenSpec.ofChange raidBeyondSpec)

/-- ITS FALSE NEIGHBOUR: 'it returns false'. Refute it at one input. -/
def raidBeyondWrong : ChangeSpec := { name := "raidBeyond", fn := fun _ => fun
  | [d1, d2] => { results := [.lit (.bool false)], args := [d1, d2] }
  | _ => none }
def RaidBeyondWrongFalsely : Prop := raidBeyondRow.holds Tryz.pinned (OpenSpec.ofChange raidBeyondWrong)

/- THE SECOND FORM. 'bulk': how many values and letters a reading holds, each counted each time it is reached (what is shared counts as often as it is met; a slice's spare places count too). A statement '..UptoSaid' is the law's where the arguments, and the package variables that the reading takes, are together of bulk at most 1048576: NARROWER than '..Said'. Prove '..Said' where nothing that the law and all that it calls make is longer than what came in: it says more and counts as full. Else prove '..UptoSaid'. A law counts once. -/
mutual
def uptoBulk {H : Type} : DataW H → Nat
  | .lit (.string bytes) => bytes.length + 1
  | .lit _ => 1
  | .nil => 1
  | .ptr d => uptoBulk d + 1
  | .slice elems spare => uptoBulkAll elems + uptoBulkAll spare + 1
  | .agg parts => uptoBulkAll parts + 1
  | .iface _ d => uptoBulk d + 1
  | .map entries => uptoBulkEntries entries + 1
  | .held _ => 1
def uptoBulkAll {H : Type} : List (DataW H) → Nat
  | [] => 0
  | d :: r => uptoBulk d + uptoBulkAll r
def uptoBulkEntries {H : Type} : List (Lit × DataW H) → Nat
  | [] => 0
  | x :: r => uptoBulkEntry x + uptoBulkEntries r
def uptoBulkEntry {H : Type} : Lit × DataW H → Nat
  | (.string bytes, d) => bytes.length + uptoBulk d + 1
  | (_, d) => uptoBulk d + 1
 end
def uptoSmall : (H : Type) → List (DataW H) → Bool := fun _ ds => decide (uptoBulkAll ds ≤ 1048576)
def OpenSpec.upto (s : _root_.Go.ChangeSpec) : _root_.Go.OpenSpec := { _root_.Go.OpenSpec.ofChange s with cond := some uptoSmall }

/-- 'ashlarlaw08.RaidTurned', WHERE WHAT IT READS IS OF BULK AT MOST 1048576: true; the input reads as it did. -/
def raidTurnedUptoRow : OpenClaim := { program := "ytgebkmpmnjhceaagreatdoor", sum := "4a2ca17db231b0d2c2aaa43eb079321f864da4397ad16d6e82d24b7c24b16990", func := "ashlar/ashlarlaw08.RaidTurned", spec := "raidTurned", unfollowed := true, recurses := true, named := ["ashlar/octets.lowRests", "ashlar/octets.highRests", "ashlar/super.widths", "ashlar/ppl.fields", "ashlar/lay.places"], plainKeys := false, apart := false, laid := [("ashlar/lay.places", laid_ashlar_lay_places), ("ashlar/octets.lowRests", laid_ashlar_octets_lowRests), ("ashlar/octets.highRests", laid_ashlar_octets_highRests), ("ashlar/ppl.fields", laid_ashlar_ppl_fields), ("ashlar/super.widths", laid_ashlar_super_widths)], narrowed := true }
def RaidTurnedUptoSaid : Prop := raidTurnedUptoRow.holds Tryz.pinned (OpenSpec.upto raidTurnedSpec)

/-- 'ashlarlaw08.RaidMends', WHERE WHAT IT READS IS OF BULK AT MOST 1048576: true; the input reads as it did. -/
def raidMendsUptoRow : OpenClaim := { program := "ytgebkmpmnjhceaagreatdoor", sum := "4a2ca17db231b0d2c2aaa43eb079321f864da4397ad16d6e82d24b7c24b16990", func := "ashlar/ashlarlaw08.RaidMends", spec := "raidMends", unfollowed := true, recurses := true, named := ["ashlar/octets.lowRests", "ashlar/octets.highRests", "ashlar/super.widths", "ashlar/ppl.fields", "ashlar/lay.places"], plainKeys := false, apart := false, laid := [("ashlar/lay.places", laid_ashlar_lay_places), ("ashlar/octets.lowRests", laid_ashlar_octets_lowRests), ("ashlar/octets.highRests", laid_ashlar_octets_highRests), ("ashlar/ppl.fields", laid_ashlar_ppl_fields), ("ashlar/super.widths", laid_ashlar_super_widths)], narrowed := true }
def RaidMendsUptoSaid : Prop := raidMendsUptoRow.holds Tryz.pinned (OpenSpec.upto raidMendsSpec)

/-- 'ashlarlaw08.RaidBeyond', WHERE WHAT IT READS IS OF BULK AT MOST 1048576: true; the input reads as it did. -/
def raidBeyondUptoRow : OpenClaim := { program := "ytgebkmpmnjhceaagreatdoor", sum := "4a2ca17db231b0d2c2aaa43eb079321f864da4397ad16d6e82d24b7c24b16990", func := "ashlar/ashlarlaw08.RaidBeyond", spec := "raidBeyond", unfollowed := true, recurses := true, named := ["ashlar/octets.lowRests", "ashlar/octets.highRests", "ashlar/super.widths", "ashlar/ppl.fields"], plainKeys := false, apart := false, laid := [("ashlar/octets.lowRests", laid_ashlar_octets_lowRests), ("ashlar/octets.highRests", laid_ashlar_octets_highRests), ("ashlar/ppl.fields", laid_ashlar_ppl_fields), ("ashlar/super.widths", laid_ashlar_super_widths)], narrowed := true }
def RaidBeyondUptoSaid : Prop := raidBeyondUptoRow.holds Tryz.pinned (OpenSpec.upto raidBeyondSpec)

end Rows
end Go.Proofs.YtgebkmpmnjhceaaGreatDoor
