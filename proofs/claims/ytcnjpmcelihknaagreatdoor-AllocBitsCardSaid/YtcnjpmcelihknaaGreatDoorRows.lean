/-
  NARROWER THAN 'FOR EVERY INPUT', by the rows' own cells (each row's printed sentence says how): JournalCodes: laid · JournalTells: laid · JournalBack: laid · JournalFull: laid · JournalNobody: laid · AllocOnce: laid · AllocBits: laid · AllocFull: laid · AllocNobody: laid.
  DERIVED. THE GIVEN ROWS OF THIS SEAT. 9 by the template 'for every input the law returns true; each argument reads behind the call as it read before'; 0 by the template 'total and deterministic' (their statements: YtcnjpmcelihknaaGreatDoorTotals.lean).
  GIVEN WITH THE SEED: the statements are not yours to turn. If you find one false, say at which input.
  Laid BY PROGRAM, IN A SANDBOX (cutbox-rows.mjs): the forced cells as the released guide's own fill.sh prints them over the translation 70fffde5a6725a14… (all of the seat's roots in one cut). By AI agents, Wed Nov 11 2026. No macro, syntax, notation, axiom, sorry.
-/
import Derived.Test.YtcnjpmcelihknaaGreatDoorChecked
import GoSem.Claim
import GoSem.ClaimJoined
import GoSem.ClaimMapViews
import Derived.JoinedTies
import Derived.KernelRfl
namespace Go.Proofs.YtcnjpmcelihknaaGreatDoor
/- THE CELL 'sum', in the pinned program and in every row, IS THE sha256 OF THE DUMP (.gsa) THAT YtcnjpmcelihknaaGreatDoorProg.lean LOADS. Nothing in Lean hashes anything: it is a label: what it is worth is what the hold of that sum in a sandbox is worth. -/
noncomputable def Tryz.pinned : Pinned := { name := "ytcnjpmcelihknaagreatdoor", sum := "70fffde5a6725a14ed59770dc8c23bb59d72fadccbd289fca1f656757129df54", checked := Tryz.checked }
namespace Rows
def none {H : Type} : Left H := { results := [], args := [] }

/- WHAT THE LISTED PACKAGE-LEVEL VARIABLES READ AS WHEN THE CALL BEGINS. Each datum BY PROGRAM (the guide's laid-datum.mjs) off the statement by which the dump's own 'gosem.cut.vars' lays the variable. In a bare row this is a premise. The card (YtcnjpmcelihknaaGreatDoorCards.lean) ties it to the program's text. -/
def laid_ashlar_lay_places {H : Type} : DataW H := .agg [.lit (.int .i64 (-1)), .lit (.int .i64 0), .lit (.int .i64 1), .lit (.int .i64 2), .lit (.int .i64 3), .lit (.int .i64 4), .lit (.int .i64 5), .lit (.int .i64 6), .lit (.int .i64 7), .lit (.int .i64 8), .lit (.int .i64 9), .lit (.int .i64 10), .lit (.int .i64 11), .lit (.int .i64 12), .lit (.int .i64 13), .lit (.int .i64 14)]
def laid_ashlar_octets_lowRests {H : Type} : DataW H := .agg [.lit (.int .u32 0), .lit (.int .u32 4067132163), .lit (.int .u32 3778769143), .lit (.int .u32 324072436), .lit (.int .u32 3348797215), .lit (.int .u32 904991772), .lit (.int .u32 648144872), .lit (.int .u32 3570033899), .lit (.int .u32 2329499855), .lit (.int .u32 2024987596), .lit (.int .u32 1809983544), .lit (.int .u32 2575936315), .lit (.int .u32 1296289744), .lit (.int .u32 3207089363), .lit (.int .u32 2893594407), .lit (.int .u32 1578318884)]
def laid_ashlar_octets_highRests {H : Type} : DataW H := .agg [.lit (.int .u32 0), .lit (.int .u32 274646895), .lit (.int .u32 549293790), .lit (.int .u32 820201905), .lit (.int .u32 1098587580), .lit (.int .u32 1361435347), .lit (.int .u32 1640403810), .lit (.int .u32 1905808397), .lit (.int .u32 2197175160), .lit (.int .u32 2460548119), .lit (.int .u32 2722870694), .lit (.int .u32 2987750089), .lit (.int .u32 3280807620), .lit (.int .u32 3553878443), .lit (.int .u32 3811616794), .lit (.int .u32 4084100981)]
def laid_ashlar_ppl_fields {H : Type} : DataW H := .agg [.agg [.lit (.int .i64 4), .lit (.int .u64 1024)], .agg [.lit (.int .i64 8), .lit (.int .u64 15)], .agg [.lit (.int .i64 12), .lit (.int .u64 4294967296)]]
def laid_ashlar_super_widths {H : Type} : DataW H := .agg [.lit (.int .i64 8), .lit (.int .i64 1), .lit (.int .i64 1), .lit (.int .i64 1), .lit (.int .i64 1), .lit (.int .i64 4), .lit (.int .i64 4), .lit (.int .i64 4)]

/-- 'ashlarlaw11.JournalCodes': WHATEVER THE INPUT: true; the input reads as it did. -/
def journalCodesSpec : ChangeSpec := { name := "journalCodes", fn := fun _ => fun
  | [d1, d2, d3, d4] => { results := [.lit (.bool true)], args := [d1, d2, d3, d4] }
  | _ => none }
def journalCodesRow : OpenClaim := { program := "ytcnjpmcelihknaagreatdoor", sum := "70fffde5a6725a14ed59770dc8c23bb59d72fadccbd289fca1f656757129df54", func := "ashlar/ashlarlaw11.JournalCodes", spec := "journalCodes", unfollowed := true, recurses := true, named := ["ashlar/octets.lowRests", "ashlar/octets.highRests", "ashlar/super.widths", "ashlar/ppl.fields", "ashlar/lay.places"], plainKeys := false, apart := false, laid := [("ashlar/lay.places", laid_ashlar_lay_places), ("ashlar/octets.lowRests", laid_ashlar_octets_lowRests), ("ashlar/octets.highRests", laid_ashlar_octets_highRests), ("ashlar/ppl.fields", laid_ashlar_ppl_fields), ("ashlar/super.widths", laid_ashlar_super_widths)] }
def JournalCodesSaid : Prop := journalCodesRow.holds Tryz.pinned (OpenSpec.ofChange journalCodesSpec)

/-- ITS FALSE NEIGHBOUR: 'it returns false'. Refute it at one input. -/
def journalCodesWrong : ChangeSpec := { name := "journalCodes", fn := fun _ => fun
  | [d1, d2, d3, d4] => { results := [.lit (.bool false)], args := [d1, d2, d3, d4] }
  | _ => none }
def JournalCodesWrongFalsely : Prop := journalCodesRow.holds Tryz.pinned (OpenSpec.ofChange journalCodesWrong)

/-- 'ashlarlaw11.JournalTells': WHATEVER THE INPUT: true; the input reads as it did. -/
def journalTellsSpec : ChangeSpec := { name := "journalTells", fn := fun _ => fun
  | [d] => { results := [.lit (.bool true)], args := [d] }
  | _ => none }
def journalTellsRow : OpenClaim := { program := "ytcnjpmcelihknaagreatdoor", sum := "70fffde5a6725a14ed59770dc8c23bb59d72fadccbd289fca1f656757129df54", func := "ashlar/ashlarlaw11.JournalTells", spec := "journalTells", unfollowed := true, recurses := true, named := ["ashlar/octets.lowRests", "ashlar/octets.highRests", "ashlar/super.widths", "ashlar/ppl.fields", "ashlar/lay.places"], plainKeys := false, apart := false, laid := [("ashlar/lay.places", laid_ashlar_lay_places), ("ashlar/octets.lowRests", laid_ashlar_octets_lowRests), ("ashlar/octets.highRests", laid_ashlar_octets_highRests), ("ashlar/ppl.fields", laid_ashlar_ppl_fields), ("ashlar/super.widths", laid_ashlar_super_widths)] }
def JournalTellsSaid : Prop := journalTellsRow.holds Tryz.pinned (OpenSpec.ofChange journalTellsSpec)

/-- ITS FALSE NEIGHBOUR: 'it returns false'. Refute it at one input. -/
def journalTellsWrong : ChangeSpec := { name := "journalTells", fn := fun _ => fun
  | [d] => { results := [.lit (.bool false)], args := [d] }
  | _ => none }
def JournalTellsWrongFalsely : Prop := journalTellsRow.holds Tryz.pinned (OpenSpec.ofChange journalTellsWrong)

/-- 'ashlarlaw11.JournalBack': WHATEVER THE INPUT: true; the input reads as it did. -/
def journalBackSpec : ChangeSpec := { name := "journalBack", fn := fun _ => fun
  | [d1, d2, d3, d4, d5, d6] => { results := [.lit (.bool true)], args := [d1, d2, d3, d4, d5, d6] }
  | _ => none }
def journalBackRow : OpenClaim := { program := "ytcnjpmcelihknaagreatdoor", sum := "70fffde5a6725a14ed59770dc8c23bb59d72fadccbd289fca1f656757129df54", func := "ashlar/ashlarlaw11.JournalBack", spec := "journalBack", unfollowed := true, recurses := true, named := ["ashlar/octets.lowRests", "ashlar/octets.highRests", "ashlar/super.widths", "ashlar/ppl.fields", "ashlar/lay.places"], plainKeys := false, apart := false, laid := [("ashlar/lay.places", laid_ashlar_lay_places), ("ashlar/octets.lowRests", laid_ashlar_octets_lowRests), ("ashlar/octets.highRests", laid_ashlar_octets_highRests), ("ashlar/ppl.fields", laid_ashlar_ppl_fields), ("ashlar/super.widths", laid_ashlar_super_widths)] }
def JournalBackSaid : Prop := journalBackRow.holds Tryz.pinned (OpenSpec.ofChange journalBackSpec)

/-- ITS FALSE NEIGHBOUR: 'it returns false'. Refute it at one input. -/
def journalBackWrong : ChangeSpec := { name := "journalBack", fn := fun _ => fun
  | [d1, d2, d3, d4, d5, d6] => { results := [.lit (.bool false)], args := [d1, d2, d3, d4, d5, d6] }
  | _ => none }
def JournalBackWrongFalsely : Prop := journalBackRow.holds Tryz.pinned (OpenSpec.ofChange journalBackWrong)

/-- 'ashlarlaw11.JournalFull': WHATEVER THE INPUT: true; the input reads as it did. -/
def journalFullSpec : ChangeSpec := { name := "journalFull", fn := fun _ => fun
  | [d1, d2] => { results := [.lit (.bool true)], args := [d1, d2] }
  | _ => none }
def journalFullRow : OpenClaim := { program := "ytcnjpmcelihknaagreatdoor", sum := "70fffde5a6725a14ed59770dc8c23bb59d72fadccbd289fca1f656757129df54", func := "ashlar/ashlarlaw11.JournalFull", spec := "journalFull", unfollowed := true, recurses := true, named := ["ashlar/octets.lowRests", "ashlar/octets.highRests", "ashlar/super.widths", "ashlar/ppl.fields", "ashlar/lay.places"], plainKeys := false, apart := false, laid := [("ashlar/lay.places", laid_ashlar_lay_places), ("ashlar/octets.lowRests", laid_ashlar_octets_lowRests), ("ashlar/octets.highRests", laid_ashlar_octets_highRests), ("ashlar/ppl.fields", laid_ashlar_ppl_fields), ("ashlar/super.widths", laid_ashlar_super_widths)] }
def JournalFullSaid : Prop := journalFullRow.holds Tryz.pinned (OpenSpec.ofChange journalFullSpec)

/-- ITS FALSE NEIGHBOUR: 'it returns false'. Refute it at one input. -/
def journalFullWrong : ChangeSpec := { name := "journalFull", fn := fun _ => fun
  | [d1, d2] => { results := [.lit (.bool false)], args := [d1, d2] }
  | _ => none }
def JournalFullWrongFalsely : Prop := journalFullRow.holds Tryz.pinned (OpenSpec.ofChange journalFullWrong)

/-- 'ashlarlaw11.JournalNobody': WHATEVER THE INPUT: true; the input reads as it did. -/
def journalNobodySpec : ChangeSpec := { name := "journalNobody", fn := fun _ => fun
  | [d1, d2, d3, d4] => { results := [.lit (.bool true)], args := [d1, d2, d3, d4] }
  | _ => none }
def journalNobodyRow : OpenClaim := { program := "ytcnjpmcelihknaagreatdoor", sum := "70fffde5a6725a14ed59770dc8c23bb59d72fadccbd289fca1f656757129df54", func := "ashlar/ashlarlaw11.JournalNobody", spec := "journalNobody", unfollowed := true, recurses := true, named := ["ashlar/octets.lowRests", "ashlar/octets.highRests", "ashlar/ppl.fields", "ashlar/super.widths", "ashlar/lay.places"], plainKeys := false, apart := false, laid := [("ashlar/lay.places", laid_ashlar_lay_places), ("ashlar/octets.lowRests", laid_ashlar_octets_lowRests), ("ashlar/octets.highRests", laid_ashlar_octets_highRests), ("ashlar/ppl.fields", laid_ashlar_ppl_fields), ("ashlar/super.widths", laid_ashlar_super_widths)] }
def JournalNobodySaid : Prop := journalNobodyRow.holds Tryz.pinned (OpenSpec.ofChange journalNobodySpec)

/-- ITS FALSE NEIGHBOUR: 'it returns false'. Refute it at one input. -/
def journalNobodyWrong : ChangeSpec := { name := "journalNobody", fn := fun _ => fun
  | [d1, d2, d3, d4] => { results := [.lit (.bool false)], args := [d1, d2, d3, d4] }
  | _ => none }
def JournalNobodyWrongFalsely : Prop := journalNobodyRow.holds Tryz.pinned (OpenSpec.ofChange journalNobodyWrong)

/-- 'ashlarlaw12.AllocOnce': WHATEVER THE INPUT: true; the input reads as it did. -/
def allocOnceSpec : ChangeSpec := { name := "allocOnce", fn := fun _ => fun
  | [d1, d2] => { results := [.lit (.bool true)], args := [d1, d2] }
  | _ => none }
def allocOnceRow : OpenClaim := { program := "ytcnjpmcelihknaagreatdoor", sum := "70fffde5a6725a14ed59770dc8c23bb59d72fadccbd289fca1f656757129df54", func := "ashlar/ashlarlaw12.AllocOnce", spec := "allocOnce", unfollowed := true, recurses := true, named := ["ashlar/octets.lowRests", "ashlar/octets.highRests", "ashlar/super.widths", "ashlar/ppl.fields"], plainKeys := false, apart := false, laid := [("ashlar/octets.lowRests", laid_ashlar_octets_lowRests), ("ashlar/octets.highRests", laid_ashlar_octets_highRests), ("ashlar/ppl.fields", laid_ashlar_ppl_fields), ("ashlar/super.widths", laid_ashlar_super_widths)] }
def AllocOnceSaid : Prop := allocOnceRow.holds Tryz.pinned (OpenSpec.ofChange allocOnceSpec)

/-- ITS FALSE NEIGHBOUR: 'it returns false'. Refute it at one input. -/
def allocOnceWrong : ChangeSpec := { name := "allocOnce", fn := fun _ => fun
  | [d1, d2] => { results := [.lit (.bool false)], args := [d1, d2] }
  | _ => none }
def AllocOnceWrongFalsely : Prop := allocOnceRow.holds Tryz.pinned (OpenSpec.ofChange allocOnceWrong)

/-- 'ashlarlaw12.AllocBits': WHATEVER THE INPUT: true; the input reads as it did. -/
def allocBitsSpec : ChangeSpec := { name := "allocBits", fn := fun _ => fun
  | [d1, d2, d3, d4] => { results := [.lit (.bool true)], args := [d1, d2, d3, d4] }
  | _ => none }
def allocBitsRow : OpenClaim := { program := "ytcnjpmcelihknaagreatdoor", sum := "70fffde5a6725a14ed59770dc8c23bb59d72fadccbd289fca1f656757129df54", func := "ashlar/ashlarlaw12.AllocBits", spec := "allocBits", unfollowed := true, recurses := true, named := ["ashlar/octets.lowRests", "ashlar/octets.highRests", "ashlar/super.widths", "ashlar/ppl.fields"], plainKeys := false, apart := false, laid := [("ashlar/octets.lowRests", laid_ashlar_octets_lowRests), ("ashlar/octets.highRests", laid_ashlar_octets_highRests), ("ashlar/ppl.fields", laid_ashlar_ppl_fields), ("ashlar/super.widths", laid_ashlar_super_widths)] }
def AllocBitsSaid : Prop := allocBitsRow.holds Tryz.pinned (OpenSpec.ofChange allocBitsSpec)

/-- ITS FALSE NEIGHBOUR: 'it returns false'. Refute it at one input. -/
def allocBitsWrong : ChangeSpec := { name := "allocBits", fn := fun _ => fun
  | [d1, d2, d3, d4] => { results := [.lit (.bool false)], args := [d1, d2, d3, d4] }
  | _ => none }
def AllocBitsWrongFalsely : Prop := allocBitsRow.holds Tryz.pinned (OpenSpec.ofChange allocBitsWrong)

/-- 'ashlarlaw12.AllocFull': WHATEVER THE INPUT: true; the input reads as it did. -/
def allocFullSpec : ChangeSpec := { name := "allocFull", fn := fun _ => fun
  | [d1, d2] => { results := [.lit (.bool true)], args := [d1, d2] }
  | _ => none }
def allocFullRow : OpenClaim := { program := "ytcnjpmcelihknaagreatdoor", sum := "70fffde5a6725a14ed59770dc8c23bb59d72fadccbd289fca1f656757129df54", func := "ashlar/ashlarlaw12.AllocFull", spec := "allocFull", unfollowed := true, recurses := true, named := ["ashlar/octets.lowRests", "ashlar/octets.highRests", "ashlar/super.widths", "ashlar/ppl.fields"], plainKeys := false, apart := false, laid := [("ashlar/octets.lowRests", laid_ashlar_octets_lowRests), ("ashlar/octets.highRests", laid_ashlar_octets_highRests), ("ashlar/ppl.fields", laid_ashlar_ppl_fields), ("ashlar/super.widths", laid_ashlar_super_widths)] }
def AllocFullSaid : Prop := allocFullRow.holds Tryz.pinned (OpenSpec.ofChange allocFullSpec)

/-- ITS FALSE NEIGHBOUR: 'it returns false'. Refute it at one input. -/
def allocFullWrong : ChangeSpec := { name := "allocFull", fn := fun _ => fun
  | [d1, d2] => { results := [.lit (.bool false)], args := [d1, d2] }
  | _ => none }
def AllocFullWrongFalsely : Prop := allocFullRow.holds Tryz.pinned (OpenSpec.ofChange allocFullWrong)

/-- 'ashlarlaw12.AllocNobody': WHATEVER THE INPUT: true; the input reads as it did. -/
def allocNobodySpec : ChangeSpec := { name := "allocNobody", fn := fun _ => fun
  | [d1, d2, d3] => { results := [.lit (.bool true)], args := [d1, d2, d3] }
  | _ => none }
def allocNobodyRow : OpenClaim := { program := "ytcnjpmcelihknaagreatdoor", sum := "70fffde5a6725a14ed59770dc8c23bb59d72fadccbd289fca1f656757129df54", func := "ashlar/ashlarlaw12.AllocNobody", spec := "allocNobody", unfollowed := true, recurses := true, named := ["ashlar/octets.lowRests", "ashlar/octets.highRests", "ashlar/super.widths", "ashlar/ppl.fields"], plainKeys := false, apart := false, laid := [("ashlar/octets.lowRests", laid_ashlar_octets_lowRests), ("ashlar/octets.highRests", laid_ashlar_octets_highRests), ("ashlar/ppl.fields", laid_ashlar_ppl_fields), ("ashlar/super.widths", laid_ashlar_super_widths)] }
def AllocNobodySaid : Prop := allocNobodyRow.holds Tryz.pinned (OpenSpec.ofChange allocNobodySpec)

/-- ITS FALSE NEIGHBOUR: 'it returns false'. Refute it at one input. -/
def allocNobodyWrong : ChangeSpec := { name := "allocNobody", fn := fun _ => fun
  | [d1, d2, d3] => { results := [.lit (.bool false)], args := [d1, d2, d3] }
  | _ => none }
def AllocNobodyWrongFalsely : Prop := allocNobodyRow.holds Tryz.pinned (OpenSpec.ofChange allocNobodyWrong)

/- THE SECOND FORM. 'bulk': how many values and letters a reading holds, each counted each time it is reached (what is shared counts as often as it is met; a slice's spare places count too). A statement '..UptoSaid' is the law's where the arguments, and the package variables that the reading takes, are together of bulk at most 1048576: NARROWER than '..Said'. Prove '..Said' where nothing that the law and all that it calls make is longer than what came in: it says more and counts as full. Else prove '..UptoSaid'. A law counts once. -/
mutual
def uptoBulk {H : Type} : DataW H → Nat
  | .lit (.string bytes) => bytes.length + 1
  | .lit _ => 1
  | .nil => 1
  | .ptr d => uptoBulk d + 1
  | .slice elems spare => uptoBulkAll elems + uptoBulkAll spare + 1
  | .agg parts => uptoBulkAll parts + 1
  | .iface _ d => uptoBulk d + 1
  | .map entries => uptoBulkEntries entries + 1
  | .held _ => 1
def uptoBulkAll {H : Type} : List (DataW H) → Nat
  | [] => 0
  | d :: r => uptoBulk d + uptoBulkAll r
def uptoBulkEntries {H : Type} : List (Lit × DataW H) → Nat
  | [] => 0
  | x :: r => uptoBulkEntry x + uptoBulkEntries r
def uptoBulkEntry {H : Type} : Lit × DataW H → Nat
  | (.string bytes, d) => bytes.length + uptoBulk d + 1
  | (_, d) => uptoBulk d + 1
 end
def uptoSmall : (H : Type) → List (DataW H) → Bool := fun _ ds => decide (uptoBulkAll ds ≤ 1048576)
def OpenSpec.upto (s : _root_.Go.ChangeSpec) : _root_.Go.OpenSpec := { _root_.Go.OpenSpec.ofChange s with cond := some uptoSmall }

/-- 'ashlarlaw11.JournalCodes', WHERE WHAT IT READS IS OF BULK AT MOST 1048576: true; the input reads as it did. -/
def journalCodesUptoRow : OpenClaim := { program := "ytcnjpmcelihknaagreatdoor", sum := "70fffde5a6725a14ed59770dc8c23bb59d72fadccbd289fca1f656757129df54", func := "ashlar/ashlarlaw11.JournalCodes", spec := "journalCodes", unfollowed := true, recurses := true, named := ["ashlar/octets.lowRests", "ashlar/octets.highRests", "ashlar/super.widths", "ashlar/ppl.fields", "ashlar/lay.places"], plainKeys := false, apart := false, laid := [("ashlar/lay.places", laid_ashlar_lay_places), ("ashlar/octets.lowRests", laid_ashlar_octets_lowRests), ("ashlar/octets.highRests", laid_ashlar_octets_highRests), ("ashlar/ppl.fields", laid_ashlar_ppl_fields), ("ashlar/super.widths", laid_ashlar_super_widths)], narrowed := true }
def JournalCodesUptoSaid : Prop := journalCodesUptoRow.holds Tryz.pinned (OpenSpec.upto journalCodesSpec)

/-- 'ashlarlaw11.JournalTells', WHERE WHAT IT READS IS OF BULK AT MOST 1048576: true; the input reads as it did. -/
def journalTellsUptoRow : OpenClaim := { program := "ytcnjpmcelihknaagreatdoor", sum := "70fffde5a6725a14ed59770dc8c23bb59d72fadccbd289fca1f656757129df54", func := "ashlar/ashlarlaw11.JournalTells", spec := "journalTells", unfollowed := true, recurses := true, named := ["ashlar/octets.lowRests", "ashlar/octets.highRests", "ashlar/super.widths", "ashlar/ppl.fields", "ashlar/lay.places"], plainKeys := false, apart := false, laid := [("ashlar/lay.places", laid_ashlar_lay_places), ("ashlar/octets.lowRests", laid_ashlar_octets_lowRests), ("ashlar/octets.highRests", laid_ashlar_octets_highRests), ("ashlar/ppl.fields", laid_ashlar_ppl_fields), ("ashlar/super.widths", laid_ashlar_super_widths)], narrowed := true }
def JournalTellsUptoSaid : Prop := journalTellsUptoRow.holds Tryz.pinned (OpenSpec.upto journalTellsSpec)

/-- 'ashlarlaw11.JournalBack', WHERE WHAT IT READS IS OF BULK AT MOST 1048576: true; the input reads as it did. -/
def journalBackUptoRow : OpenClaim := { program := "ytcnjpmcelihknaagreatdoor", sum := "70fffde5a6725a14ed59770dc8c23bb59d72fadccbd289fca1f656757129df54", func := "ashlar/ashlarlaw11.JournalBack", spec := "journalBack", unfollowed := true, recurses := true, named := ["ashlar/octets.lowRests", "ashlar/octets.highRests", "ashlar/super.widths", "ashlar/ppl.fields", "ashlar/lay.places"], plainKeys := false, apart := false, laid := [("ashlar/lay.places", laid_ashlar_lay_places), ("ashlar/octets.lowRests", laid_ashlar_octets_lowRests), ("ashlar/octets.highRests", laid_ashlar_octets_highRests), ("ashlar/ppl.fields", laid_ashlar_ppl_fields), ("ashlar/super.widths", laid_ashlar_super_widths)], narrowed := true }
def JournalBackUptoSaid : Prop := journalBackUptoRow.holds Tryz.pinned (OpenSpec.upto journalBackSpec)

/-- 'ashlarlaw11.JournalFull', WHERE WHAT IT READS IS OF BULK AT MOST 1048576: true; the input reads as it did. -/
def journalFullUptoRow : OpenClaim := { program := "ytcnjpmcelihknaagreatdoor", sum := "70fffde5a6725a14ed59770dc8c23bb59d72fadccbd289fca1f656757129df54", func := "ashlar/ashlarlaw11.JournalFull", spec := "journalFull", unfollowed := true, recurses := true, named := ["ashlar/octets.lowRests", "ashlar/octets.highRests", "ashlar/super.widths", "ashlar/ppl.fields", "ashlar/lay.places"], plainKeys := false, apart := false, laid := [("ashlar/lay.places", laid_ashlar_lay_places), ("ashlar/octets.lowRests", laid_ashlar_octets_lowRests), ("ashlar/octets.highRests", laid_ashlar_octets_highRests), ("ashlar/ppl.fields", laid_ashlar_ppl_fields), ("ashlar/super.widths", laid_ashlar_super_widths)], narrowed := true }
def JournalFullUptoSaid : Prop := journalFullUptoRow.holds Tryz.pinned (OpenSpec.upto journalFullSpec)

/-- 'ashlarlaw11.JournalNobody', WHERE WHAT IT READS IS OF BULK AT MOST 1048576: true; the input reads as it did. -/
def journalNobodyUptoRow : OpenClaim := { program := "ytcnjpmcelihknaagreatdoor", sum := "70fffde5a6725a14ed59770dc8c23bb59d72fadccbd289fca1f656757129df54", func := "ashlar/ashlarlaw11.JournalNobody", spec := "journalNobody", unfollowed := true, recurses := true, named := ["ashlar/octets.lowRests", "ashlar/octets.highRests", "ashlar/ppl.fields", "ashlar/super.widths", "ashlar/lay.places"], plainKeys := false, apart := false, laid := [("ashlar/lay.places", laid_ashlar_lay_places), ("ashlar/octets.lowRests", laid_ashlar_octets_lowRests), ("ashlar/octets.highRests", laid_ashlar_octets_highRests), ("ashlar/ppl.fields", laid_ashlar_ppl_fields), ("ashlar/super.widths", laid_ashlar_super_widths)], narrowed := true }
def JournalNobodyUptoSaid : Prop := journalNobodyUptoRow.holds Tryz.pinned (OpenSpec.upto journalNobodySpec)

/-- 'ashlarlaw12.AllocOnce', WHERE WHAT IT READS IS OF BULK AT MOST 1048576: true; the input reads as it did. -/
def allocOnceUptoRow : OpenClaim := { program := "ytcnjpmcelihknaagreatdoor", sum := "70fffde5a6725a14ed59770dc8c23bb59d72fadccbd289fca1f656757129df54", func := "ashlar/ashlarlaw12.AllocOnce", spec := "allocOnce", unfollowed := true, recurses := true, named := ["ashlar/octets.lowRests", "ashlar/octets.highRests", "ashlar/super.widths", "ashlar/ppl.fields"], plainKeys := false, apart := false, laid := [("ashlar/octets.lowRests", laid_ashlar_octets_lowRests), ("ashlar/octets.highRests", laid_ashlar_octets_highRests), ("ashlar/ppl.fields", laid_ashlar_ppl_fields), ("ashlar/super.widths", laid_ashlar_super_widths)], narrowed := true }
def AllocOnceUptoSaid : Prop := allocOnceUptoRow.holds Tryz.pinned (OpenSpec.upto allocOnceSpec)

/-- 'ashlarlaw12.AllocBits', WHERE WHAT IT READS IS OF BULK AT MOST 1048576: true; the input reads as it did. -/
def allocBitsUptoRow : OpenClaim := { program := "ytcnjpmcelihknaagreatdoor", sum := "70fffde5a6725a14ed59770dc8c23bb59d72fadccbd289fca1f656757129df54", func := "ashlar/ashlarlaw12.AllocBits", spec := "allocBits", unfollowed := true, recurses := true, named := ["ashlar/octets.lowRests", "ashlar/octets.highRests", "ashlar/super.widths", "ashlar/ppl.fields"], plainKeys := false, apart := false, laid := [("ashlar/octets.lowRests", laid_ashlar_octets_lowRests), ("ashlar/octets.highRests", laid_ashlar_octets_highRests), ("ashlar/ppl.fields", laid_ashlar_ppl_fields), ("ashlar/super.widths", laid_ashlar_super_widths)], narrowed := true }
def AllocBitsUptoSaid : Prop := allocBitsUptoRow.holds Tryz.pinned (OpenSpec.upto allocBitsSpec)

/-- 'ashlarlaw12.AllocFull', WHERE WHAT IT READS IS OF BULK AT MOST 1048576: true; the input reads as it did. -/
def allocFullUptoRow : OpenClaim := { program := "ytcnjpmcelihknaagreatdoor", sum := "70fffde5a6725a14ed59770dc8c23bb59d72fadccbd289fca1f656757129df54", func := "ashlar/ashlarlaw12.AllocFull", spec := "allocFull", unfollowed := true, recurses := true, named := ["ashlar/octets.lowRests", "ashlar/octets.highRests", "ashlar/super.widths", "ashlar/ppl.fields"], plainKeys := false, apart := false, laid := [("ashlar/octets.lowRests", laid_ashlar_octets_lowRests), ("ashlar/octets.highRests", laid_ashlar_octets_highRests), ("ashlar/ppl.fields", laid_ashlar_ppl_fields), ("ashlar/super.widths", laid_ashlar_super_widths)], narrowed := true }
def AllocFullUptoSaid : Prop := allocFullUptoRow.holds Tryz.pinned (OpenSpec.upto allocFullSpec)

/-- 'ashlarlaw12.AllocNobody', WHERE WHAT IT READS IS OF BULK AT MOST 1048576: true; the input reads as it did. -/
def allocNobodyUptoRow : OpenClaim := { program := "ytcnjpmcelihknaagreatdoor", sum := "70fffde5a6725a14ed59770dc8c23bb59d72fadccbd289fca1f656757129df54", func := "ashlar/ashlarlaw12.AllocNobody", spec := "allocNobody", unfollowed := true, recurses := true, named := ["ashlar/octets.lowRests", "ashlar/octets.highRests", "ashlar/super.widths", "ashlar/ppl.fields"], plainKeys := false, apart := false, laid := [("ashlar/octets.lowRests", laid_ashlar_octets_lowRests), ("ashlar/octets.highRests", laid_ashlar_octets_highRests), ("ashlar/ppl.fields", laid_ashlar_ppl_fields), ("ashlar/super.widths", laid_ashlar_super_widths)], narrowed := true }
def AllocNobodyUptoSaid : Prop := allocNobodyUptoRow.holds Tryz.pinned (OpenSpec.upto allocNobodySpec)

end Rows
end Go.Proofs.YtcnjpmcelihknaaGreatDoor
