/-
  NARROWER THAN 'FOR EVERY INPUT', by the rows' own cells (each row's printed sentence says how): CacheDoes: laid · CacheReads: laid · CachePinned: laid · CacheFull: laid · CacheLeast: laid · CacheOff: laid · CacheNobody: laid.
  DERIVED. THE GIVEN ROWS OF THIS SEAT. 7 by the template 'for every input the law returns true; each argument reads behind the call as it read before'; 0 by the template 'total and deterministic' (their statements: YtcepognpbeahhaaGreatDoorTotals.lean).
  GIVEN WITH THE SEED: the statements are not yours to turn. If you find one false, say at which input.
  Laid BY PROGRAM, IN A SANDBOX (cutbox-rows.mjs): the forced cells as the released guide's own fill.sh prints them over the translation 467f35c0d75487b1… (all of the seat's roots in one cut). By AI agents, Wed Nov 11 2026. No macro, syntax, notation, axiom, sorry.
-/
import Derived.Test.YtcepognpbeahhaaGreatDoorChecked
import GoSem.Claim
import GoSem.ClaimJoined
import GoSem.ClaimMapViews
import Derived.JoinedTies
import Derived.KernelRfl
namespace Go.Proofs.YtcepognpbeahhaaGreatDoor
/- THE CELL 'sum', in the pinned program and in every row, IS THE sha256 OF THE DUMP (.gsa) THAT YtcepognpbeahhaaGreatDoorProg.lean LOADS. Nothing in Lean hashes anything: it is a label: what it is worth is what the hold of that sum in a sandbox is worth. -/
noncomputable def Tryz.pinned : Pinned := { name := "ytcepognpbeahhaagreatdoor", sum := "467f35c0d75487b1cc03ded095250f66a09cf92fdc530633ef589f2ad863b140", checked := Tryz.checked }
namespace Rows
def none {H : Type} : Left H := { results := [], args := [] }

/- WHAT THE LISTED PACKAGE-LEVEL VARIABLES READ AS WHEN THE CALL BEGINS. Each datum BY PROGRAM (the guide's laid-datum.mjs) off the statement by which the dump's own 'gosem.cut.vars' lays the variable. In a bare row this is a premise. The card (YtcepognpbeahhaaGreatDoorCards.lean) ties it to the program's text. -/
def laid_ashlar_octets_lowRests {H : Type} : DataW H := .agg [.lit (.int .u32 0), .lit (.int .u32 4067132163), .lit (.int .u32 3778769143), .lit (.int .u32 324072436), .lit (.int .u32 3348797215), .lit (.int .u32 904991772), .lit (.int .u32 648144872), .lit (.int .u32 3570033899), .lit (.int .u32 2329499855), .lit (.int .u32 2024987596), .lit (.int .u32 1809983544), .lit (.int .u32 2575936315), .lit (.int .u32 1296289744), .lit (.int .u32 3207089363), .lit (.int .u32 2893594407), .lit (.int .u32 1578318884)]
def laid_ashlar_octets_highRests {H : Type} : DataW H := .agg [.lit (.int .u32 0), .lit (.int .u32 274646895), .lit (.int .u32 549293790), .lit (.int .u32 820201905), .lit (.int .u32 1098587580), .lit (.int .u32 1361435347), .lit (.int .u32 1640403810), .lit (.int .u32 1905808397), .lit (.int .u32 2197175160), .lit (.int .u32 2460548119), .lit (.int .u32 2722870694), .lit (.int .u32 2987750089), .lit (.int .u32 3280807620), .lit (.int .u32 3553878443), .lit (.int .u32 3811616794), .lit (.int .u32 4084100981)]
def laid_ashlar_ppl_fields {H : Type} : DataW H := .agg [.agg [.lit (.int .i64 4), .lit (.int .u64 1024)], .agg [.lit (.int .i64 8), .lit (.int .u64 15)], .agg [.lit (.int .i64 12), .lit (.int .u64 4294967296)]]
def laid_ashlar_super_widths {H : Type} : DataW H := .agg [.lit (.int .i64 8), .lit (.int .i64 1), .lit (.int .i64 1), .lit (.int .i64 1), .lit (.int .i64 1), .lit (.int .i64 4), .lit (.int .i64 4), .lit (.int .i64 4)]
def laid_ashlar_lay_places {H : Type} : DataW H := .agg [.lit (.int .i64 (-1)), .lit (.int .i64 0), .lit (.int .i64 1), .lit (.int .i64 2), .lit (.int .i64 3), .lit (.int .i64 4), .lit (.int .i64 5), .lit (.int .i64 6), .lit (.int .i64 7), .lit (.int .i64 8), .lit (.int .i64 9), .lit (.int .i64 10), .lit (.int .i64 11), .lit (.int .i64 12), .lit (.int .i64 13), .lit (.int .i64 14)]

/-- 'ashlarlaw10.CacheDoes': WHATEVER THE INPUT: true; the input reads as it did. -/
def cacheDoesSpec : ChangeSpec := { name := "cacheDoes", fn := fun _ => fun
  | [d1, d2] => { results := [.lit (.bool true)], args := [d1, d2] }
  | _ => none }
def cacheDoesRow : OpenClaim := { program := "ytcepognpbeahhaagreatdoor", sum := "467f35c0d75487b1cc03ded095250f66a09cf92fdc530633ef589f2ad863b140", func := "ashlar/ashlarlaw10.CacheDoes", spec := "cacheDoes", unfollowed := true, recurses := true, named := ["ashlar/octets.lowRests", "ashlar/octets.highRests", "ashlar/super.widths", "ashlar/ppl.fields"], plainKeys := false, apart := false, laid := [("ashlar/octets.lowRests", laid_ashlar_octets_lowRests), ("ashlar/octets.highRests", laid_ashlar_octets_highRests), ("ashlar/ppl.fields", laid_ashlar_ppl_fields), ("ashlar/super.widths", laid_ashlar_super_widths)] }
def CacheDoesSaid : Prop := cacheDoesRow.holds Tryz.pinned (OpenSpec.ofChange cacheDoesSpec)

/-- ITS FALSE NEIGHBOUR: 'it returns false'. Refute it at one input. -/
def cacheDoesWrong : ChangeSpec := { name := "cacheDoes", fn := fun _ => fun
  | [d1, d2] => { results := [.lit (.bool false)], args := [d1, d2] }
  | _ => none }
def CacheDoesWrongFalsely : Prop := cacheDoesRow.holds Tryz.pinned (OpenSpec.ofChange cacheDoesWrong)

/-- 'ashlarlaw10.CacheReads': WHATEVER THE INPUT: true; the input reads as it did. -/
def cacheReadsSpec : ChangeSpec := { name := "cacheReads", fn := fun _ => fun
  | [d1, d2, d3] => { results := [.lit (.bool true)], args := [d1, d2, d3] }
  | _ => none }
def cacheReadsRow : OpenClaim := { program := "ytcepognpbeahhaagreatdoor", sum := "467f35c0d75487b1cc03ded095250f66a09cf92fdc530633ef589f2ad863b140", func := "ashlar/ashlarlaw10.CacheReads", spec := "cacheReads", unfollowed := true, recurses := true, named := ["ashlar/octets.lowRests", "ashlar/octets.highRests", "ashlar/super.widths", "ashlar/ppl.fields", "ashlar/lay.places"], plainKeys := false, apart := false, laid := [("ashlar/lay.places", laid_ashlar_lay_places), ("ashlar/octets.lowRests", laid_ashlar_octets_lowRests), ("ashlar/octets.highRests", laid_ashlar_octets_highRests), ("ashlar/ppl.fields", laid_ashlar_ppl_fields), ("ashlar/super.widths", laid_ashlar_super_widths)] }
def CacheReadsSaid : Prop := cacheReadsRow.holds Tryz.pinned (OpenSpec.ofChange cacheReadsSpec)

/-- ITS FALSE NEIGHBOUR: 'it returns false'. Refute it at one input. -/
def cacheReadsWrong : ChangeSpec := { name := "cacheReads", fn := fun _ => fun
  | [d1, d2, d3] => { results := [.lit (.bool false)], args := [d1, d2, d3] }
  | _ => none }
def CacheReadsWrongFalsely : Prop := cacheReadsRow.holds Tryz.pinned (OpenSpec.ofChange cacheReadsWrong)

/-- 'ashlarlaw10.CachePinned': WHATEVER THE INPUT: true; the input reads as it did. -/
def cachePinnedSpec : ChangeSpec := { name := "cachePinned", fn := fun _ => fun
  | [d1, d2, d3, d4] => { results := [.lit (.bool true)], args := [d1, d2, d3, d4] }
  | _ => none }
def cachePinnedRow : OpenClaim := { program := "ytcepognpbeahhaagreatdoor", sum := "467f35c0d75487b1cc03ded095250f66a09cf92fdc530633ef589f2ad863b140", func := "ashlar/ashlarlaw10.CachePinned", spec := "cachePinned", unfollowed := true, recurses := true, named := ["ashlar/octets.lowRests", "ashlar/octets.highRests", "ashlar/super.widths", "ashlar/ppl.fields"], plainKeys := false, apart := false, laid := [("ashlar/octets.lowRests", laid_ashlar_octets_lowRests), ("ashlar/octets.highRests", laid_ashlar_octets_highRests), ("ashlar/ppl.fields", laid_ashlar_ppl_fields), ("ashlar/super.widths", laid_ashlar_super_widths)] }
def CachePinnedSaid : Prop := cachePinnedRow.holds Tryz.pinned (OpenSpec.ofChange cachePinnedSpec)

/-- ITS FALSE NEIGHBOUR: 'it returns false'. Refute it at one input. -/
def cachePinnedWrong : ChangeSpec := { name := "cachePinned", fn := fun _ => fun
  | [d1, d2, d3, d4] => { results := [.lit (.bool false)], args := [d1, d2, d3, d4] }
  | _ => none }
def CachePinnedWrongFalsely : Prop := cachePinnedRow.holds Tryz.pinned (OpenSpec.ofChange cachePinnedWrong)

/-- 'ashlarlaw10.CacheFull': WHATEVER THE INPUT: true; the input reads as it did. -/
def cacheFullSpec : ChangeSpec := { name := "cacheFull", fn := fun _ => fun
  | [d1, d2] => { results := [.lit (.bool true)], args := [d1, d2] }
  | _ => none }
def cacheFullRow : OpenClaim := { program := "ytcepognpbeahhaagreatdoor", sum := "467f35c0d75487b1cc03ded095250f66a09cf92fdc530633ef589f2ad863b140", func := "ashlar/ashlarlaw10.CacheFull", spec := "cacheFull", unfollowed := true, recurses := true, named := ["ashlar/octets.lowRests", "ashlar/octets.highRests", "ashlar/super.widths", "ashlar/ppl.fields"], plainKeys := false, apart := false, laid := [("ashlar/octets.lowRests", laid_ashlar_octets_lowRests), ("ashlar/octets.highRests", laid_ashlar_octets_highRests), ("ashlar/ppl.fields", laid_ashlar_ppl_fields), ("ashlar/super.widths", laid_ashlar_super_widths)] }
def CacheFullSaid : Prop := cacheFullRow.holds Tryz.pinned (OpenSpec.ofChange cacheFullSpec)

/-- ITS FALSE NEIGHBOUR: 'it returns false'. Refute it at one input. -/
def cacheFullWrong : ChangeSpec := { name := "cacheFull", fn := fun _ => fun
  | [d1, d2] => { results := [.lit (.bool false)], args := [d1, d2] }
  | _ => none }
def CacheFullWrongFalsely : Prop := cacheFullRow.holds Tryz.pinned (OpenSpec.ofChange cacheFullWrong)

/-- 'ashlarlaw10.CacheLeast': WHATEVER THE INPUT: true; the input reads as it did. -/
def cacheLeastSpec : ChangeSpec := { name := "cacheLeast", fn := fun _ => fun
  | [d1, d2] => { results := [.lit (.bool true)], args := [d1, d2] }
  | _ => none }
def cacheLeastRow : OpenClaim := { program := "ytcepognpbeahhaagreatdoor", sum := "467f35c0d75487b1cc03ded095250f66a09cf92fdc530633ef589f2ad863b140", func := "ashlar/ashlarlaw10.CacheLeast", spec := "cacheLeast", unfollowed := true, recurses := true, named := ["ashlar/octets.lowRests", "ashlar/octets.highRests", "ashlar/super.widths", "ashlar/ppl.fields"], plainKeys := false, apart := false, laid := [("ashlar/octets.lowRests", laid_ashlar_octets_lowRests), ("ashlar/octets.highRests", laid_ashlar_octets_highRests), ("ashlar/ppl.fields", laid_ashlar_ppl_fields), ("ashlar/super.widths", laid_ashlar_super_widths)] }
def CacheLeastSaid : Prop := cacheLeastRow.holds Tryz.pinned (OpenSpec.ofChange cacheLeastSpec)

/-- ITS FALSE NEIGHBOUR: 'it returns false'. Refute it at one input. -/
def cacheLeastWrong : ChangeSpec := { name := "cacheLeast", fn := fun _ => fun
  | [d1, d2] => { results := [.lit (.bool false)], args := [d1, d2] }
  | _ => none }
def CacheLeastWrongFalsely : Prop := cacheLeastRow.holds Tryz.pinned (OpenSpec.ofChange cacheLeastWrong)

/-- 'ashlarlaw10.CacheOff': WHATEVER THE INPUT: true; the input reads as it did. -/
def cacheOffSpec : ChangeSpec := { name := "cacheOff", fn := fun _ => fun
  | [d1, d2, d3] => { results := [.lit (.bool true)], args := [d1, d2, d3] }
  | _ => none }
def cacheOffRow : OpenClaim := { program := "ytcepognpbeahhaagreatdoor", sum := "467f35c0d75487b1cc03ded095250f66a09cf92fdc530633ef589f2ad863b140", func := "ashlar/ashlarlaw10.CacheOff", spec := "cacheOff", unfollowed := true, recurses := true, named := ["ashlar/octets.lowRests", "ashlar/octets.highRests", "ashlar/super.widths", "ashlar/ppl.fields"], plainKeys := false, apart := false, laid := [("ashlar/octets.lowRests", laid_ashlar_octets_lowRests), ("ashlar/octets.highRests", laid_ashlar_octets_highRests), ("ashlar/ppl.fields", laid_ashlar_ppl_fields), ("ashlar/super.widths", laid_ashlar_super_widths)] }
def CacheOffSaid : Prop := cacheOffRow.holds Tryz.pinned (OpenSpec.ofChange cacheOffSpec)

/-- ITS FALSE NEIGHBOUR: 'it returns false'. Refute it at one input. -/
def cacheOffWrong : ChangeSpec := { name := "cacheOff", fn := fun _ => fun
  | [d1, d2, d3] => { results := [.lit (.bool false)], args := [d1, d2, d3] }
  | _ => none }
def CacheOffWrongFalsely : Prop := cacheOffRow.holds Tryz.pinned (OpenSpec.ofChange cacheOffWrong)

/-- 'ashlarlaw10.CacheNobody': WHATEVER THE INPUT: true; the input reads as it did. -/
def cacheNobodySpec : ChangeSpec := { name := "cacheNobody", fn := fun _ => fun
  | [d1, d2, d3] => { results := [.lit (.bool true)], args := [d1, d2, d3] }
  | _ => none }
def cacheNobodyRow : OpenClaim := { program := "ytcepognpbeahhaagreatdoor", sum := "467f35c0d75487b1cc03ded095250f66a09cf92fdc530633ef589f2ad863b140", func := "ashlar/ashlarlaw10.CacheNobody", spec := "cacheNobody", unfollowed := true, recurses := true, named := ["ashlar/octets.lowRests", "ashlar/octets.highRests", "ashlar/super.widths", "ashlar/ppl.fields"], plainKeys := false, apart := false, laid := [("ashlar/octets.lowRests", laid_ashlar_octets_lowRests), ("ashlar/octets.highRests", laid_ashlar_octets_highRests), ("ashlar/ppl.fields", laid_ashlar_ppl_fields), ("ashlar/super.widths", laid_ashlar_super_widths)] }
def CacheNobodySaid : Prop := cacheNobodyRow.holds Tryz.pinned (OpenSpec.ofChange cacheNobodySpec)

/-- ITS FALSE NEIGHBOUR: 'it returns false'. Refute it at one input. -/
def cacheNobodyWrong : ChangeSpec := { name := "cacheNobody", fn := fun _ => fun
  | [d1, d2, d3] => { results := [.lit (.bool false)], args := [d1, d2, d3] }
  | _ => none }
def CacheNobodyWrongFalsely : Prop := cacheNobodyRow.holds Tryz.pinned (OpenSpec.ofChange cacheNobodyWrong)

/- THE SECOND FORM. 'bulk': how many values and letters a reading holds, each counted each time it is reached (what is shared counts as often as it is met; a slice's spare places count too). A statement '..UptoSaid' is the law's where the arguments, and the package variables that the reading takes, are together of bulk at most 1048576: NARROWER than '..Said'. Prove '..Said' where nothing that the law and all that it calls make is longer than what came in: it says more and counts as full. Else prove '..UptoSaid'. A law counts once. -/
mutual
def uptoBulk {H : Type} : DataW H → Nat
  | .lit (.string bytes) => bytes.length + 1
  | .lit _ => 1
  | .nil => 1
  | .ptr d => uptoBulk d + 1
  | .slice elems spare => uptoBulkAll elems + uptoBulkAll spare + 1
  | .agg parts => uptoBulkAll parts + 1
  | .iface _ d => uptoBulk d + 1
  | .map entries => uptoBulkEntries entries + 1
  | .held _ => 1
def uptoBulkAll {H : Type} : List (DataW H) → Nat
  | [] => 0
  | d :: r => uptoBulk d + uptoBulkAll r
def uptoBulkEntries {H : Type} : List (Lit × DataW H) → Nat
  | [] => 0
  | x :: r => uptoBulkEntry x + uptoBulkEntries r
def uptoBulkEntry {H : Type} : Lit × DataW H → Nat
  | (.string bytes, d) => bytes.length + uptoBulk d + 1
  | (_, d) => uptoBulk d + 1
 end
def uptoSmall : (H : Type) → List (DataW H) → Bool := fun _ ds => decide (uptoBulkAll ds ≤ 1048576)
def OpenSpec.upto (s : _root_.Go.ChangeSpec) : _root_.Go.OpenSpec := { _root_.Go.OpenSpec.ofChange s with cond := some uptoSmall }

/-- 'ashlarlaw10.CacheDoes', WHERE WHAT IT READS IS OF BULK AT MOST 1048576: true; the input reads as it did. -/
def cacheDoesUptoRow : OpenClaim := { program := "ytcepognpbeahhaagreatdoor", sum := "467f35c0d75487b1cc03ded095250f66a09cf92fdc530633ef589f2ad863b140", func := "ashlar/ashlarlaw10.CacheDoes", spec := "cacheDoes", unfollowed := true, recurses := true, named := ["ashlar/octets.lowRests", "ashlar/octets.highRests", "ashlar/super.widths", "ashlar/ppl.fields"], plainKeys := false, apart := false, laid := [("ashlar/octets.lowRests", laid_ashlar_octets_lowRests), ("ashlar/octets.highRests", laid_ashlar_octets_highRests), ("ashlar/ppl.fields", laid_ashlar_ppl_fields), ("ashlar/super.widths", laid_ashlar_super_widths)], narrowed := true }
def CacheDoesUptoSaid : Prop := cacheDoesUptoRow.holds Tryz.pinned (OpenSpec.upto cacheDoesSpec)

/-- 'ashlarlaw10.CacheReads', WHERE WHAT IT READS IS OF BULK AT MOST 1048576: true; the input reads as it did. -/
def cacheReadsUptoRow : OpenClaim := { program := "ytcepognpbeahhaagreatdoor", sum := "467f35c0d75487b1cc03ded095250f66a09cf92fdc530633ef589f2ad863b140", func := "ashlar/ashlarlaw10.CacheReads", spec := "cacheReads", unfollowed := true, recurses := true, named := ["ashlar/octets.lowRests", "ashlar/octets.highRests", "ashlar/super.widths", "ashlar/ppl.fields", "ashlar/lay.places"], plainKeys := false, apart := false, laid := [("ashlar/lay.places", laid_ashlar_lay_places), ("ashlar/octets.lowRests", laid_ashlar_octets_lowRests), ("ashlar/octets.highRests", laid_ashlar_octets_highRests), ("ashlar/ppl.fields", laid_ashlar_ppl_fields), ("ashlar/super.widths", laid_ashlar_super_widths)], narrowed := true }
def CacheReadsUptoSaid : Prop := cacheReadsUptoRow.holds Tryz.pinned (OpenSpec.upto cacheReadsSpec)

/-- 'ashlarlaw10.CachePinned', WHERE WHAT IT READS IS OF BULK AT MOST 1048576: true; the input reads as it did. -/
def cachePinnedUptoRow : OpenClaim := { program := "ytcepognpbeahhaagreatdoor", sum := "467f35c0d75487b1cc03ded095250f66a09cf92fdc530633ef589f2ad863b140", func := "ashlar/ashlarlaw10.CachePinned", spec := "cachePinned", unfollowed := true, recurses := true, named := ["ashlar/octets.lowRests", "ashlar/octets.highRests", "ashlar/super.widths", "ashlar/ppl.fields"], plainKeys := false, apart := false, laid := [("ashlar/octets.lowRests", laid_ashlar_octets_lowRests), ("ashlar/octets.highRests", laid_ashlar_octets_highRests), ("ashlar/ppl.fields", laid_ashlar_ppl_fields), ("ashlar/super.widths", laid_ashlar_super_widths)], narrowed := true }
def CachePinnedUptoSaid : Prop := cachePinnedUptoRow.holds Tryz.pinned (OpenSpec.upto cachePinnedSpec)

/-- 'ashlarlaw10.CacheFull', WHERE WHAT IT READS IS OF BULK AT MOST 1048576: true; the input reads as it did. -/
def cacheFullUptoRow : OpenClaim := { program := "ytcepognpbeahhaagreatdoor", sum := "467f35c0d75487b1cc03ded095250f66a09cf92fdc530633ef589f2ad863b140", func := "ashlar/ashlarlaw10.CacheFull", spec := "cacheFull", unfollowed := true, recurses := true, named := ["ashlar/octets.lowRests", "ashlar/octets.highRests", "ashlar/super.widths", "ashlar/ppl.fields"], plainKeys := false, apart := false, laid := [("ashlar/octets.lowRests", laid_ashlar_octets_lowRests), ("ashlar/octets.highRests", laid_ashlar_octets_highRests), ("ashlar/ppl.fields", laid_ashlar_ppl_fields), ("ashlar/super.widths", laid_ashlar_super_widths)], narrowed := true }
def CacheFullUptoSaid : Prop := cacheFullUptoRow.holds Tryz.pinned (OpenSpec.upto cacheFullSpec)

/-- 'ashlarlaw10.CacheLeast', WHERE WHAT IT READS IS OF BULK AT MOST 1048576: true; the input reads as it did. -/
def cacheLeastUptoRow : OpenClaim := { program := "ytcepognpbeahhaagreatdoor", sum := "467f35c0d75487b1cc03ded095250f66a09cf92fdc530633ef589f2ad863b140", func := "ashlar/ashlarlaw10.CacheLeast", spec := "cacheLeast", unfollowed := true, recurses := true, named := ["ashlar/octets.lowRests", "ashlar/octets.highRests", "ashlar/super.widths", "ashlar/ppl.fields"], plainKeys := false, apart := false, laid := [("ashlar/octets.lowRests", laid_ashlar_octets_lowRests), ("ashlar/octets.highRests", laid_ashlar_octets_highRests), ("ashlar/ppl.fields", laid_ashlar_ppl_fields), ("ashlar/super.widths", laid_ashlar_super_widths)], narrowed := true }
def CacheLeastUptoSaid : Prop := cacheLeastUptoRow.holds Tryz.pinned (OpenSpec.upto cacheLeastSpec)

/-- 'ashlarlaw10.CacheOff', WHERE WHAT IT READS IS OF BULK AT MOST 1048576: true; the input reads as it did. -/
def cacheOffUptoRow : OpenClaim := { program := "ytcepognpbeahhaagreatdoor", sum := "467f35c0d75487b1cc03ded095250f66a09cf92fdc530633ef589f2ad863b140", func := "ashlar/ashlarlaw10.CacheOff", spec := "cacheOff", unfollowed := true, recurses := true, named := ["ashlar/octets.lowRests", "ashlar/octets.highRests", "ashlar/super.widths", "ashlar/ppl.fields"], plainKeys := false, apart := false, laid := [("ashlar/octets.lowRests", laid_ashlar_octets_lowRests), ("ashlar/octets.highRests", laid_ashlar_octets_highRests), ("ashlar/ppl.fields", laid_ashlar_ppl_fields), ("ashlar/super.widths", laid_ashlar_super_widths)], narrowed := true }
def CacheOffUptoSaid : Prop := cacheOffUptoRow.holds Tryz.pinned (OpenSpec.upto cacheOffSpec)

/-- 'ashlarlaw10.CacheNobody', WHERE WHAT IT READS IS OF BULK AT MOST 1048576: true; the input reads as it did. -/
def cacheNobodyUptoRow : OpenClaim := { program := "ytcepognpbeahhaagreatdoor", sum := "467f35c0d75487b1cc03ded095250f66a09cf92fdc530633ef589f2ad863b140", func := "ashlar/ashlarlaw10.CacheNobody", spec := "cacheNobody", unfollowed := true, recurses := true, named := ["ashlar/octets.lowRests", "ashlar/octets.highRests", "ashlar/super.widths", "ashlar/ppl.fields"], plainKeys := false, apart := false, laid := [("ashlar/octets.lowRests", laid_ashlar_octets_lowRests), ("ashlar/octets.highRests", laid_ashlar_octets_highRests), ("ashlar/ppl.fields", laid_ashlar_ppl_fields), ("ashlar/super.widths", laid_ashlar_super_widths)], narrowed := true }
def CacheNobodyUptoSaid : Prop := cacheNobodyUptoRow.holds Tryz.pinned (OpenSpec.upto cacheNobodySpec)

end Rows
end Go.Proofs.YtcepognpbeahhaaGreatDoor
