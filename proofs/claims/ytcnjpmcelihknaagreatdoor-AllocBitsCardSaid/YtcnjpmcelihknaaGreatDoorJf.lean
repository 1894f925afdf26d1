/-
  The closed facts of a card in small parts: each part is checked by itself, so that none needs the memory of all together.
  Conditions: none.
-/
import Derived.JoinedCond
namespace Go.Proofs.YtcnjpmcelihknaaGreatDoor.Jf
def j1 (P : Program) (fn : Func) (s : ChangeSpec) (c : OpenClaim) : Bool :=
  c.wf (OpenSpec.ofChange s) && fn.params.all (P.readableRec ·) && namedTie P c.named s.vars && (c.stops == []) && (P.stops == []) && (c.knobs == []) && (P.stopKnobs == [])
def j2 (P : Program) (fn : Func) (s : ChangeSpec) (c : OpenClaim) : Bool :=
  (c.maps == (fn.params.toList ++ s.plain.varTypes P).any (P.mapsRec ·)) && (c.ifaces == (fn.params.toList ++ s.plain.varTypes P).any (P.ifacesRec ·)) && (c.mapsOut == P.mapsAmong fn.resultTypes.toList) &&
  (c.loops == (fn.params.toList ++ s.plain.varTypes P).any (P.loopsFrom ·)) && (c.wideKeys == (fn.params.toList ++ s.plain.varTypes P ++ fn.resultTypes.toList).any (P.wideKeysFrom ·))
def j3 (P : Program) (fn : Func) (s : ChangeSpec) (c : OpenClaim) : Bool :=
  s.vars.all (P.varReadable ·) && fn.resultTypes.all (fun t => P.readableRec t && decide (t < P.types.size)) && (c.ifacesOut == fn.resultTypes.toList.any (P.ifacesRec ·)) && (c.loopsOut == fn.resultTypes.toList.any (P.loopsFrom ·))
def j4 (P : Program) (c : OpenClaim) : Bool := (c.plainKeys == P.plainKeys) && c.shortTexts.isNone
def j5 (P : Program) (fn : Func) (c : OpenClaim) : Bool :=
  (c.lifted == P.liftsFinal) && (P.make == some c.make) && (c.kinds == (if c.domain.isEmpty then [] else fn.params.toList.map fun t => match P.underlying t with | some (.int k) => some k | _ => none)) && (c.pinned == c.pinnedBy)
def j6 (P : Program) (fn : Func) (s : ChangeSpec) (c : OpenClaim) : Bool :=
  (c.veiled == (fn.params.toList ++ s.plain.varTypes P ++ fn.resultTypes.toList).any (P.veiledRec ·)) && c.veiledFits P fn.params.toList (fn.params.toList ++ s.plain.varTypes P ++ fn.resultTypes.toList)
theorem joined_of {P : Program} {f : FuncId} {fn : Func} {s : ChangeSpec} {c : OpenClaim} (h1 : j1 P fn s c = true) (h2 : j2 P fn s c = true) (h3 : j3 P fn s c = true) (h4 : j4 P c = true) (h5 : j5 P fn c = true) (h6 : j6 P fn s c = true)
    (l1 : laidOutB P = true) (l2 : mapsRowed P = true) (l3 : P.stopsHeard = true) (l4 : P.mayEnter = true)
    (m1 : (c.inPlace == P.inPlace f) = true) (m2 : (c.unfollowed == P.unfollowed f) = true) (m3 : (c.recurses == P.recurses f) = true) (m4 : (c.named == P.varsNamed f) = true) : joinedFacts P f fn s c = true := by
  simp only [j1, j2, j3, j4, j5, j6, Bool.and_eq_true] at h1 h2 h3 h4 h5 h6
  simp only [joinedFacts, Bool.and_eq_true]
  obtain ⟨⟨⟨⟨⟨⟨a1, a4⟩, a5⟩, a6⟩, a7⟩, a8⟩, a9⟩ := h1
  obtain ⟨⟨⟨⟨a14, a15⟩, a16⟩, a17⟩, a17b⟩ := h2
  obtain ⟨⟨⟨a18, a19⟩, a20⟩, a21⟩ := h3
  obtain ⟨a22, a23⟩ := h4
  obtain ⟨⟨⟨a24b, a24c⟩, a25⟩, a26⟩ := h5
  obtain ⟨a27, a28⟩ := h6
  exact ⟨⟨⟨⟨⟨⟨⟨⟨⟨⟨⟨⟨⟨⟨⟨⟨⟨⟨⟨⟨⟨⟨⟨⟨⟨⟨⟨⟨⟨⟨⟨a1, l1⟩, l2⟩, a4⟩, a5⟩, a6⟩, a7⟩, a8⟩, a9⟩, m1⟩, m2⟩, m3⟩, m4⟩, a14⟩, a15⟩, a16⟩, a17⟩, a17b⟩, a18⟩, a19⟩, a20⟩, a21⟩, a22⟩, a23⟩, l3⟩, l4⟩, a24b⟩, a24c⟩, a25⟩, a26⟩, a27⟩, a28⟩
end Go.Proofs.YtcnjpmcelihknaaGreatDoor.Jf
