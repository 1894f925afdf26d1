/-
  What every card of super shares: the three tables out of the row's list, what came in, the witness's world.
  Conditions: each theorem's own.
-/
import Derived.Test.YtceebcaeodmllaaDoorSw
import Derived.Test.YtceebcaeodmllaaDoorSn
import Derived.Test.YtceebcaeodmllaaDoorCards
import Derived.Test.YtceebcaeodmllaaDoorTie
import Derived.ProofKit
import Derived.OpenShut
import Derived.ChangeOld
import Derived.SizedLaws
import Derived.Deep.DeepHandedRow
import Derived.Lib.LaidTab
namespace Go.Proofs.YtceebcaeodmllaaDoor.S
open Go.ChangeShapes Go.WideShapes Go.ChangeAt Go.RowKit

theorem own : ownKnob Tryd.prog.godebug = none := by kernel_rfl
theorem laidOut : laidOutB Tryd.prog = true := by kernel_rfl
theorem gLow : Tryd.prog.globalNamed "ashlar/octets.lowRests" = some 1 := by kernel_rfl
theorem gHigh : Tryd.prog.globalNamed "ashlar/octets.highRests" = some 2 := by kernel_rfl
theorem gWid : Tryd.prog.globalNamed "ashlar/super.widths" = some 0 := by kernel_rfl
theorem gLowType : (Tryd.prog.globals[1]?).map (·.type) = some 60 := by kernel_rfl
theorem gHighType : (Tryd.prog.globals[2]?).map (·.type) = some 60 := by kernel_rfl
theorem gWidType : (Tryd.prog.globals[0]?).map (·.type) = some 53 := by kernel_rfl
theorem cells16 : Tryd.prog.cellsOf 60 = 16 := by kernel_rfl
theorem cells8 : Tryd.prog.cellsOf 53 = 8 := by kernel_rfl
theorem cellsU32 : Tryd.prog.cellsOf 47 = 1 := by kernel_rfl
theorem cellsInt : Tryd.prog.cellsOf 3 = 1 := by kernel_rfl
theorem cellsU8 : Tryd.prog.cellsOf 5 = 1 := by kernel_rfl
theorem cellsSup : Tryd.prog.cellsOf 23 = 8 := by kernel_rfl
theorem bytesU8 : Tryd.prog.bytesOf 5 = 1 := by kernel_rfl
theorem bytesSup : Tryd.prog.bytesOf 23 = 64 := by kernel_rfl

def widZ : List Int := [8, 1, 1, 1, 1, 4, 4, 4]
abbrev laidBoth : List (String × DataW Unit) := [("ashlar/octets.lowRests", Rows.laid_ashlar_octets_lowRests), ("ashlar/octets.highRests", Rows.laid_ashlar_octets_highRests), ("ashlar/super.widths", Rows.laid_ashlar_super_widths)]
/-- All tables. -/
structure All (w : World) : Prop where
  tabs : Tabs w
  wid : Wid w
theorem All.over {w w' : World} (h : All w) (hb : Below w.heap.size w w') : All w' := ⟨h.tabs.below h.tabs.size hb, h.wid.below h.wid.size hb⟩
/-- WHAT THE ROW's LIST GIVES: the tables' cells. -/
theorem tabs_of_laid {W : World} (h : laidMetH Tryd.prog laidBoth W) : All W := by
  rw [MakeChecks.laidMetH_plain _ _ _ (by kernel_rfl)] at h
  obtain ⟨ps, ⟨g0, t0, cs0, f0, p0, q0, hg0, ht0, hv0, hd0, ⟨g1, t1, cs1, f1, p1, q1, hg1, ht1, hv1, hd1, ⟨g2, t2, cs2, f2, p2, q2, hg2, ht2, hv2, hd2, _, _⟩, _⟩, _⟩, _, _⟩ := h
  obtain rfl := Option.some.inj (gLow.symm.trans hg0)
  obtain rfl := Option.some.inj (gHigh.symm.trans hg1)
  obtain rfl := Option.some.inj (gWid.symm.trans hg2)
  obtain rfl := Option.some.inj (gLowType.symm.trans ht0)
  obtain rfl := Option.some.inj (gHighType.symm.trans ht1)
  obtain rfl := Option.some.inj (gWidType.symm.trans ht2)
  have e0 : cs0.toList = (Nums.lowT.map fun (x : Nat) => (x : Int)).map fun z => Value.int .u32 z := Lib.cells_of_tab Tryd.underlying60 Tryd.underlying47 cellsU32 cells16 hd0
  have e1 : cs1.toList = (Nums.highT.map fun (x : Nat) => (x : Int)).map fun z => Value.int .u32 z := Lib.cells_of_tab Tryd.underlying60 Tryd.underlying47 cellsU32 cells16 hd1
  have e2 : cs2.toList = widZ.map fun z => Value.int .i64 z := Lib.cells_of_tab Tryd.underlying53 Tryd.underlying3 cellsInt cells8 hd2
  have low : ∀ i : Fin 16, ((Nums.lowT.map fun (x : Nat) => (x : Int)).map fun z => Value.int .u32 z)[i.val]? = some (.int .u32 ((Nums.low i.val : Nat) : Int)) := by
    intro i
    have : i.val < Nums.lowT.length := i.isLt
    simp [Nums.low, List.getD, List.getElem?_eq_getElem this]
  have high : ∀ i : Fin 16, ((Nums.highT.map fun (x : Nat) => (x : Int)).map fun z => Value.int .u32 z)[i.val]? = some (.int .u32 ((Nums.high i.val : Nat) : Int)) := by
    intro i
    have : i.val < Nums.highT.length := i.isLt
    simp [Nums.high, List.getD, List.getElem?_eq_getElem this]
  have wid0 : ∀ i : Fin 8, widZ[i.val]? = some (((widL.getD i.val 0 : Nat) : Int)) := by decide
  refine ⟨⟨fun i hi => ?_, fun i hi => ?_⟩, fun i hi => ?_⟩
  · have h1 := World.var?_cell hg0 hv0 i
    have h2 := low ⟨i, hi⟩
    rw [← e0] at h2
    rw [h1]
    simpa using h2
  · have h1 := World.var?_cell hg1 hv1 i
    have h2 := high ⟨i, hi⟩
    rw [← e1] at h2
    rw [h1]
    simpa using h2
  · have h1 := World.var?_cell hg2 hv2 i
    have h2 : (widZ.map fun z => Value.int .i64 z)[i]? = some (.int .i64 ((widL.getD i 0 : Nat) : Int)) := by rw [List.getElem?_map, wid0 ⟨i, hi⟩]; rfl
    rw [← e2] at h2
    rw [h1]
    simpa using h2
/-- A SLICE OF BYTES THAT CAME IN. -/
theorem bytes_in {H : Type} {enc : TypeId × Value → H} {W : World} {fuel n c : Nat} {A : Option Addr} {x : DataW H × List MemPlace} (h : DataW.trod enc Tryd.prog W 0 (fun _ => true) true fuel 24 [.slice A n c] = some x) :
    ∃ l, Small l ∧ Reads W W.heap.size A n (bts l) ∧ n ≤ c ∧ c ≤ maxLen ∧ ((x.1 = .nil ∧ c = 0) ∨ ∃ es sp, x.1 = .slice es sp ∧ es.length + sp.length = c) := by
  rcases open_ints Tryd.underlying24 Tryd.underlying5 cellsU8 h with ⟨hcs, rfl⟩ | ⟨a, len, cap, zs, hcs, _, hl, hm, hz, rfl, hcell, hwz⟩
  · simp only [List.cons.injEq, Value.slice.injEq, and_true] at hcs
    obtain ⟨rfl, rfl, rfl⟩ := hcs
    exact ⟨[], fun _ hx => by simp at hx, Reads.none_, Nat.le_refl _, by unfold maxLen; omega, .inl ⟨rfl, rfl⟩⟩
  · simp only [List.cons.injEq, Value.slice.injEq, and_true] at hcs
    obtain ⟨rfl, rfl, rfl⟩ := hcs
    simp only [if_true] at hz
    have hb : ∀ z ∈ zs, 0 ≤ z ∧ z < 256 := fun z hzm => by
      have := hwz z hzm
      simp [Lit.wf, IntKind.min, IntKind.max, IntKind.bits, IntKind.signed] at this
      omega
    have hlen : ((zs.take n).map Int.toNat).length = n := by simp; omega
    refine ⟨(zs.take n).map Int.toNat, ?_, ⟨by rw [bts_length, hlen], fun hn => ⟨a, rfl, ?_, ?_⟩⟩, hl, hm, .inr ⟨_, _, rfl, by simp [lits]; omega⟩⟩
    · intro y hy
      simp only [List.mem_map] at hy
      obtain ⟨z, hzm, rfl⟩ := hy
      have := hb z (List.mem_of_mem_take hzm)
      omega
    · have := World.block_lt_of_cell? W _ (hcell 0 (by omega))
      rwa [block_of_add] at this
    · intro j u hu
      have hj : j < n := by
        rcases Nat.lt_or_ge j n with h | h
        · exact h
        · rw [List.getElem?_eq_none (by rw [bts_length, hlen]; exact h)] at hu; cases hu
      have hjz : j < zs.length := by omega
      have h1 := hcell j hjz
      rw [h1]
      rw [bts_get _ _ (by rw [hlen]; exact hj)] at hu
      rw [← hu]
      have h2 := hb zs[j] (List.getElem_mem hjz)
      simp [List.getD, List.getElem?_eq_getElem hjz, hj]
      omega

/-- A WORLD FOR THE WITNESS: the settled one, the tables holding what their initialisers lay. -/
def withCells (l : List Nat) : Obj → Obj
  | .cells _ t frozen => .cells (l.map fun (x : Nat) => Value.int .u32 (x : Int)).toArray t frozen
  | o => o
def withInts (l : List Int) : Obj → Obj
  | .cells _ t frozen => .cells (l.map fun (x : Int) => Value.int .i64 x).toArray t frozen
  | o => o
noncomputable def laidWorld (os : Os) : World :=
  { World.holding Tryd.prog os ⟨#[], #[], []⟩ with heap := (((World.holding Tryd.prog os ⟨#[], #[], []⟩).heap.modify 1 (withCells Nums.lowT)).modify 2 (withCells Nums.highT)).modify 0 (withInts widZ) }

/-! ### what disks say, that came in -/
section
variable {H : Type} {enc : TypeId × Value → H} {W : World}
theorem int_of {m : Nat} {v : Value} {y : DataW H × List MemPlace} (h : DataW.trod enc Tryd.prog W 0 (fun _ => true) true m 3 [v] = some y) : ∃ z : Int, v = .int .i64 z ∧ -9223372036854775808 ≤ z ∧ z ≤ 9223372036854775807 := by
  cases m with
  | zero => simp [DataW.trod] at h
  | succ m =>
    simp only [DataW.trod, Tryd.underlying3] at h
    cases v <;> simp at h
    rename_i k b
    obtain ⟨⟨rfl, hw⟩, _⟩ := h
    exact ⟨b, rfl, bounds_i64 hw⟩
set_option maxRecDepth 20000 in
theorem sup_val {m : Nat} {cs : List Value} {y : DataW H × List MemPlace} (hl : cs.length = 8) (h : DataW.trod enc Tryd.prog W 0 (fun _ => true) true m 23 cs = some y) :
    ∃ s : Sup, cs = s.cells.toList ∧ s.fits := by
  obtain ⟨xs, k, rfl, _, _, hxs, hf⟩ := DataW.trod_struct Tryd.underlying23 h
  match cs, hl with
  | [v0, v1, v2, v3, v4, v5, v6, v7], _ =>
    have hs : xs.length = 8 := hxs
    have g : ∀ i, i < 8 → ∃ z, xs[i]? = some z := fun i hi => ⟨_, List.getElem?_eq_getElem (by omega)⟩
    have f0 := hf 0 _ rfl
    have f1 := hf 1 _ rfl
    have f2 := hf 2 _ rfl
    have f3 := hf 3 _ rfl
    have f4 := hf 4 _ rfl
    have f5 := hf 5 _ rfl
    have f6 := hf 6 _ rfl
    have f7 := hf 7 _ rfl
    obtain ⟨z0, e0⟩ := g 0 (by decide)
    obtain ⟨z1, e1⟩ := g 1 (by decide)
    obtain ⟨z2, e2⟩ := g 2 (by decide)
    obtain ⟨z3, e3⟩ := g 3 (by decide)
    obtain ⟨z4, e4⟩ := g 4 (by decide)
    obtain ⟨z5, e5⟩ := g 5 (by decide)
    obtain ⟨z6, e6⟩ := g 6 (by decide)
    obtain ⟨z7, e7⟩ := g 7 (by decide)
    rw [e0] at f0
    rw [e1] at f1
    rw [e2] at f2
    rw [e3] at f3
    rw [e4] at f4
    rw [e5] at f5
    rw [e6] at f6
    rw [e7] at f7
    obtain ⟨x0, rfl, a0, b0⟩ := int_of (v := v0) (show DataW.trod enc Tryd.prog W 0 (fun _ => true) true k 3 [v0] = some z0 from f0)
    obtain ⟨x1, rfl, a1, b1⟩ := int_of (v := v1) (show DataW.trod enc Tryd.prog W 0 (fun _ => true) true k 3 [v1] = some z1 from f1)
    obtain ⟨x2, rfl, a2, b2⟩ := int_of (v := v2) (show DataW.trod enc Tryd.prog W 0 (fun _ => true) true k 3 [v2] = some z2 from f2)
    obtain ⟨x3, rfl, a3, b3⟩ := int_of (v := v3) (show DataW.trod enc Tryd.prog W 0 (fun _ => true) true k 3 [v3] = some z3 from f3)
    obtain ⟨x4, rfl, a4, b4⟩ := int_of (v := v4) (show DataW.trod enc Tryd.prog W 0 (fun _ => true) true k 3 [v4] = some z4 from f4)
    obtain ⟨x5, rfl, a5, b5⟩ := int_of (v := v5) (show DataW.trod enc Tryd.prog W 0 (fun _ => true) true k 3 [v5] = some z5 from f5)
    obtain ⟨x6, rfl, a6, b6⟩ := int_of (v := v6) (show DataW.trod enc Tryd.prog W 0 (fun _ => true) true k 3 [v6] = some z6 from f6)
    obtain ⟨x7, rfl, a7, b7⟩ := int_of (v := v7) (show DataW.trod enc Tryd.prog W 0 (fun _ => true) true k 3 [v7] = some z7 from f7)
    refine ⟨⟨x0, x1, x2, x3, x4, x5, x6, x7⟩, rfl, fun x hx => ?_⟩
    simp only [List.mem_cons, List.not_mem_nil, or_false] at hx
    rcases hx with rfl | rfl | rfl | rfl | rfl | rfl | rfl | rfl
    · exact ⟨a0, b0⟩
    · exact ⟨a1, b1⟩
    · exact ⟨a2, b2⟩
    · exact ⟨a3, b3⟩
    · exact ⟨a4, b4⟩
    · exact ⟨a5, b5⟩
    · exact ⟨a6, b6⟩
    · exact ⟨a7, b7⟩
set_option maxRecDepth 20000 in
theorem sup_came {base : Nat} {v : Value} {d : DataW H} {ps : List MemPlace} (hv : Value.okWide Tryd.prog W .any base 23 v) (h : DataW.Trod enc Tryd.prog W 0 (fun _ => true) true 23 v d ps) :
    ∃ s : Sup, v = s.val ∧ s.fits := by
  unfold Value.okWide at hv
  rw [Tryd.underlying23] at hv
  obtain ⟨cs, rfl, hs, _⟩ := hv
  rw [cellsSup] at hs
  obtain ⟨fuel, hf⟩ := h
  obtain ⟨z, hz, hb⟩ := sup_val (m := fuel) (cs := cs.toList) (by simpa using hs) (by simpa [Value.cells] using hf)
  refine ⟨z, ?_, hb⟩
  unfold Sup.val
  congr 1
  apply Array.ext'
  simpa using hz
end
end Go.Proofs.YtceebcaeodmllaaDoor.S
