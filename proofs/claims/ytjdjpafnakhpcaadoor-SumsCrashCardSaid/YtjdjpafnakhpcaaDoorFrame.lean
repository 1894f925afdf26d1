/-
  What every card of this seat shares: the two tables out of the row's list, a slice of bytes that came in, the witness's world.
  Conditions: each theorem's own.
-/
import Derived.Test.YtjdjpafnakhpcaaDoorUr
import Derived.Test.YtjdjpafnakhpcaaDoorCards
import Derived.Test.YtjdjpafnakhpcaaDoorTie
import Derived.ProofKit
import Derived.OpenShut
import Derived.ChangeOld
import Derived.SizedLaws
import Derived.Deep.DeepHandedRow
import Derived.Lib.LaidTab
namespace Go.Proofs.YtjdjpafnakhpcaaDoor
open Go.ChangeShapes Go.WideShapes Go.ChangeAt Go.RowKit

theorem own : ownKnob Tryd.prog.godebug = none := by kernel_rfl
theorem laidOut : laidOutB Tryd.prog = true := by kernel_rfl
theorem gLow : Tryd.prog.globalNamed "ashlar/octets.lowRests" = some 0 := by kernel_rfl
theorem gHigh : Tryd.prog.globalNamed "ashlar/octets.highRests" = some 1 := by kernel_rfl
theorem gLowType : (Tryd.prog.globals[0]?).map (·.type) = some 135 := by kernel_rfl
theorem gHighType : (Tryd.prog.globals[1]?).map (·.type) = some 135 := by kernel_rfl
theorem cells16 : Tryd.prog.cellsOf 135 = 16 := by kernel_rfl
theorem cellsU32 : Tryd.prog.cellsOf 29 = 1 := by kernel_rfl
theorem cellsU8 : Tryd.prog.cellsOf 5 = 1 := by kernel_rfl
theorem bytesU8 : Tryd.prog.bytesOf 5 = 1 := by kernel_rfl

abbrev laidBoth : List (String × DataW Unit) := [("ashlar/octets.lowRests", Rows.laid_ashlar_octets_lowRests), ("ashlar/octets.highRests", Rows.laid_ashlar_octets_highRests)]
/-- WHAT THE ROW's LIST GIVES: both tables' cells. -/
theorem tabs_of_laid {W : World} (h : laidMetH Tryd.prog laidBoth W) : Tabs W := by
  rw [MakeChecks.laidMetH_plain _ _ _ (by kernel_rfl)] at h
  obtain ⟨ps, ⟨g0, t0, cs0, f0, p0, q0, hg0, ht0, hv0, hd0, ⟨g1, t1, cs1, f1, p1, q1, hg1, ht1, hv1, hd1, _, _⟩, _⟩, _, _⟩ := h
  obtain rfl := Option.some.inj (gLow.symm.trans hg0)
  obtain rfl := Option.some.inj (gHigh.symm.trans hg1)
  obtain rfl := Option.some.inj (gLowType.symm.trans ht0)
  obtain rfl := Option.some.inj (gHighType.symm.trans ht1)
  have e0 : cs0.toList = (Nums.lowT.map fun (x : Nat) => (x : Int)).map fun z => Value.int .u32 z := Lib.cells_of_tab Tryd.underlying135 Tryd.underlying29 cellsU32 cells16 hd0
  have e1 : cs1.toList = (Nums.highT.map fun (x : Nat) => (x : Int)).map fun z => Value.int .u32 z := Lib.cells_of_tab Tryd.underlying135 Tryd.underlying29 cellsU32 cells16 hd1
  have low : ∀ i : Fin 16, ((Nums.lowT.map fun (x : Nat) => (x : Int)).map fun z => Value.int .u32 z)[i.val]? = some (.int .u32 ((Nums.low i.val : Nat) : Int)) := by
    intro i
    have : i.val < Nums.lowT.length := i.isLt
    simp [Nums.low, List.getD, List.getElem?_eq_getElem this]
  have high : ∀ i : Fin 16, ((Nums.highT.map fun (x : Nat) => (x : Int)).map fun z => Value.int .u32 z)[i.val]? = some (.int .u32 ((Nums.high i.val : Nat) : Int)) := by
    intro i
    have : i.val < Nums.highT.length := i.isLt
    simp [Nums.high, List.getD, List.getElem?_eq_getElem this]
  refine ⟨fun i hi => ?_, fun i hi => ?_⟩
  · have h1 := World.var?_cell hg0 hv0 i
    have h2 := low ⟨i, hi⟩
    rw [← e0] at h2
    rw [h1]
    simpa using h2
  · have h1 := World.var?_cell hg1 hv1 i
    have h2 := high ⟨i, hi⟩
    rw [← e1] at h2
    rw [h1]
    simpa using h2

/-- A SLICE OF BYTES THAT CAME IN. -/
theorem bytes_in {H : Type} {enc : TypeId × Value → H} {W : World} {fuel n c : Nat} {A : Option Addr} {x : DataW H × List MemPlace} (h : DataW.trod enc Tryd.prog W 0 (fun _ => true) true fuel 28 [.slice A n c] = some x) :
    ∃ l, Small l ∧ Reads W W.heap.size A n (bts l) ∧ n ≤ c ∧ c ≤ maxLen ∧ ((x.1 = .nil ∧ c = 0) ∨ ∃ es sp, x.1 = .slice es sp ∧ es.length + sp.length = c) := by
  rcases open_ints Tryd.underlying28 Tryd.underlying5 cellsU8 h with ⟨hcs, rfl⟩ | ⟨a, len, cap, zs, hcs, _, hl, hm, hz, rfl, hcell, hwz⟩
  · simp only [List.cons.injEq, Value.slice.injEq, and_true] at hcs
    obtain ⟨rfl, rfl, rfl⟩ := hcs
    exact ⟨[], fun _ hx => by simp at hx, Reads.none_, Nat.le_refl _, by unfold maxLen; omega, .inl ⟨rfl, rfl⟩⟩
  · simp only [List.cons.injEq, Value.slice.injEq, and_true] at hcs
    obtain ⟨rfl, rfl, rfl⟩ := hcs
    simp only [if_true] at hz
    have hb : ∀ z ∈ zs, 0 ≤ z ∧ z < 256 := fun z hzm => by
      have := hwz z hzm
      simp [Lit.wf, IntKind.min, IntKind.max, IntKind.bits, IntKind.signed] at this
      omega
    have hlen : ((zs.take n).map Int.toNat).length = n := by simp; omega
    refine ⟨(zs.take n).map Int.toNat, ?_, ⟨by rw [bts_length, hlen], fun hn => ⟨a, rfl, ?_, ?_⟩⟩, hl, hm, .inr ⟨_, _, rfl, by simp [lits]; omega⟩⟩
    · intro y hy
      simp only [List.mem_map] at hy
      obtain ⟨z, hzm, rfl⟩ := hy
      have := hb z (List.mem_of_mem_take hzm)
      omega
    · have := World.block_lt_of_cell? W _ (hcell 0 (by omega))
      rwa [block_of_add] at this
    · intro j u hu
      have hj : j < n := by
        rcases Nat.lt_or_ge j n with h | h
        · exact h
        · rw [List.getElem?_eq_none (by rw [bts_length, hlen]; exact h)] at hu; cases hu
      have hjz : j < zs.length := by omega
      have h1 := hcell j hjz
      rw [h1]
      rw [bts_get _ _ (by rw [hlen]; exact hj)] at hu
      rw [← hu]
      have h2 := hb zs[j] (List.getElem_mem hjz)
      simp [List.getD, List.getElem?_eq_getElem hjz, hj]
      omega

/-- A slice's places count at least one each. -/
theorem bulk_pos {H : Type} : ∀ d : DataW H, 1 ≤ Rows.uptoBulk d
  | .lit l => by cases l <;> simp only [Rows.uptoBulk] <;> omega
  | .nil => by simp only [Rows.uptoBulk]; omega
  | .ptr _ => by simp only [Rows.uptoBulk]; omega
  | .slice _ _ => by simp only [Rows.uptoBulk]; omega
  | .agg _ => by simp only [Rows.uptoBulk]; omega
  | .iface _ _ => by simp only [Rows.uptoBulk]; omega
  | .map _ => by simp only [Rows.uptoBulk]; omega
  | .held _ => by simp only [Rows.uptoBulk]; omega
theorem bulk_length {H : Type} : ∀ l : List (DataW H), l.length ≤ Rows.uptoBulkAll l
  | [] => Nat.zero_le _
  | x :: r => by
    have h1 := bulk_pos x
    have h2 := bulk_length r
    simp only [Rows.uptoBulkAll, List.length_cons]
    omega
theorem slice_le {H : Type} (es sp : List (DataW H)) : es.length + sp.length + 1 ≤ Rows.uptoBulk (.slice es sp) := by
  have h1 := bulk_length es
  have h2 := bulk_length sp
  simp only [Rows.uptoBulk]
  omega

/-- A WORLD FOR THE WITNESS: the settled one, the two tables holding what their initialisers lay. -/
def withCells (l : List Nat) : Obj → Obj
  | .cells _ t frozen => .cells (l.map fun (x : Nat) => Value.int .u32 (x : Int)).toArray t frozen
  | o => o
noncomputable def laidWorld (os : Os) : World :=
  { World.holding Tryd.prog os ⟨#[], #[], []⟩ with heap := ((World.holding Tryd.prog os ⟨#[], #[], []⟩).heap.modify 0 (withCells Nums.lowT)).modify 1 (withCells Nums.highT) }
end Go.Proofs.YtjdjpafnakhpcaaDoor
