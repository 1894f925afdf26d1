/-
  slices.Insert of one number into a row of the call's own: the row behind it.
  Conditions: the theorem's own.
-/
import Derived.Shelf.Spec.SlicesInsertGrow
import Derived.Test.YthnjnpighnlodaaRw
import Derived.Test.YthnjnpighnlodaaIn
import Derived.Deep.WholeRow
namespace Go.Proofs.Ythnjnpighnlodaa
open Go.RowKit Go.Shelf

def insRen : Go.Shelf.Ren := ⟨fun | 21 => 35 | 27 => 39 | 28 => 40 | 35 => 43 | 39 => 47 | n => n, fun | 22 => 39 | 3 => 3 | 4 => 4 | 0 => 0 | n => n, fun | n => n⟩
theorem insLays : Go.Proofs.Lays2.n21 Try.prog insRen := {
  mixed := by kernel_rfl
  f21 := Try.func35.trans (congrArg some (by kernel_rfl))
  f27 := Try.func39.trans (congrArg some (by kernel_rfl))
  f28 := Try.func40.trans (congrArg some (by kernel_rfl))
  f35 := Try.func43.trans (congrArg some (by kernel_rfl))
  f39 := Try.func47.trans (congrArg some (by kernel_rfl))
  t0 := Try.underlying0
  a0 := Try.isAgg0
  z0 := Try.sizeOf0
  v0 := Try.zeroValue0
  t3 := Try.underlying3
  a3 := Try.isAgg3
  z3 := Try.sizeOf3
  v3 := Try.zeroValue3
  t4 := Try.underlying4
  a4 := Try.isAgg4
  z4 := Try.sizeOf4
  v4 := Try.zeroValue4
  t22 := Try.underlying39
  a22 := Try.isAgg39
  z22 := Try.sizeOf39
  v22 := Try.zeroValue39
  i3 := by kernel_rfl }

/-- Numbers as values. -/
def ints (l : List Nat) : List Value := l.map fun (x : Nat) => Value.int .i64 (x : Int)
theorem ints_length (l : List Nat) : (ints l).length = l.length := by simp [ints]
theorem ints_get (l : List Nat) (k : Nat) (h : k < l.length) : (ints l)[k]? = some (.int .i64 ((l.getD k 0 : Nat) : Int)) := by
  simp [ints, List.getElem?_eq_getElem h]
theorem ints_append (l m : List Nat) : ints (l ++ m) = ints l ++ ints m := by simp [ints]
theorem ints_one (l : List Nat) : ∀ u ∈ ints l, u.oneCell' = true := by
  intro u hu
  simp only [ints, List.mem_map] at hu
  obtain ⟨x, _, rfl⟩ := hu
  rfl
theorem ints_put (l : List Nat) (p i : Nat) : ints (l.take i ++ p :: l.drop i) = (ints l).take i ++ .int .i64 (p : Int) :: (ints l).drop i := by
  simp [ints, List.map_take, List.map_drop]

theorem zeros (k : Nat) : (Builtin.zeroCells (Value.int .i64 0).cells k).toList = List.replicate k (.int .i64 0) := by
  apply List.ext_getElem?
  intro j
  by_cases hj : j < k
  · simp [Builtin.zeroCells, Value.cells, hj, Nat.mod_one]
  · simp [Builtin.zeroCells, Value.cells, hj]
set_option maxRecDepth 20000 in
theorem insert_own {base : Nat} {w0 w : World} {v : Value} {n i p : Nat} {l : List Nat} (hown : w.ownsRow base 3 1 v n (ints l)) (hi : i < n) (hn : n ≤ 17) (hb : Below base w0 w) (hbase : base ≤ w.heap.size) :
    Calls Try.prog 35 #[v, .int .i64 i, .slice (some ⟨w.heap.size, 0, none⟩) 1 1] (w.alloc (.cells #[.int .i64 p] 3)) fun e w' =>
      ∃ v', e = .returned v' ∧ w'.ownsRow base 3 1 v' (n + 1) (ints (l.take i ++ p :: l.drop i)) ∧ Below base w0 w' := by
  have hlen : (ints l).length = n := by simpa using hown.1
  obtain ⟨g, cap, rfl, hg1, hg2⟩ := hown.form (by omega)
  have hlt := (hown.lt g rfl)
  have hown2 := hown.alloc (.cells #[.int .i64 p] 3)
  have hvb : w.heap.size ≠ g := by omega
  have hnew : ∀ j v, [Value.int .i64 (p : Int)][j]? = some v → (w.alloc (.cells #[.int .i64 p] 3)).cell? ⟨w.heap.size, 0 + j, none⟩ = some v := by
    intro j v hj
    rw [Nat.zero_add, cell_of_row _ _ j _ _ _ (heap_alloc_last w (.cells #[.int .i64 p] 3))]
    simpa using hj
  have hcs : ∀ j v, (ints l)[j]? = some v → (w.alloc (.cells #[.int .i64 p] 3)).cell? ⟨g, 0 + j, none⟩ = some v := by
    intro j v hj
    have hj2 : j < n := by rw [← hlen]; exact (List.getElem?_eq_some_iff.1 hj).1
    rw [Nat.zero_add, hown2.cellAt j (by omega)]
    exact hj
  have hone : ∀ v ∈ [Value.int .i64 (p : Int)], v.oneCell' = true := by intro v hv; simp at hv; subst hv; rfl
  have hba : Below base w0 (w.alloc (.cells #[.int .i64 p] 3)) := hb.alloc hbase _
  rcases Nat.lt_or_ge n cap with hroom | hroom
  · obtain ⟨u, hsp⟩ := Ins.own_spare hown2 hroom
    have hcap : cap ≤ 9223372036854775807 := by
      rcases hown.2 with ⟨h', _⟩ | ⟨g', cap', cur, h', _, hg, _, hcm, _⟩
      · simp at h'
      · simp only [Value.slice.injEq, Option.some.injEq, Addr.mk.injEq, and_true, true_and] at h'
        obtain ⟨rfl, rfl⟩ := h'
        unfold maxLen at hcm; omega
    obtain ⟨tB, kB, hsB, hkB⟩ : ∃ tB kB, (w.alloc (.cells #[.int .i64 p] 3)).shape? g = some (tB, kB) ∧ kB ≠ 0 := by
      rcases hown2.2 with ⟨h', _⟩ | ⟨g', cap', cur, h', _, hg, _, _, hcs', _⟩
      · simp at h'
      · simp only [Value.slice.injEq, Option.some.injEq, Addr.mk.injEq, and_true, true_and] at h'
        obtain ⟨rfl, rfl⟩ := h'
        exact ⟨_, _, by rw [World.shape?, hg], by omega⟩
    have hsA : (w.alloc (.cells #[.int .i64 p] 3)).shape? w.heap.size = some (3, 1) := by
      rw [World.shape?, heap_alloc_last w (.cells #[.int .i64 p] 3)]; rfl
    refine (Any2.slices_Insert_int_shift insLays g 0 n cap i w.heap.size 0 1 1 (ints l) [.int .i64 p] _ hi (by decide) (by omega) hcap hvb hlen rfl hcs ?_ ?_ hnew (ints_one l) hone _ _ _ _ hsA hsB hkB ?_ ?_).mono ?_
    · intro j hj
      rw [Nat.zero_add, hsp.cellAt j (by omega), List.getElem?_eq_getElem (by rw [List.length_append, hlen]; simpa using hj)]
      rfl
    · intro j _
      rw [Nat.zero_add]
      exact hsp.frozenAt j
    · exact frozen_of_row _ _ 0 _ _ (heap_alloc_last w (.cells #[.int .i64 p] 3))
    · exact frozen_of_row _ _ 1 _ _ (heap_alloc_last w (.cells #[.int .i64 p] 3))
    · rintro e w' ⟨rfl, rfl⟩
      refine ⟨_, rfl, ?_, Ins.below_setCells hg1 _ _ (Ins.below_setCells hg1 _ _ hba.drew)⟩
      have h1 := Ins.own_setCells ((ints l).drop i) (i + 1) _ _ (Ins.own_drew hsp)
      have h2 := Ins.own_setCells [.int .i64 p] i _ _ h1
      rw [Ins.shifted (ints l) u (.int .i64 p) i (by omega)] at h2
      rw [ints_put, Nat.zero_add, Nat.zero_add]
      exact h2
  · have hnc : n ≤ cap := by
      rcases hown.2 with ⟨h', _⟩ | ⟨g', cap', cur, h', _, hg, hnc, _⟩
      · simp at h'
      · simp only [Value.slice.injEq, Option.some.injEq, Addr.mk.injEq, and_true, true_and] at h'
        obtain ⟨rfl, rfl⟩ := h'
        exact hnc
    refine (Any2.slices_Insert_int_grow insLays g 0 n cap i w.heap.size 0 1 1 (ints l) [.int .i64 p] _ hi (by decide) hnc (by omega) (by omega) hlen rfl hcs hnew (ints_one l) hone).mono ?_
    rintro e w' ⟨rfl, rfl⟩
    have hG := grownCap_ge (w.alloc (.cells #[.int .i64 p] 3)) (n + 1) cap 3
    have hGm := grownCap_le_maxLen (w.alloc (.cells #[.int .i64 p] 3)) (n + 1) cap 3 (by unfold maxLen; omega)
    have hbase2 : base ≤ (w.alloc (.cells #[.int .i64 p] 3)).heap.size := by simp; omega
    have he : insRen.t 3 = 3 := rfl
    rw [he]
    generalize grownCap (w.alloc (.cells #[.int .i64 p] 3)) (n + 1) cap 3 = G at *
    generalize w.alloc (.cells #[.int .i64 p] 3) = W at *
    have hti : ((ints l).take i).length = i := by simp [hlen]; omega
    have hz : ∀ k, (Builtin.zeroCells (Value.int .i64 0).cells k).toList = List.replicate k (.int .i64 0) := fun k => zeros k
    refine ⟨_, rfl, ?_, Ins.below_setCells hbase2 _ _ (Ins.below_setCells hbase2 _ _ (hba.alloc hbase2 _).drew).drew⟩
    have h0 : (W.alloc (.cells (((ints l).take i).toArray ++ Builtin.zeroCells (Value.int .i64 0).cells (n + 1 - i) ++ Builtin.zeroCells (Value.int .i64 0).cells (G - (n + 1))) 3)).ownsRow base 3 1
        (.slice (some ⟨W.heap.size, 0, none⟩) (n + 1) G) (n + 1) ((ints l).take i ++ List.replicate (n + 1 - i) (.int .i64 0)) := by
      refine ⟨by rw [List.length_append, hti, List.length_replicate]; omega, .inr ⟨W.heap.size, G, _, rfl, hbase2, heap_alloc_last W _, hG, hGm, ?_, ?_⟩⟩
      · simp only [Array.size_append, size_zeroCells, List.size_toArray, hti]
        simp [Value.cells]; omega
      · simp only [Array.toList_append, hz]
        rw [List.take_append_of_le_length (by rw [List.length_append, hti, List.length_replicate]; omega), List.take_of_length_le (by rw [List.length_append, hti, List.length_replicate]; omega)]
    have h1 := Ins.own_setCells [.int .i64 p] i _ _ (Ins.own_drew h0)
    have h2 := Ins.own_setCells ((ints l).drop i) (i + 1) _ _ (Ins.own_drew h1)
    have hgr := Ins.grown (ints l) (.int .i64 0) (.int .i64 p) i (by omega)
    rw [hlen] at hgr
    rw [hgr] at h2
    rw [ints_put]
    exact h2
end Go.Proofs.Ythnjnpighnlodaa
