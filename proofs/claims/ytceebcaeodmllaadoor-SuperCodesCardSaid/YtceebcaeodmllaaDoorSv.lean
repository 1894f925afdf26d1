/-
  The contract of numbers: what a block's bytes say, be it right or not.
  Conditions: the table of widths holds what the program's text lays.
-/
import Derived.Test.YtceebcaeodmllaaDoorSu
namespace Go.Proofs.YtceebcaeodmllaaDoor.S
open Go.RowKit

def rowZ (l : List Nat) (j : Nat) : List Value := (List.range 8).map fun i => Value.int .i64 (if i < j then wrap64 ((numAt l i : Nat) : Int) else 0)
theorem rowZ_len (l : List Nat) (j : Nat) : (rowZ l j).length = 8 := by simp [rowZ]
theorem rowZ_at (l : List Nat) (j i : Nat) (h : i < 8) : (rowZ l j)[i]? = some (.int .i64 (if i < j then wrap64 ((numAt l i : Nat) : Int) else 0)) := by
  simp [rowZ, h]
theorem rowZ_set (l : List Nat) (j : Nat) : (rowZ l j).toArray.setIfInBounds j (.int .i64 (wrap64 ((numAt l j : Nat) : Int))) = (rowZ l (j + 1)).toArray := by
  rw [List.setIfInBounds_toArray]
  congr 1
  apply List.ext_getElem?
  intro i
  rw [List.getElem?_set]
  by_cases h : i < 8
  · by_cases e : j = i
    · subst e
      rw [if_pos rfl, if_pos (by rw [rowZ_len]; exact h), rowZ_at l _ j h, if_pos (by omega)]
    · rw [if_neg e, rowZ_at l _ i h, rowZ_at l _ i h]
      by_cases h2 : i < j
      · rw [if_pos h2, if_pos (by omega)]
      · rw [if_neg h2, if_neg (by omega)]
  · by_cases e : j = i
    · subst e
      rw [if_pos rfl, if_neg (by rw [rowZ_len]; exact h), List.getElem?_eq_none (by rw [rowZ_len]; omega)]
    · rw [if_neg e, List.getElem?_eq_none (by rw [rowZ_len]; omega), List.getElem?_eq_none (by rw [rowZ_len]; omega)]
theorem wid_off : ∀ j : Fin 8, 1 ≤ widL.getD j.val 0 ∧ widL.getD j.val 0 ≤ 8 ∧ offL.getD j.val 0 + widL.getD j.val 0 = offL.getD (j.val + 1) 0 ∧ offL.getD j.val 0 ≤ 24 := by decide
theorem numAt_lt {l : List Nat} (hs : Small l) (j : Nat) : numAt l j < 2 ^ (8 * widL.getD j 0) := cutAt_lt hs _ _
theorem cells_set {w : World} {b i : Nat} {c : Array Value} {t : TypeId} (v : Value) (h : w.heap[b]? = some (.cells c t (0, 0))) : (w.setCell ⟨b, i, none⟩ v).heap[b]? = some (.cells (c.setIfInBounds i v) t (0, 0)) := heap_setCell_same w b i c t v h
theorem info_sup : (Tryd.prog.info? 23).map (·.size) = some 8 := by kernel_rfl
theorem i8_in (n : Int) : -9223372036854775808 ≤ IntKind.i8.wrap n ∧ IntKind.i8.wrap n ≤ 9223372036854775807 := by
  simp [IntKind.wrap, IntKind.bits, IntKind.signed]
  omega
/-- A struct of eight cells is stored, cell by cell. -/
noncomputable def put8 (w : World) (g : Nat) (a0 a1 a2 a3 a4 a5 a6 a7 : Value) : World :=
  (((((((w.setCell ⟨g, 0, none⟩ a0).setCell ⟨g, 1, none⟩ a1).setCell ⟨g, 2, none⟩ a2).setCell ⟨g, 3, none⟩ a3).setCell ⟨g, 4, none⟩ a4).setCell ⟨g, 5, none⟩ a5).setCell ⟨g, 6, none⟩ a6).setCell ⟨g, 7, none⟩ a7
theorem put8_row {w : World} {g : Nat} {t : TypeId} {v0 v1 v2 v3 v4 v5 v6 v7 : Value} (h : w.heap[g]? = some (.cells #[v0, v1, v2, v3, v4, v5, v6, v7] t (0, 0))) (a0 a1 a2 a3 a4 a5 a6 a7 : Value) :
    (put8 w g a0 a1 a2 a3 a4 a5 a6 a7).heap[g]? = some (.cells #[a0, a1, a2, a3, a4, a5, a6, a7] t (0, 0)) := by
  have h0 : (w.setCell ⟨g, 0, none⟩ a0).heap[g]? = some (.cells #[a0, v1, v2, v3, v4, v5, v6, v7] t (0, 0)) := cells_set (i := 0) a0 h
  have h1 : ((w.setCell ⟨g, 0, none⟩ a0).setCell ⟨g, 1, none⟩ a1).heap[g]? = some (.cells #[a0, a1, v2, v3, v4, v5, v6, v7] t (0, 0)) := cells_set (i := 1) a1 h0
  clear h0
  have h2 : (((w.setCell ⟨g, 0, none⟩ a0).setCell ⟨g, 1, none⟩ a1).setCell ⟨g, 2, none⟩ a2).heap[g]? = some (.cells #[a0, a1, a2, v3, v4, v5, v6, v7] t (0, 0)) := cells_set (i := 2) a2 h1
  clear h1
  have h3 : ((((w.setCell ⟨g, 0, none⟩ a0).setCell ⟨g, 1, none⟩ a1).setCell ⟨g, 2, none⟩ a2).setCell ⟨g, 3, none⟩ a3).heap[g]? = some (.cells #[a0, a1, a2, a3, v4, v5, v6, v7] t (0, 0)) := cells_set (i := 3) a3 h2
  clear h2
  have h4 : (((((w.setCell ⟨g, 0, none⟩ a0).setCell ⟨g, 1, none⟩ a1).setCell ⟨g, 2, none⟩ a2).setCell ⟨g, 3, none⟩ a3).setCell ⟨g, 4, none⟩ a4).heap[g]? = some (.cells #[a0, a1, a2, a3, a4, v5, v6, v7] t (0, 0)) := cells_set (i := 4) a4 h3
  clear h3
  have h5 : ((((((w.setCell ⟨g, 0, none⟩ a0).setCell ⟨g, 1, none⟩ a1).setCell ⟨g, 2, none⟩ a2).setCell ⟨g, 3, none⟩ a3).setCell ⟨g, 4, none⟩ a4).setCell ⟨g, 5, none⟩ a5).heap[g]? = some (.cells #[a0, a1, a2, a3, a4, a5, v6, v7] t (0, 0)) := cells_set (i := 5) a5 h4
  clear h4
  have h6 : (((((((w.setCell ⟨g, 0, none⟩ a0).setCell ⟨g, 1, none⟩ a1).setCell ⟨g, 2, none⟩ a2).setCell ⟨g, 3, none⟩ a3).setCell ⟨g, 4, none⟩ a4).setCell ⟨g, 5, none⟩ a5).setCell ⟨g, 6, none⟩ a6).heap[g]? = some (.cells #[a0, a1, a2, a3, a4, a5, a6, v7] t (0, 0)) := cells_set (i := 6) a6 h5
  clear h5
  have h7 : ((((((((w.setCell ⟨g, 0, none⟩ a0).setCell ⟨g, 1, none⟩ a1).setCell ⟨g, 2, none⟩ a2).setCell ⟨g, 3, none⟩ a3).setCell ⟨g, 4, none⟩ a4).setCell ⟨g, 5, none⟩ a5).setCell ⟨g, 6, none⟩ a6).setCell ⟨g, 7, none⟩ a7).heap[g]? = some (.cells #[a0, a1, a2, a3, a4, a5, a6, a7] t (0, 0)) := cells_set (i := 7) a7 h6
  clear h6
  exact h7
theorem put8_below {B : Nat} {w0 w : World} {g : Nat} (h : Below B w0 w) (hg : B ≤ g) (a0 a1 a2 a3 a4 a5 a6 a7 : Value) : Below B w0 (put8 w g a0 a1 a2 a3 a4 a5 a6 a7) :=
  (((((((h.setCell (p := ⟨g, 0, none⟩) hg a0).setCell (p := ⟨g, 1, none⟩) hg a1).setCell (p := ⟨g, 2, none⟩) hg a2).setCell (p := ⟨g, 3, none⟩) hg a3).setCell (p := ⟨g, 4, none⟩) hg a4).setCell (p := ⟨g, 5, none⟩) hg a5).setCell (p := ⟨g, 6, none⟩) hg a6).setCell (p := ⟨g, 7, none⟩) hg a7
theorem put8_size (w : World) (g : Nat) (a0 a1 a2 a3 a4 a5 a6 a7 : Value) : (put8 w g a0 a1 a2 a3 a4 a5 a6 a7).heap.size = w.heap.size := by simp [put8]
theorem cells8_of {w : World} {g : Nat} {t : TypeId} {v0 v1 v2 v3 v4 v5 v6 v7 : Value} (h : w.heap[g]? = some (.cells #[v0, v1, v2, v3, v4, v5, v6, v7] t (0, 0))) :
    w.cell? ⟨g, 0, none⟩ = some v0 ∧ w.cell? ⟨g, 1, none⟩ = some v1 ∧ w.cell? ⟨g, 2, none⟩ = some v2 ∧ w.cell? ⟨g, 3, none⟩ = some v3 ∧ w.cell? ⟨g, 4, none⟩ = some v4 ∧ w.cell? ⟨g, 5, none⟩ = some v5 ∧ w.cell? ⟨g, 6, none⟩ = some v6 ∧ w.cell? ⟨g, 7, none⟩ = some v7 ∧
    w.frozen? ⟨g, 0, none⟩ = false ∧ w.frozen? ⟨g, 1, none⟩ = false ∧ w.frozen? ⟨g, 2, none⟩ = false ∧ w.frozen? ⟨g, 3, none⟩ = false ∧ w.frozen? ⟨g, 4, none⟩ = false ∧ w.frozen? ⟨g, 5, none⟩ = false ∧ w.frozen? ⟨g, 6, none⟩ = false ∧ w.frozen? ⟨g, 7, none⟩ = false :=
  ⟨cell_of_row _ _ 0 _ _ _ h, cell_of_row _ _ 1 _ _ _ h, cell_of_row _ _ 2 _ _ _ h, cell_of_row _ _ 3 _ _ _ h, cell_of_row _ _ 4 _ _ _ h, cell_of_row _ _ 5 _ _ _ h, cell_of_row _ _ 6 _ _ _ h, cell_of_row _ _ 7 _ _ _ h,
   frozen_of_row _ _ _ _ _ h, frozen_of_row _ _ _ _ _ h, frozen_of_row _ _ _ _ _ h, frozen_of_row _ _ _ _ _ h, frozen_of_row _ _ _ _ _ h, frozen_of_row _ _ _ _ _ h, frozen_of_row _ _ _ _ _ h, frozen_of_row _ _ _ _ _ h⟩
theorem store0 {w : World} {g : Nat} {t : TypeId} {v0 v1 v2 v3 v4 v5 v6 v7 : Value} (h : w.heap[g]? = some (.cells #[v0, v1, v2, v3, v4, v5, v6, v7] t (0, 0))) (a : Value) (ha : a.oneCell' = true) :
    (store ⟨g, 0, none⟩ a).run Tryd.prog w = .ok () (w.setCell ⟨g, 0, none⟩ a) := by
  have k0 : w.cell? ⟨g, 0, none⟩ = some v0 := cell_of_row _ _ 0 _ _ _ h
  have f0 : w.frozen? ⟨g, 0, none⟩ = false := frozen_of_row _ _ _ _ _ h
  rw [run_store _ _ _ _ _ ha, k0]
  simp only [f0]
  rfl
theorem zero8 : Tryd.prog.cellsOf 53 = 8 := by kernel_rfl
theorem zero_rowZ (l : List Nat) : (rowZ l 0).toArray = #[.int .i64 0, .int .i64 0, .int .i64 0, .int .i64 0, .int .i64 0, .int .i64 0, .int .i64 0, .int .i64 0] := by
  simp [rowZ, List.range, List.range.loop]
set_option maxRecDepth 100000 in
set_option maxHeartbeats 4000000 in
theorem numbers_any (l : List Nat) (hl : l.length = 128) (hs : Small l) (w : World) (hW : Wid w) :
    Calls Tryd.prog 23 #[.agg (bts l).toArray] w fun e w' => e = .returned (supOf l).val ∧ Below w.heap.size w w' := by
  have hi61 : (Tryd.prog.info? 44).map (·.size) = some (bts l).toArray.size := by rw [List.size_toArray, bts_length, hl]; exact info_block
  have hblk := heap_alloc_last w (.cells (bts l).toArray 44)
  have HS := Lib.hid hs
  have HL := Lib.hid hl
  have HW := Lib.hid hW
  clear hs hl hW
  have hb0 : Below w.heap.size w (((w.alloc (.cells (bts l).toArray 44)).alloc (.cells #[.int .i64 0, .int .i64 0, .int .i64 0, .int .i64 0, .int .i64 0, .int .i64 0, .int .i64 0, .int .i64 0] 23)).alloc (.cells #[.int .i64 0, .int .i64 0, .int .i64 0, .int .i64 0, .int .i64 0, .int .i64 0, .int .i64 0, .int .i64 0] 53)) :=
    (((Below.refl _ _).alloc (Nat.le_refl _) _).alloc (by simp) _).alloc (by simp; omega) _
  have hs0 : (((w.alloc (.cells (bts l).toArray 44)).alloc (.cells #[.int .i64 0, .int .i64 0, .int .i64 0, .int .i64 0, .int .i64 0, .int .i64 0, .int .i64 0, .int .i64 0] 23)).alloc (.cells #[.int .i64 0, .int .i64 0, .int .i64 0, .int .i64 0, .int .i64 0, .int .i64 0, .int .i64 0, .int .i64 0] 53)).heap.size = w.heap.size + 1 + 1 + 1 := by simp
  have hs2 : ((w.alloc (.cells (bts l).toArray 44)).alloc (.cells #[.int .i64 0, .int .i64 0, .int .i64 0, .int .i64 0, .int .i64 0, .int .i64 0, .int .i64 0, .int .i64 0] 23)).heap.size = w.heap.size + 1 + 1 := by simp
  have hs1 : (w.alloc (.cells (bts l).toArray 44)).heap.size = w.heap.size + 1 := by simp
  have h2 : (((w.alloc (.cells (bts l).toArray 44)).alloc (.cells #[.int .i64 0, .int .i64 0, .int .i64 0, .int .i64 0, .int .i64 0, .int .i64 0, .int .i64 0, .int .i64 0] 23)).alloc (.cells #[.int .i64 0, .int .i64 0, .int .i64 0, .int .i64 0, .int .i64 0, .int .i64 0, .int .i64 0, .int .i64 0] 53)).heap[w.heap.size + 1 + 1]? = some (.cells (rowZ l 0).toArray 53 (0, 0)) := by
    rw [zero_rowZ, ← hs2]; exact heap_alloc_last _ _
  have h1 : (((w.alloc (.cells (bts l).toArray 44)).alloc (.cells #[.int .i64 0, .int .i64 0, .int .i64 0, .int .i64 0, .int .i64 0, .int .i64 0, .int .i64 0, .int .i64 0] 23)).alloc (.cells #[.int .i64 0, .int .i64 0, .int .i64 0, .int .i64 0, .int .i64 0, .int .i64 0, .int .i64 0, .int .i64 0] 53)).heap[w.heap.size + 1]? = some (.cells #[.int .i64 0, .int .i64 0, .int .i64 0, .int .i64 0, .int .i64 0, .int .i64 0, .int .i64 0, .int .i64 0] 23 (0, 0)) := by
    rw [Below.heap_alloc _ _ _ (by rw [hs2]; omega), ← hs1]; exact heap_alloc_last _ _
  have h0 : (((w.alloc (.cells (bts l).toArray 44)).alloc (.cells #[.int .i64 0, .int .i64 0, .int .i64 0, .int .i64 0, .int .i64 0, .int .i64 0, .int .i64 0, .int .i64 0] 23)).alloc (.cells #[.int .i64 0, .int .i64 0, .int .i64 0, .int .i64 0, .int .i64 0, .int .i64 0, .int .i64 0, .int .i64 0] 53)).heap[w.heap.size]? = some (.cells (bts l).toArray 44 (0, 0)) := by
    rw [Below.heap_alloc _ _ _ (by rw [hs2]; omega), Below.heap_alloc _ _ _ (by rw [hs1]; omega)]; exact hblk
  clear hblk hs1 hs2
  go_enter Tryd.func23, Tryd.ntmps23
  go_wp2_with fail
  generalize (((w.alloc (.cells (bts l).toArray 44)).alloc (.cells #[.int .i64 0, .int .i64 0, .int .i64 0, .int .i64 0, .int .i64 0, .int .i64 0, .int .i64 0, .int .i64 0] 23)).alloc (.cells #[.int .i64 0, .int .i64 0, .int .i64 0, .int .i64 0, .int .i64 0, .int .i64 0, .int .i64 0, .int .i64 0] 53)) = W1 at *
  generalize hgs : w.heap.size = g at *
  have Hgs := Lib.hid hgs
  clear hgs
  have H0 := Lib.hid h0
  have H1 := Lib.hid h1
  have H2 := Lib.hid h2
  have HB := Lib.hid hb0
  have hwsz := HW.out.size
  rw [Hgs.out] at hwsz
  clear h0 h1 h2 hb0
  go_loopw [4, 8] (fun s4 s8 wr => ∃ j : Nat, j ≤ 8 ∧ s8 = .int .i64 j ∧ s4 = .int .i64 ((offL.getD j 0 : Nat) : Int) ∧ Hid (wr.heap[g + 1 + 1]? = some (.cells (rowZ l j).toArray 53 (0, 0))) ∧ Below (g + 1 + 1) W1 wr) (fun _ s8 _ => 8 - (intOf s8).toNat)
  case atStart => exact ⟨0, by omega, rfl, rfl, H2, Below.refl _ _⟩
  case round =>
    obtain ⟨j, hj, rfl, rfl, Hrow, hbr⟩ := hrel
    have hszr : W1.heap.size ≤ wr.heap.size := hbr.size
    by_cases hlt : j < 8
    · have hw := wid_off ⟨j, hlt⟩
      simp only at hw
      have hwid : wr.cell? ⟨0, j, none⟩ = some (.int .i64 ((widL.getD j 0 : Nat) : Int)) := ((HW.out.below (by omega) HB.out).below (by omega) hbr) j hlt
      have hrd : Reads wr wr.heap.size (some ⟨g, 0, none⟩) 128 (bts l) := reads_row ((hbr.block g (by omega)).trans H0.out) (by omega) HL.out
      have q := Lib.hid (fun k => get_ok (some ⟨g, 0, none⟩) 128 128 _ l (offL.getD j 0) (widL.getD j 0) (wr.drewN k) hw.1 hw.2.1 HS.out (hrd.drewN k) (by decide) (by omega))
      have hx := numAt_lt HS.out j
      have hcell := (cell_of_row _ _ j _ _ _ Hrow.out).trans ((List.getElem?_toArray).trans (rowZ_at l j j hlt))
      rw [if_neg (by omega)] at hcell
      have hfz := frozen_of_row _ _ j _ _ Hrow.out
      have hset := cells_set (i := j) (.int .i64 (wrap64 ((numAt l j : Nat) : Int))) Hrow.out
      rw [rowZ_set] at hset
      have hbelow := fun k => (hbr.trans (show Below (g + 1 + 1) wr (wr.drewN k) from ⟨rfl, rfl, rfl, Nat.le_refl _, fun _ _ => rfl⟩)).setCell (p := ⟨g + 1 + 1, j, none⟩) (Nat.le_refl _) (.int .i64 (wrap64 ((numAt l j : Nat) : Int)))
      have HSET := Lib.hid hset
      have HBEL := Lib.hid hbelow
      have hnum : getN (cutAt l (offL.getD j 0) (widL.getD j 0)) = numAt l j := rfl
      rw [hnum] at q
      have Hn := Lib.hid hw.2.2.1
      have hb1 := hw.2.2.2
      have hb2 := hw.2.1
      clear hw hset hbelow hrd hnum
      generalize numAt l j = x at *
      generalize offL.getD j 0 = o at *
      generalize widL.getD j 0 = d at *
      go_wp2_with fail
      go_quiet ((first | (go_at_call 30; refine (q.out _).mono ?_; rintro e w' ⟨rfl, rfl⟩; exact ⟨rfl, _, rfl⟩)))
      go_wp2_with fail
      go_roundw
      case rel => exact ⟨j + 1, by omega, by go_num, by rw [← Hn.out]; go_num, Lib.hid HSET.out, HBEL.out _⟩
      case measure => simp [intOf]; omega
    · obtain rfl : j = 8 := by omega
      have hz : ∀ i, i < 8 → wr.cell? ⟨g + 1 + 1, i, none⟩ = some (.int .i64 (wrap64 ((numAt l i : Nat) : Int))) := fun i hi => by
        rw [cell_of_row _ _ i _ _ _ Hrow.out, List.getElem?_toArray, rowZ_at l 8 i hi, if_pos hi]
      have m0 := hz 0 (by decide)
      have m1 := hz 1 (by decide)
      have m2 := hz 2 (by decide)
      have m3 := hz 3 (by decide)
      have m4 := hz 4 (by decide)
      have m5 := hz 5 (by decide)
      have m6 := hz 6 (by decide)
      have m7 := hz 7 (by decide)
      have b1 := numAt_lt HS.out 1
      have b2 := numAt_lt HS.out 2
      have b3 := numAt_lt HS.out 3
      have b4 := numAt_lt HS.out 4
      have b5 := numAt_lt HS.out 5
      have b6 := numAt_lt HS.out 6
      have b7 := numAt_lt HS.out 7
      have z : ∀ i, i < 8 → numAt l i < 2 ^ 32 → wrap64 ((numAt l i : Nat) : Int) = ((numAt l i : Nat) : Int) := fun i _ hb => IntWalk.wrap64_in _ (by omega)
      rw [z 1 (by decide) (Nat.lt_of_lt_of_le b1 (by decide))] at m1
      rw [z 2 (by decide) (Nat.lt_of_lt_of_le b2 (by decide))] at m2
      rw [z 3 (by decide) (Nat.lt_of_lt_of_le b3 (by decide))] at m3
      rw [z 4 (by decide) (Nat.lt_of_lt_of_le b4 (by decide))] at m4
      rw [z 5 (by decide) (Nat.lt_of_lt_of_le b5 (by decide))] at m5
      rw [z 6 (by decide) (Nat.lt_of_lt_of_le b6 (by decide))] at m6
      rw [z 7 (by decide) (Nat.lt_of_lt_of_le b7 (by decide))] at m7
      have e0 := IntWalk.i64_left ((numAt l 0 : Nat) : Int)
      have hv : Hid ((supOf l).val = .agg #[.int .i64 (wrap64 ((numAt l 0 : Nat) : Int)), .int .i64 ((numAt l 1 : Nat) : Int), .int .i64 ((numAt l 2 : Nat) : Int), .int .i64 ((numAt l 5 : Nat) : Int), .int .i64 ((numAt l 3 : Nat) : Int), .int .i64 (IntKind.i8.wrap ((numAt l 4 : Nat) : Int)), .int .i64 ((numAt l 6 : Nat) : Int), .int .i64 ((numAt l 7 : Nat) : Int)]) := Lib.hid (by rw [← e0]; rfl)
      have HV := hv
      clear hz z hv e0 b1 b2 b3 b4 b5 b6 b7
      generalize wrap64 ((numAt l 0 : Nat) : Int) = y0 at *
      generalize numAt l 1 = y1 at *
      generalize numAt l 2 = y2 at *
      generalize numAt l 3 = y3 at *
      have hw4 : wrap64 (IntKind.i8.wrap ((numAt l 4 : Nat) : Int)) = IntKind.i8.wrap ((numAt l 4 : Nat) : Int) := IntWalk.wrap64_in _ (i8_in _)
      generalize hy4 : IntKind.i8.wrap ((numAt l 4 : Nat) : Int) = y4 at *
      generalize numAt l 4 = z4 at *
      generalize numAt l 5 = y5 at *
      generalize numAt l 6 = y6 at *
      generalize numAt l 7 = y7 at *
      have h1r := (hbr.block (g + 1) (by omega)).trans H1.out
      have hinfo : (Tryd.prog.info? 23).map (·.size) = some (#[Value.int .i64 y0, .int .i64 y1, .int .i64 y2, .int .i64 y5, .int .i64 y3, .int .i64 y4, .int .i64 y6, .int .i64 y7] : Array Value).size := info_sup
      obtain ⟨k0, k1, k2, k3, k4, k5, k6, k7, f0, f1, f2, f3, f4, f5, f6, f7⟩ := cells8_of h1r
      have s0 := store0 h1r (.int .i64 y0) (by rfl)
      have hrow := put8_row h1r (.int .i64 y0) (.int .i64 y1) (.int .i64 y2) (.int .i64 y5) (.int .i64 y3) (.int .i64 y4) (.int .i64 y6) (.int .i64 y7)
      have hb5 := put8_below (g := g + 1) (HB.out.trans (hbr.mono (by omega))) (by omega) (.int .i64 y0) (.int .i64 y1) (.int .i64 y2) (.int .i64 y5) (.int .i64 y3) (.int .i64 y4) (.int .i64 y6) (.int .i64 y7)
      have hlv := run_loadVar_row (P := Tryd.prog) _ (g + 1) 23 23 _ (0, 0) _ hrow Tryd.underlying23 rfl hinfo
      have HROW := Lib.hid hrow
      have HB5 := Lib.hid hb5
      have HLV := Lib.hid hlv
      clear hrow hb5 hlv h1r
      go_wp2_with fail
      refine bodyPost_ret (results_cell (g := g + 1) Tryd.results23 rfl HLV.out) rfl ?_
      exact ⟨by rw [HV.out], by rw [Hgs.out]; exact HB5.out⟩
end Go.Proofs.YtceebcaeodmllaaDoor.S
