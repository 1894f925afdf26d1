/-
  A block's two sums in their sector: the contract of pairOf.
  Conditions: the sector's 128 bytes can be read, and the block's number is none below nought.
-/
import Derived.Test.YtjdjpafnakhpcaaDoorUd
namespace Go.Proofs.YtjdjpafnakhpcaaDoor.U
open Go.RowKit Go.Maps

theorem getN_cut_lt {l : List Nat} (hl : Small l) (i : Nat) : getN (cutAt l i 4) < 4294967296 := cutAt_lt hl i 4
/-- The two sums of a block that stand in a sector of sums. -/
def pr (l : List Nat) (k j : Nat) : Nat := getN (cutAt l (k % 16 * 8 + j * 4) 4)
theorem info_pair : (Tryd.prog.info? 108).map (·.size) = some 2 := by kernel_rfl
theorem two_new (w : World) (c d : Array Value) (t : TypeId) : ((w.alloc (.cells c t)).alloc (.cells d t)).heap[w.heap.size]? = some (.cells c t (0, 0)) ∧ ((w.alloc (.cells c t)).alloc (.cells d t)).heap[w.heap.size + 1]? = some (.cells d t (0, 0)) ∧
    ((w.alloc (.cells c t)).alloc (.cells d t)).heap.size = w.heap.size + 2 ∧ Below w.heap.size w ((w.alloc (.cells c t)).alloc (.cells d t)) := by
  have hz : (w.alloc (.cells c t)).heap.size = w.heap.size + 1 := by simp
  have hb1 : Below w.heap.size w (w.alloc (.cells c t)) := (Below.refl _ w).alloc (Nat.le_refl _) _
  have hb2 : Below (w.alloc (.cells c t)).heap.size (w.alloc (.cells c t)) ((w.alloc (.cells c t)).alloc (.cells d t)) := (Below.refl _ _).alloc (Nat.le_refl _) _
  refine ⟨(hb2.block w.heap.size (by omega)).trans (heap_alloc_new _ _), ?_, by simp, hb1.trans (hb2.mono (by omega))⟩
  have := heap_alloc_new (w.alloc (.cells c t)) (.cells d t)
  rw [hz] at this
  exact this
theorem store_two {w : World} {g : Nat} {t : TypeId} {v0 v1 : Value} (h : w.heap[g]? = some (.cells #[v0, v1] t (0, 0))) (a : Value) (ha : a.oneCell' = true) :
    (store ⟨g, 0, none⟩ a).run Tryd.prog w = .ok () (w.setCell ⟨g, 0, none⟩ a) := by
  have k0 : w.cell? ⟨g, 0, none⟩ = some v0 := cell_of_row _ _ 0 _ _ _ h
  have f0 : w.frozen? ⟨g, 0, none⟩ = false := frozen_of_row _ _ _ _ _ h
  rw [run_store _ _ _ _ _ ha, k0]
  simp only [f0]
  rfl
theorem results_in {fn : Func} {a : Tmp} {t : TypeId} {P : Program} {w : World} {v : Value} {tmps : Array Value} {g : Nat} (h : fn.results = #[.cell a t])
    (hp : tmps.getD a undef = .pointer (some ⟨g, 0, none⟩)) (hl : (loadVar t ⟨g, 0, none⟩).run P w = .ok v w) : (results fn tmps).run P w = .ok v w := by
  rw [Array.getD_eq_getD_getElem?] at hp
  simp [results, h, hp, asAddr, hl]
set_option maxRecDepth 20000 in
set_option maxHeartbeats 1600000 in
theorem pairOf_any (A : Option Addr) (c k : Nat) (l : List Nat) (w : World) (hk : k ≤ 9223372036854775807) (hl : Small l) (hr : Reads w w.heap.size A 128 (bts l)) :
    Calls Tryd.prog 89 #[.slice A 128 c, .int .i64 k] w fun e w' => e = .returned (.agg #[.int .u32 ((pr l k 0 : Nat) : Int), .int .u32 ((pr l k 1 : Nat) : Int)]) ∧ Below w.heap.size w w' := by
  obtain ⟨r0, r1, z0, b0⟩ := two_new w #[.int .u32 0, .int .u32 0] #[.int .u32 0, .int .u32 0] 108
  have hpa := Lib.hid (pairAt_any k hk)
  go_enter Tryd.func89, Tryd.ntmps89
  have hm : k % 16 * 8 ≤ 120 := by omega
  have HP0 := Lib.hid (show getN (cutAt l (k % 16 * 8) 4) = pr l k 0 from rfl)
  have HP1 := Lib.hid (show getN (cutAt l (k % 16 * 8 + 4) 4) = pr l k 1 from rfl)
  have q0 := getN_cut_lt hl (k % 16 * 8)
  have q1 := getN_cut_lt hl (k % 16 * 8 + 4)
  have G0 := Lib.hid (fun (W : World) (B : Nat) (h : Reads W B A 128 (bts l)) => get_ok A 128 c B l (k % 16 * 8) 4 W (by decide) (by decide) hl h (by decide) (by omega))
  have G1 := Lib.hid (fun (W : World) (B : Nat) (h : Reads W B A 128 (bts l)) => get_ok A 128 c B l (k % 16 * 8 + 4) 4 W (by decide) (by decide) hl h (by decide) (by omega))
  rw [HP0.out] at q0
  rw [HP1.out] at q1
  rw [HP0.out] at G0
  rw [HP1.out] at G1
  generalize pr l k 0 = x0 at *
  generalize pr l k 1 = x1 at *
  generalize k % 16 * 8 = m at *
  have hr0 := (hr.below b0).more b0.size
  go_wp2_with fail
  generalize ((w.alloc (.cells #[.int .u32 0, .int .u32 0] 108)).alloc (.cells #[.int .u32 0, .int .u32 0] 108)) = W0 at *
  have hw0 : ((x0 : Nat) : Int) % 4294967296 = x0 := by omega
  have hw1 : ((x1 : Nat) : Int) % 4294967296 = x1 := by omega
  go_loopw [9] (fun s9 wr => ∃ j : Nat, j ≤ 2 ∧ s9 = .int .i64 j ∧ Reads wr wr.heap.size A 128 (bts l) ∧ Below w.heap.size w wr ∧ wr.heap.size = w.heap.size + 2 ∧ wr.heap[w.heap.size]? = some (.cells #[.int .u32 0, .int .u32 0] 108 (0, 0)) ∧
    wr.heap[w.heap.size + 1]? = some (.cells #[if j = 0 then .int .u32 0 else .int .u32 (x0 : Int), if j ≤ 1 then .int .u32 0 else .int .u32 (x1 : Int)] 108 (0, 0))) (fun i _ => 2 - (intOf i).toNat)
  case atStart => exact ⟨0, by decide, rfl, hr0, b0, z0, r0, r1⟩
  case round =>
    clear r0 r1 b0 z0 hr0
    obtain ⟨j, hj, rfl, hr1, b1, z1, r0, r1⟩ := hrel
    rcases (show j = 0 ∨ j = 1 ∨ j = 2 by omega) with rfl | rfl | rfl
    · have r1 : wr.heap[w.heap.size + 1]? = some (.cells #[.int .u32 0, .int .u32 0] 108 (0, 0)) := r1
      have k0 := cell_of_row _ _ 0 _ _ _ r1
      have k1 := cell_of_row _ _ 1 _ _ _ r1
      simp only [List.getElem?_toArray, List.getElem?_cons_zero, List.getElem?_cons_succ] at k0 k1
      have f0 := frozen_of_row _ _ 0 _ _ r1
      have r2 : (wr.setCell ⟨w.heap.size + 1, 0, none⟩ (.int .u32 (x0 : Int))).heap[w.heap.size + 1]? = some (.cells #[.int .u32 (x0 : Int), .int .u32 0] 108 (0, 0)) := heap_setCell_same wr _ _ _ _ _ r1
      have r3 : (wr.setCell ⟨w.heap.size + 1, 0, none⟩ (.int .u32 (x0 : Int))).heap[w.heap.size]? = _ := (Sh.heap_set_other wr ⟨w.heap.size + 1, 0, none⟩ (.int .u32 (x0 : Int)) (show w.heap.size ≠ w.heap.size + 1 by omega)).trans r0
      have b3 : Below w.heap.size w (wr.setCell ⟨w.heap.size + 1, 0, none⟩ (.int .u32 (x0 : Int))) := b1.setCell (p := ⟨w.heap.size + 1, 0, none⟩) (Nat.le_succ _) _
      have z3 : (wr.setCell ⟨w.heap.size + 1, 0, none⟩ (.int .u32 (x0 : Int))).heap.size = w.heap.size + 2 := by simp [z1]
      have hr3 : Reads (wr.setCell ⟨w.heap.size + 1, 0, none⟩ (.int .u32 (x0 : Int))) (wr.setCell ⟨w.heap.size + 1, 0, none⟩ (.int .u32 (x0 : Int))).heap.size A 128 (bts l) := (hr.below b3).more b3.size
      go_wp2_with (first
        | (go_at_call 101; refine (hpa.out _).mono ?_; rintro e w' ⟨rfl, rfl⟩)
        | (go_at_call 97; refine (G0.out _ _ hr1).mono ?_; rintro e w' ⟨rfl, rfl⟩))
      go_roundw
      case rel => exact ⟨0 + 1, by omega, by rfl, hr3, b3, z3, r3, r2⟩
      case measure => simp [intOf]
    · have r1 : wr.heap[w.heap.size + 1]? = some (.cells #[.int .u32 (x0 : Int), .int .u32 0] 108 (0, 0)) := r1
      have k0 := cell_of_row _ _ 0 _ _ _ r1
      have k1 := cell_of_row _ _ 1 _ _ _ r1
      simp only [List.getElem?_toArray, List.getElem?_cons_zero, List.getElem?_cons_succ] at k0 k1
      have f0 := frozen_of_row _ _ 1 _ _ r1
      have r2 : (wr.setCell ⟨w.heap.size + 1, 1, none⟩ (.int .u32 (x1 : Int))).heap[w.heap.size + 1]? = some (.cells #[.int .u32 (x0 : Int), .int .u32 (x1 : Int)] 108 (0, 0)) := heap_setCell_same wr _ _ _ _ _ r1
      have r3 : (wr.setCell ⟨w.heap.size + 1, 1, none⟩ (.int .u32 (x1 : Int))).heap[w.heap.size]? = _ := (Sh.heap_set_other wr ⟨w.heap.size + 1, 1, none⟩ (.int .u32 (x1 : Int)) (show w.heap.size ≠ w.heap.size + 1 by omega)).trans r0
      have b3 : Below w.heap.size w (wr.setCell ⟨w.heap.size + 1, 1, none⟩ (.int .u32 (x1 : Int))) := b1.setCell (p := ⟨w.heap.size + 1, 1, none⟩) (Nat.le_succ _) _
      have z3 : (wr.setCell ⟨w.heap.size + 1, 1, none⟩ (.int .u32 (x1 : Int))).heap.size = w.heap.size + 2 := by simp [z1]
      have hr3 : Reads (wr.setCell ⟨w.heap.size + 1, 1, none⟩ (.int .u32 (x1 : Int))) (wr.setCell ⟨w.heap.size + 1, 1, none⟩ (.int .u32 (x1 : Int))).heap.size A 128 (bts l) := (hr.below b3).more b3.size
      go_wp2_with (first
        | (go_at_call 101; refine (hpa.out _).mono ?_; rintro e w' ⟨rfl, rfl⟩)
        | (go_at_call 97; refine (G1.out _ _ hr1).mono ?_; rintro e w' ⟨rfl, rfl⟩))
      go_roundw
      case rel => exact ⟨1 + 1, by omega, by rfl, hr3, b3, z3, r3, r2⟩
      case measure => simp [intOf]
    · have r1 : wr.heap[w.heap.size + 1]? = some (.cells #[.int .u32 (x0 : Int), .int .u32 (x1 : Int)] 108 (0, 0)) := r1
      obtain ⟨k0, k1, f0, f1⟩ := (show wr.cell? ⟨w.heap.size, 0, none⟩ = some (.int .u32 0) ∧ wr.cell? ⟨w.heap.size, 1, none⟩ = some (.int .u32 0) ∧ wr.frozen? ⟨w.heap.size, 0, none⟩ = false ∧ wr.frozen? ⟨w.heap.size, 1, none⟩ = false from ⟨cell_of_row _ _ 0 _ _ _ r0, cell_of_row _ _ 1 _ _ _ r0, frozen_of_row _ _ _ _ _ r0, frozen_of_row _ _ _ _ _ r0⟩)
      obtain ⟨j0, j1⟩ := (show wr.cell? ⟨w.heap.size + 1, 0, none⟩ = some (.int .u32 (x0 : Int)) ∧ wr.cell? ⟨w.heap.size + 1, 1, none⟩ = some (.int .u32 (x1 : Int)) from ⟨cell_of_row _ _ 0 _ _ _ r1, cell_of_row _ _ 1 _ _ _ r1⟩)
      have r2 : ((wr.setCell ⟨w.heap.size, 0, none⟩ (.int .u32 (x0 : Int))).setCell ⟨w.heap.size, 1, none⟩ (.int .u32 (x1 : Int))).heap[w.heap.size]? = some (.cells #[.int .u32 (x0 : Int), .int .u32 (x1 : Int)] 108 (0, 0)) :=
        heap_setCell_same _ _ _ _ _ _ (show (wr.setCell ⟨w.heap.size, 0, none⟩ (.int .u32 (x0 : Int))).heap[w.heap.size]? = some (.cells #[.int .u32 (x0 : Int), .int .u32 0] 108 (0, 0)) from heap_setCell_same wr _ _ _ _ _ r0)
      have b3 : Below w.heap.size w ((wr.setCell ⟨w.heap.size, 0, none⟩ (.int .u32 (x0 : Int))).setCell ⟨w.heap.size, 1, none⟩ (.int .u32 (x1 : Int))) := (b1.setCell (p := ⟨w.heap.size, 0, none⟩) (Nat.le_refl _) _).setCell (p := ⟨w.heap.size, 1, none⟩) (Nat.le_refl _) _
      have hinfo : (Tryd.prog.info? 108).map (·.size) = some (#[Value.int .u32 (x0 : Int), .int .u32 (x1 : Int)] : Array Value).size := info_pair
      have hlv := run_loadVar_row (P := Tryd.prog) _ w.heap.size 108 108 _ (0, 0) _ r2 Tryd.underlying108 rfl hinfo
      have s0 := store_two r0 (.int .u32 (x0 : Int)) (by rfl)
      have HLV := Lib.hid hlv
      have HB3 := Lib.hid b3
      clear hlv hinfo r2 r1 r0 b3 b1 z1 hr1 G0 G1 hpa
      go_wp2
      refine bodyPost_ret (results_in (g := w.heap.size) Tryd.results89 rfl HLV.out) rfl ?_
      exact ⟨rfl, HB3.out⟩
end Go.Proofs.YtjdjpafnakhpcaaDoor.U
