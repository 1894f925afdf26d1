/-
  super: what may be, the block.
  Conditions: each theorem's own.
-/
import Derived.Test.YtplbgjjacomceaaGreatDoorQa
import Derived.Handy
import Derived.Deep.WholeRow
import Derived.Deep.RegionHeld3
import Derived.BigRegion
import Derived.Deep.RegionWith
import Derived.Laws.Bits128
import Derived.Below
import Derived.Laws.OwnMore
import Derived.Laws.IdiomCopy
import Derived.Laws.CopyOwn
import Derived.Shelf.Spec.SlicesInsert
import Derived.Lib.LazyBuf
namespace Go.Proofs.YtplbgjjacomceaaGreatDoor.S
open Go.RowKit

/-- What a disk says of the array. -/
structure Sup where
  gen : Int
  mem : Int
  disk : Int
  str : Int
  logs : Int
  spare : Int
  mark : Int
  cur : Int
def Sup.cells (s : Sup) : Array Value := #[.int .i64 s.gen, .int .i64 s.mem, .int .i64 s.disk, .int .i64 s.str, .int .i64 s.logs, .int .i64 s.spare, .int .i64 s.mark, .int .i64 s.cur]
def Sup.val (s : Sup) : Value := .agg s.cells
def Sup.most (s : Sup) : Int := if s.spare = -1 then 0 else s.str
/-- All numbers are int's. -/
def Sup.fits (s : Sup) : Prop := ∀ x ∈ [s.gen, s.mem, s.disk, s.str, s.logs, s.spare, s.mark, s.cur], -9223372036854775808 ≤ x ∧ x ≤ 9223372036854775807
def Sup.right (s : Sup) : Bool :=
  decide (1 ≤ s.gen ∧ s.gen ≤ 4611686018427387904) && decide (3 ≤ s.mem ∧ s.mem ≤ 16) && decide (0 ≤ s.disk ∧ s.disk ≤ s.mem) && decide (1 ≤ s.str ∧ s.str ≤ 1024) &&
  decide (1 ≤ s.logs ∧ s.logs ≤ 8) && decide (-1 ≤ s.spare ∧ s.spare ≤ s.mem - 1) && decide (0 ≤ s.mark ∧ s.mark ≤ s.most) && decide (0 ≤ s.cur ∧ s.cur ≤ s.str - 1)

theorem within_any (x l m : Int) (w : World) :
    Calls Tryz.prog 116 #[.int .i64 x, .int .i64 l, .int .i64 m] w fun e w' => e = .returned (.bool (decide (l ≤ x ∧ x ≤ m))) ∧ w = w' := by
  by_cases h1 : l ≤ x
  · by_cases h2 : x ≤ m
    · have hc : decide (l ≤ x ∧ x ≤ m) = true := decide_eq_true ⟨h1, h2⟩
      rw [hc]
      clear hc
      have d1 : decide (x ≥ l) = true := decide_eq_true h1
      have d2 : decide (x ≤ m) = true := decide_eq_true h2
      go_enter Tryz.func116, Tryz.ntmps116
      go_wp2
      go_ret
      exact ⟨rfl, rfl⟩
    · have hc : decide (l ≤ x ∧ x ≤ m) = false := decide_eq_false (fun h => h2 h.2)
      rw [hc]
      clear hc
      have d1 : decide (x ≥ l) = true := decide_eq_true h1
      have d2 : decide (x ≤ m) = false := decide_eq_false h2
      go_enter Tryz.func116, Tryz.ntmps116
      go_wp2
      go_ret
      exact ⟨rfl, rfl⟩
  · have hc : decide (l ≤ x ∧ x ≤ m) = false := decide_eq_false (fun h => h1 h.1)
    rw [hc]
    clear hc
    have d1 : decide (x ≥ l) = false := decide_eq_false h1
    go_enter Tryz.func116, Tryz.ntmps116
    go_wp2
    go_ret
    exact ⟨rfl, rfl⟩
theorem within_yes (x l m : Int) (h : l ≤ x ∧ x ≤ m) (w : World) :
    Calls Tryz.prog 116 #[.int .i64 x, .int .i64 l, .int .i64 m] w fun e w' => e = .returned (.bool true) ∧ w = w' := by
  have := within_any x l m w
  rwa [decide_eq_true h] at this
theorem within_not (x l m : Int) (h : ¬ (l ≤ x ∧ x ≤ m)) (w : World) :
    Calls Tryz.prog 116 #[.int .i64 x, .int .i64 l, .int .i64 m] w fun e w' => e = .returned (.bool false) ∧ w = w' := by
  have := within_any x l m w
  rwa [decide_eq_false h] at this
theorem mostMark_any (s : Sup) (w : World) :
    Calls Tryz.prog 117 #[s.val] w fun e w' => e = .returned (.int .i64 s.most) ∧ Below w.heap.size w w' := by
  obtain ⟨x0, x1, x2, x3, x4, x5, x6, x7⟩ := s
  by_cases h : x5 = -1
  · subst h
    go_enter Tryz.func117, Tryz.ntmps117
    simp only [Sup.val, Sup.cells]
    go_wp2
    go_ret
    exact ⟨rfl, (Below.refl _ _).alloc (Nat.le_refl _) _⟩
  · have hc : Hid (Sup.most ⟨x0, x1, x2, x3, x4, x5, x6, x7⟩ = x3) := Lib.hid (if_neg h)
    have hd : (x5 == -1) = false := beq_eq_false_iff_ne.2 h
    go_enter Tryz.func117, Tryz.ntmps117
    simp only [Sup.val, Sup.cells]
    go_wp2
    go_ret
    exact ⟨by rw [hc.out]; rfl, (Below.refl _ _).alloc (Nat.le_refl _) _⟩

/-- A block of eight cells, read. -/
theorem row8 {W : World} {g : Nat} {s : Sup} {e : TypeId} (h : W.heap[g]? = some (.cells s.cells e)) :
    W.cell? ⟨g, 0, none⟩ = some (.int .i64 s.gen) ∧ W.cell? ⟨g, 1, none⟩ = some (.int .i64 s.mem) ∧ W.cell? ⟨g, 2, none⟩ = some (.int .i64 s.disk) ∧ W.cell? ⟨g, 3, none⟩ = some (.int .i64 s.str) ∧
    W.cell? ⟨g, 4, none⟩ = some (.int .i64 s.logs) ∧ W.cell? ⟨g, 5, none⟩ = some (.int .i64 s.spare) ∧ W.cell? ⟨g, 6, none⟩ = some (.int .i64 s.mark) ∧ W.cell? ⟨g, 7, none⟩ = some (.int .i64 s.cur) :=
  ⟨cell_of_row _ _ 0 _ _ _ h, cell_of_row _ _ 1 _ _ _ h, cell_of_row _ _ 2 _ _ _ h, cell_of_row _ _ 3 _ _ _ h, cell_of_row _ _ 4 _ _ _ h, cell_of_row _ _ 5 _ _ _ h, cell_of_row _ _ 6 _ _ _ h, cell_of_row _ _ 7 _ _ _ h⟩
end Go.Proofs.YtplbgjjacomceaaGreatDoor.S
namespace Go.Proofs.YtplbgjjacomceaaGreatDoor.S
open Go.RowKit

def zcB : Array Value := (List.replicate 128 (Value.int .u8 0)).toArray
theorem zcB_size : zcB.size = 128 := by simp [zcB]
theorem zcB_ne : zcB ≠ #[] := fun h => by have := congrArg Array.size h; rw [zcB_size] at this; exact absurd this (by decide)
theorem zero_block : ∀ w, (zeroValue 120).run Tryz.prog w = .ok (.agg zcB) w := fun w => by kernel_rfl
theorem zero_bytes : ∀ w, (zeroValue 118).run Tryz.prog w = .ok (.agg zcB) w := fun w => by kernel_rfl
end Go.Proofs.YtplbgjjacomceaaGreatDoor.S
namespace Go.Proofs.YtplbgjjacomceaaGreatDoor.S
open Go.RowKit

set_option maxRecDepth 100000 in
set_option maxHeartbeats 4000000 in
theorem right_yes (s : Sup) (w : World) (h1 : (1 ≤ s.gen ∧ s.gen ≤ 4611686018427387904)) (h2 : (3 ≤ s.mem ∧ s.mem ≤ 16)) (h3 : (0 ≤ s.disk ∧ s.disk ≤ s.mem)) (h4 : (1 ≤ s.str ∧ s.str ≤ 1024)) (h5 : (1 ≤ s.logs ∧ s.logs ≤ 8)) (h6 : (-1 ≤ s.spare ∧ s.spare ≤ s.mem - 1)) (h7 : (0 ≤ s.mark ∧ s.mark ≤ s.most)) (h8 : (0 ≤ s.cur ∧ s.cur ≤ s.str - 1)) :
    Calls Tryz.prog 73 #[s.val] w fun e w' => e = .returned (.bool true) ∧ Below w.heap.size w w' := by
  have hm := Lib.hid (fun w => mostMark_any s w)
  have Q := Lib.hid within_yes
  have w1 : IntKind.i64.wrap (s.mem - 1) = s.mem - 1 := by rw [IntKind.wrap_i64]; omega
  have w2 : IntKind.i64.wrap (s.str - 1) = s.str - 1 := by rw [IntKind.wrap_i64]; omega
  have hblk := heap_alloc_last w (.cells s.cells 65)
  obtain ⟨c0, c1, c2, c3, c4, c5, c6, c7⟩ := row8 hblk
  clear hblk
  obtain ⟨x0, x1, x2, x3, x4, x5, x6, x7⟩ := s
  simp only [Sup.val, Sup.cells] at *
  go_enter Tryz.func73, Tryz.ntmps73
  have hbW : Below w.heap.size w (w.alloc (.cells #[.int .i64 x0, .int .i64 x1, .int .i64 x2, .int .i64 x3, .int .i64 x4, .int .i64 x5, .int .i64 x6, .int .i64 x7] 65)) := (Below.refl _ _).alloc (Nat.le_refl _) _
  have hgW : w.heap.size < (w.alloc (.cells #[.int .i64 x0, .int .i64 x1, .int .i64 x2, .int .i64 x3, .int .i64 x4, .int .i64 x5, .int .i64 x6, .int .i64 x7] 65)).heap.size := by simp
  generalize Sup.most ⟨x0, x1, x2, x3, x4, x5, x6, x7⟩ = mm at *
  go_wp2_with fail
  generalize w.alloc (.cells #[.int .i64 x0, .int .i64 x1, .int .i64 x2, .int .i64 x3, .int .i64 x4, .int .i64 x5, .int .i64 x6, .int .i64 x7] 65) = W at *
  generalize hgs : w.heap.size = g at *
  have Hgs := Lib.hid hgs
  clear hgs
  have HM := Lib.hid (fun (W' : World) (h : W'.cell? ⟨g, 0, none⟩ = some (.int .i64 x0) ∧ W'.cell? ⟨g, 1, none⟩ = some (.int .i64 x1) ∧ W'.cell? ⟨g, 2, none⟩ = some (.int .i64 x2) ∧ W'.cell? ⟨g, 3, none⟩ = some (.int .i64 x3) ∧ W'.cell? ⟨g, 4, none⟩ = some (.int .i64 x4) ∧ W'.cell? ⟨g, 5, none⟩ = some (.int .i64 x5) ∧ W'.cell? ⟨g, 6, none⟩ = some (.int .i64 x6) ∧ W'.cell? ⟨g, 7, none⟩ = some (.int .i64 x7) ∧ g < W'.heap.size ∧ Below g w W') => (show Calls Tryz.prog 117 #[.agg #[.int .i64 x0, .int .i64 x1, .int .i64 x2, .int .i64 x3, .int .i64 x4, .int .i64 x5, .int .i64 x6, .int .i64 x7]] W' fun e W'' => e = .returned (.int .i64 mm) ∧ W''.cell? ⟨g, 0, none⟩ = some (.int .i64 x0) ∧ W''.cell? ⟨g, 1, none⟩ = some (.int .i64 x1) ∧ W''.cell? ⟨g, 2, none⟩ = some (.int .i64 x2) ∧ W''.cell? ⟨g, 3, none⟩ = some (.int .i64 x3) ∧ W''.cell? ⟨g, 4, none⟩ = some (.int .i64 x4) ∧ W''.cell? ⟨g, 5, none⟩ = some (.int .i64 x5) ∧ W''.cell? ⟨g, 6, none⟩ = some (.int .i64 x6) ∧ W''.cell? ⟨g, 7, none⟩ = some (.int .i64 x7) ∧ g < W''.heap.size ∧ Below g w W'' by
    refine (hm.out W').mono fun e W'' ⟨he, hb⟩ => ⟨he, ?_⟩
    obtain ⟨k0, k1, k2, k3, k4, k5, k6, k7, kg, kb⟩ := h
    have hk : ∀ i, W''.cell? ⟨g, i, none⟩ = W'.cell? ⟨g, i, none⟩ := fun i => hb.cell (p := ⟨g, i, none⟩) kg
    exact ⟨(hk _).trans k0, (hk _).trans k1, (hk _).trans k2, (hk _).trans k3, (hk _).trans k4, (hk _).trans k5, (hk _).trans k6, (hk _).trans k7, Nat.lt_of_lt_of_le kg hb.size, kb.trans (hb.mono (Nat.le_of_lt kg))⟩))
  clear hm
  have hbD := hbW.drew
  go_region_held3 (fun W' => W'.cell? ⟨g, 0, none⟩ = some (.int .i64 x0) ∧ W'.cell? ⟨g, 1, none⟩ = some (.int .i64 x1) ∧ W'.cell? ⟨g, 2, none⟩ = some (.int .i64 x2) ∧ W'.cell? ⟨g, 3, none⟩ = some (.int .i64 x3) ∧ W'.cell? ⟨g, 4, none⟩ = some (.int .i64 x4) ∧ W'.cell? ⟨g, 5, none⟩ = some (.int .i64 x5) ∧ W'.cell? ⟨g, 6, none⟩ = some (.int .i64 x6) ∧ W'.cell? ⟨g, 7, none⟩ = some (.int .i64 x7) ∧ g < W'.heap.size ∧ Below g w W') (go_keep)
    (first
      | (go_at_call 116; refine (Q.out _ _ _ (by assumption) _).mono ?_; rintro e w' ⟨rfl, rfl⟩)
      | (go_at_call 117; refine (HM.out _ (by simp [*])).mono ?_; rintro e W2 ⟨rfl, k0, k1, k2, k3, k4, k5, k6, k7, kg, kb⟩))
  all_goals
    go_wp2
    go_ret
    exact ⟨rfl, by rw [Hgs.out]; assumption⟩
end Go.Proofs.YtplbgjjacomceaaGreatDoor.S
namespace Go.Proofs.YtplbgjjacomceaaGreatDoor.S
open Go.RowKit

set_option maxRecDepth 100000 in
set_option maxHeartbeats 4000000 in
theorem right_no1 (s : Sup) (w : World) (h1 : ¬ (1 ≤ s.gen ∧ s.gen ≤ 4611686018427387904)) :
    Calls Tryz.prog 73 #[s.val] w fun e w' => e = .returned (.bool false) ∧ Below w.heap.size w w' := by
  have QF := Lib.hid within_not
  have hblk := heap_alloc_last w (.cells s.cells 65)
  obtain ⟨c0, c1, c2, c3, c4, c5, c6, c7⟩ := row8 hblk
  clear hblk
  obtain ⟨x0, x1, x2, x3, x4, x5, x6, x7⟩ := s
  simp only [Sup.val, Sup.cells] at *
  go_enter Tryz.func73, Tryz.ntmps73
  have hbW : Below w.heap.size w (w.alloc (.cells #[.int .i64 x0, .int .i64 x1, .int .i64 x2, .int .i64 x3, .int .i64 x4, .int .i64 x5, .int .i64 x6, .int .i64 x7] 65)) := (Below.refl _ _).alloc (Nat.le_refl _) _
  have hgW : w.heap.size < (w.alloc (.cells #[.int .i64 x0, .int .i64 x1, .int .i64 x2, .int .i64 x3, .int .i64 x4, .int .i64 x5, .int .i64 x6, .int .i64 x7] 65)).heap.size := by simp
  go_wp2_with fail
  generalize w.alloc (.cells #[.int .i64 x0, .int .i64 x1, .int .i64 x2, .int .i64 x3, .int .i64 x4, .int .i64 x5, .int .i64 x6, .int .i64 x7] 65) = W at *
  generalize hgs : w.heap.size = g at *
  have Hgs := Lib.hid hgs
  clear hgs
  go_quiet ((first | (go_at_call 116; refine (QF.out _ _ _ (by assumption) _).mono ?_; rintro e w' ⟨rfl, rfl⟩; exact ⟨rfl, _, rfl⟩)))
  go_wp2
  go_ret
  exact ⟨rfl, by rw [Hgs.out]; exact hbW.trans ⟨rfl, rfl, rfl, Nat.le_refl _, fun _ _ => rfl⟩⟩

set_option maxRecDepth 100000 in
set_option maxHeartbeats 4000000 in
theorem right_no2 (s : Sup) (w : World) (h1 : (1 ≤ s.gen ∧ s.gen ≤ 4611686018427387904)) (h2 : ¬ (3 ≤ s.mem ∧ s.mem ≤ 16)) :
    Calls Tryz.prog 73 #[s.val] w fun e w' => e = .returned (.bool false) ∧ Below w.heap.size w w' := by
  have Q := Lib.hid within_yes
  have QF := Lib.hid within_not
  have hblk := heap_alloc_last w (.cells s.cells 65)
  obtain ⟨c0, c1, c2, c3, c4, c5, c6, c7⟩ := row8 hblk
  clear hblk
  obtain ⟨x0, x1, x2, x3, x4, x5, x6, x7⟩ := s
  simp only [Sup.val, Sup.cells] at *
  go_enter Tryz.func73, Tryz.ntmps73
  have hbW : Below w.heap.size w (w.alloc (.cells #[.int .i64 x0, .int .i64 x1, .int .i64 x2, .int .i64 x3, .int .i64 x4, .int .i64 x5, .int .i64 x6, .int .i64 x7] 65)) := (Below.refl _ _).alloc (Nat.le_refl _) _
  have hgW : w.heap.size < (w.alloc (.cells #[.int .i64 x0, .int .i64 x1, .int .i64 x2, .int .i64 x3, .int .i64 x4, .int .i64 x5, .int .i64 x6, .int .i64 x7] 65)).heap.size := by simp
  go_wp2_with fail
  generalize w.alloc (.cells #[.int .i64 x0, .int .i64 x1, .int .i64 x2, .int .i64 x3, .int .i64 x4, .int .i64 x5, .int .i64 x6, .int .i64 x7] 65) = W at *
  generalize hgs : w.heap.size = g at *
  have Hgs := Lib.hid hgs
  clear hgs
  go_quiet ((first | (go_at_call 116; refine (Q.out _ _ _ (by assumption) _).mono ?_; rintro e w' ⟨rfl, rfl⟩; exact ⟨rfl, _, rfl⟩) | (go_at_call 116; refine (QF.out _ _ _ (by assumption) _).mono ?_; rintro e w' ⟨rfl, rfl⟩; exact ⟨rfl, _, rfl⟩)))
  go_wp2
  go_ret
  exact ⟨rfl, by rw [Hgs.out]; exact hbW.trans ⟨rfl, rfl, rfl, Nat.le_refl _, fun _ _ => rfl⟩⟩

set_option maxRecDepth 100000 in
set_option maxHeartbeats 4000000 in
theorem right_no3 (s : Sup) (w : World) (h1 : (1 ≤ s.gen ∧ s.gen ≤ 4611686018427387904)) (h2 : (3 ≤ s.mem ∧ s.mem ≤ 16)) (h3 : ¬ (0 ≤ s.disk ∧ s.disk ≤ s.mem)) :
    Calls Tryz.prog 73 #[s.val] w fun e w' => e = .returned (.bool false) ∧ Below w.heap.size w w' := by
  have Q := Lib.hid within_yes
  have QF := Lib.hid within_not
  have hblk := heap_alloc_last w (.cells s.cells 65)
  obtain ⟨c0, c1, c2, c3, c4, c5, c6, c7⟩ := row8 hblk
  clear hblk
  obtain ⟨x0, x1, x2, x3, x4, x5, x6, x7⟩ := s
  simp only [Sup.val, Sup.cells] at *
  go_enter Tryz.func73, Tryz.ntmps73
  have hbW : Below w.heap.size w (w.alloc (.cells #[.int .i64 x0, .int .i64 x1, .int .i64 x2, .int .i64 x3, .int .i64 x4, .int .i64 x5, .int .i64 x6, .int .i64 x7] 65)) := (Below.refl _ _).alloc (Nat.le_refl _) _
  have hgW : w.heap.size < (w.alloc (.cells #[.int .i64 x0, .int .i64 x1, .int .i64 x2, .int .i64 x3, .int .i64 x4, .int .i64 x5, .int .i64 x6, .int .i64 x7] 65)).heap.size := by simp
  go_wp2_with fail
  generalize w.alloc (.cells #[.int .i64 x0, .int .i64 x1, .int .i64 x2, .int .i64 x3, .int .i64 x4, .int .i64 x5, .int .i64 x6, .int .i64 x7] 65) = W at *
  generalize hgs : w.heap.size = g at *
  have Hgs := Lib.hid hgs
  clear hgs
  go_quiet ((first | (go_at_call 116; refine (Q.out _ _ _ (by assumption) _).mono ?_; rintro e w' ⟨rfl, rfl⟩; exact ⟨rfl, _, rfl⟩) | (go_at_call 116; refine (QF.out _ _ _ (by assumption) _).mono ?_; rintro e w' ⟨rfl, rfl⟩; exact ⟨rfl, _, rfl⟩)))
  go_wp2
  go_ret
  exact ⟨rfl, by rw [Hgs.out]; exact hbW.trans ⟨rfl, rfl, rfl, Nat.le_refl _, fun _ _ => rfl⟩⟩

set_option maxRecDepth 100000 in
set_option maxHeartbeats 4000000 in
theorem right_no4 (s : Sup) (w : World) (h1 : (1 ≤ s.gen ∧ s.gen ≤ 4611686018427387904)) (h2 : (3 ≤ s.mem ∧ s.mem ≤ 16)) (h3 : (0 ≤ s.disk ∧ s.disk ≤ s.mem)) (h4 : ¬ (1 ≤ s.str ∧ s.str ≤ 1024)) :
    Calls Tryz.prog 73 #[s.val] w fun e w' => e = .returned (.bool false) ∧ Below w.heap.size w w' := by
  have Q := Lib.hid within_yes
  have QF := Lib.hid within_not
  have hblk := heap_alloc_last w (.cells s.cells 65)
  obtain ⟨c0, c1, c2, c3, c4, c5, c6, c7⟩ := row8 hblk
  clear hblk
  obtain ⟨x0, x1, x2, x3, x4, x5, x6, x7⟩ := s
  simp only [Sup.val, Sup.cells] at *
  go_enter Tryz.func73, Tryz.ntmps73
  have hbW : Below w.heap.size w (w.alloc (.cells #[.int .i64 x0, .int .i64 x1, .int .i64 x2, .int .i64 x3, .int .i64 x4, .int .i64 x5, .int .i64 x6, .int .i64 x7] 65)) := (Below.refl _ _).alloc (Nat.le_refl _) _
  have hgW : w.heap.size < (w.alloc (.cells #[.int .i64 x0, .int .i64 x1, .int .i64 x2, .int .i64 x3, .int .i64 x4, .int .i64 x5, .int .i64 x6, .int .i64 x7] 65)).heap.size := by simp
  go_wp2_with fail
  generalize w.alloc (.cells #[.int .i64 x0, .int .i64 x1, .int .i64 x2, .int .i64 x3, .int .i64 x4, .int .i64 x5, .int .i64 x6, .int .i64 x7] 65) = W at *
  generalize hgs : w.heap.size = g at *
  have Hgs := Lib.hid hgs
  clear hgs
  go_quiet ((first | (go_at_call 116; refine (Q.out _ _ _ (by assumption) _).mono ?_; rintro e w' ⟨rfl, rfl⟩; exact ⟨rfl, _, rfl⟩) | (go_at_call 116; refine (QF.out _ _ _ (by assumption) _).mono ?_; rintro e w' ⟨rfl, rfl⟩; exact ⟨rfl, _, rfl⟩)))
  go_wp2
  go_ret
  exact ⟨rfl, by rw [Hgs.out]; exact hbW.trans ⟨rfl, rfl, rfl, Nat.le_refl _, fun _ _ => rfl⟩⟩

set_option maxRecDepth 100000 in
set_option maxHeartbeats 4000000 in
theorem right_no5 (s : Sup) (w : World) (h1 : (1 ≤ s.gen ∧ s.gen ≤ 4611686018427387904)) (h2 : (3 ≤ s.mem ∧ s.mem ≤ 16)) (h3 : (0 ≤ s.disk ∧ s.disk ≤ s.mem)) (h4 : (1 ≤ s.str ∧ s.str ≤ 1024)) (h5 : ¬ (1 ≤ s.logs ∧ s.logs ≤ 8)) :
    Calls Tryz.prog 73 #[s.val] w fun e w' => e = .returned (.bool false) ∧ Below w.heap.size w w' := by
  have Q := Lib.hid within_yes
  have QF := Lib.hid within_not
  have hblk := heap_alloc_last w (.cells s.cells 65)
  obtain ⟨c0, c1, c2, c3, c4, c5, c6, c7⟩ := row8 hblk
  clear hblk
  obtain ⟨x0, x1, x2, x3, x4, x5, x6, x7⟩ := s
  simp only [Sup.val, Sup.cells] at *
  go_enter Tryz.func73, Tryz.ntmps73
  have hbW : Below w.heap.size w (w.alloc (.cells #[.int .i64 x0, .int .i64 x1, .int .i64 x2, .int .i64 x3, .int .i64 x4, .int .i64 x5, .int .i64 x6, .int .i64 x7] 65)) := (Below.refl _ _).alloc (Nat.le_refl _) _
  have hgW : w.heap.size < (w.alloc (.cells #[.int .i64 x0, .int .i64 x1, .int .i64 x2, .int .i64 x3, .int .i64 x4, .int .i64 x5, .int .i64 x6, .int .i64 x7] 65)).heap.size := by simp
  go_wp2_with fail
  generalize w.alloc (.cells #[.int .i64 x0, .int .i64 x1, .int .i64 x2, .int .i64 x3, .int .i64 x4, .int .i64 x5, .int .i64 x6, .int .i64 x7] 65) = W at *
  generalize hgs : w.heap.size = g at *
  have Hgs := Lib.hid hgs
  clear hgs
  go_quiet ((first | (go_at_call 116; refine (Q.out _ _ _ (by assumption) _).mono ?_; rintro e w' ⟨rfl, rfl⟩; exact ⟨rfl, _, rfl⟩) | (go_at_call 116; refine (QF.out _ _ _ (by assumption) _).mono ?_; rintro e w' ⟨rfl, rfl⟩; exact ⟨rfl, _, rfl⟩)))
  go_wp2
  go_ret
  exact ⟨rfl, by rw [Hgs.out]; exact hbW.trans ⟨rfl, rfl, rfl, Nat.le_refl _, fun _ _ => rfl⟩⟩

set_option maxRecDepth 100000 in
set_option maxHeartbeats 4000000 in
theorem right_no6 (s : Sup) (w : World) (h1 : (1 ≤ s.gen ∧ s.gen ≤ 4611686018427387904)) (h2 : (3 ≤ s.mem ∧ s.mem ≤ 16)) (h3 : (0 ≤ s.disk ∧ s.disk ≤ s.mem)) (h4 : (1 ≤ s.str ∧ s.str ≤ 1024)) (h5 : (1 ≤ s.logs ∧ s.logs ≤ 8)) (h6 : ¬ (-1 ≤ s.spare ∧ s.spare ≤ s.mem - 1)) :
    Calls Tryz.prog 73 #[s.val] w fun e w' => e = .returned (.bool false) ∧ Below w.heap.size w w' := by
  have Q := Lib.hid within_yes
  have QF := Lib.hid within_not
  have w1 : IntKind.i64.wrap (s.mem - 1) = s.mem - 1 := by rw [IntKind.wrap_i64]; omega
  have hblk := heap_alloc_last w (.cells s.cells 65)
  obtain ⟨c0, c1, c2, c3, c4, c5, c6, c7⟩ := row8 hblk
  clear hblk
  obtain ⟨x0, x1, x2, x3, x4, x5, x6, x7⟩ := s
  simp only [Sup.val, Sup.cells] at *
  go_enter Tryz.func73, Tryz.ntmps73
  have hbW : Below w.heap.size w (w.alloc (.cells #[.int .i64 x0, .int .i64 x1, .int .i64 x2, .int .i64 x3, .int .i64 x4, .int .i64 x5, .int .i64 x6, .int .i64 x7] 65)) := (Below.refl _ _).alloc (Nat.le_refl _) _
  have hgW : w.heap.size < (w.alloc (.cells #[.int .i64 x0, .int .i64 x1, .int .i64 x2, .int .i64 x3, .int .i64 x4, .int .i64 x5, .int .i64 x6, .int .i64 x7] 65)).heap.size := by simp
  go_wp2_with fail
  generalize w.alloc (.cells #[.int .i64 x0, .int .i64 x1, .int .i64 x2, .int .i64 x3, .int .i64 x4, .int .i64 x5, .int .i64 x6, .int .i64 x7] 65) = W at *
  generalize hgs : w.heap.size = g at *
  have Hgs := Lib.hid hgs
  clear hgs
  go_quiet ((first | (go_at_call 116; refine (Q.out _ _ _ (by assumption) _).mono ?_; rintro e w' ⟨rfl, rfl⟩; exact ⟨rfl, _, rfl⟩) | (go_at_call 116; refine (QF.out _ _ _ (by assumption) _).mono ?_; rintro e w' ⟨rfl, rfl⟩; exact ⟨rfl, _, rfl⟩)))
  go_wp2
  go_ret
  exact ⟨rfl, by rw [Hgs.out]; exact hbW.trans ⟨rfl, rfl, rfl, Nat.le_refl _, fun _ _ => rfl⟩⟩
end Go.Proofs.YtplbgjjacomceaaGreatDoor.S
namespace Go.Proofs.YtplbgjjacomceaaGreatDoor.S
open Go.RowKit

set_option maxRecDepth 100000 in
set_option maxHeartbeats 4000000 in
theorem right_no8 (s : Sup) (w : World) (h1 : (1 ≤ s.gen ∧ s.gen ≤ 4611686018427387904)) (h2 : (3 ≤ s.mem ∧ s.mem ≤ 16)) (h3 : (0 ≤ s.disk ∧ s.disk ≤ s.mem)) (h4 : (1 ≤ s.str ∧ s.str ≤ 1024)) (h5 : (1 ≤ s.logs ∧ s.logs ≤ 8)) (h6 : (-1 ≤ s.spare ∧ s.spare ≤ s.mem - 1)) (h7 : (0 ≤ s.mark ∧ s.mark ≤ s.most)) (h8 : ¬ (0 ≤ s.cur ∧ s.cur ≤ s.str - 1)) :
    Calls Tryz.prog 73 #[s.val] w fun e w' => e = .returned (.bool false) ∧ Below w.heap.size w w' := by
  have hm := Lib.hid (fun w => mostMark_any s w)
  have Q := Lib.hid within_yes
  have QF := Lib.hid within_not
  have w1 : IntKind.i64.wrap (s.mem - 1) = s.mem - 1 := by rw [IntKind.wrap_i64]; omega
  have w2 : IntKind.i64.wrap (s.str - 1) = s.str - 1 := by rw [IntKind.wrap_i64]; omega
  have hblk := heap_alloc_last w (.cells s.cells 65)
  obtain ⟨c0, c1, c2, c3, c4, c5, c6, c7⟩ := row8 hblk
  clear hblk
  obtain ⟨x0, x1, x2, x3, x4, x5, x6, x7⟩ := s
  simp only [Sup.val, Sup.cells] at *
  go_enter Tryz.func73, Tryz.ntmps73
  have hbW : Below w.heap.size w (w.alloc (.cells #[.int .i64 x0, .int .i64 x1, .int .i64 x2, .int .i64 x3, .int .i64 x4, .int .i64 x5, .int .i64 x6, .int .i64 x7] 65)) := (Below.refl _ _).alloc (Nat.le_refl _) _
  have hgW : w.heap.size < (w.alloc (.cells #[.int .i64 x0, .int .i64 x1, .int .i64 x2, .int .i64 x3, .int .i64 x4, .int .i64 x5, .int .i64 x6, .int .i64 x7] 65)).heap.size := by simp
  generalize Sup.most ⟨x0, x1, x2, x3, x4, x5, x6, x7⟩ = mm at *
  go_wp2_with fail
  generalize w.alloc (.cells #[.int .i64 x0, .int .i64 x1, .int .i64 x2, .int .i64 x3, .int .i64 x4, .int .i64 x5, .int .i64 x6, .int .i64 x7] 65) = W at *
  generalize hgs : w.heap.size = g at *
  have Hgs := Lib.hid hgs
  clear hgs
  have HM := Lib.hid (fun (W' : World) (h : W'.cell? ⟨g, 0, none⟩ = some (.int .i64 x0) ∧ W'.cell? ⟨g, 1, none⟩ = some (.int .i64 x1) ∧ W'.cell? ⟨g, 2, none⟩ = some (.int .i64 x2) ∧ W'.cell? ⟨g, 3, none⟩ = some (.int .i64 x3) ∧ W'.cell? ⟨g, 4, none⟩ = some (.int .i64 x4) ∧ W'.cell? ⟨g, 5, none⟩ = some (.int .i64 x5) ∧ W'.cell? ⟨g, 6, none⟩ = some (.int .i64 x6) ∧ W'.cell? ⟨g, 7, none⟩ = some (.int .i64 x7) ∧ g < W'.heap.size ∧ Below g w W') => (show Calls Tryz.prog 117 #[.agg #[.int .i64 x0, .int .i64 x1, .int .i64 x2, .int .i64 x3, .int .i64 x4, .int .i64 x5, .int .i64 x6, .int .i64 x7]] W' fun e W'' => e = .returned (.int .i64 mm) ∧ W''.cell? ⟨g, 0, none⟩ = some (.int .i64 x0) ∧ W''.cell? ⟨g, 1, none⟩ = some (.int .i64 x1) ∧ W''.cell? ⟨g, 2, none⟩ = some (.int .i64 x2) ∧ W''.cell? ⟨g, 3, none⟩ = some (.int .i64 x3) ∧ W''.cell? ⟨g, 4, none⟩ = some (.int .i64 x4) ∧ W''.cell? ⟨g, 5, none⟩ = some (.int .i64 x5) ∧ W''.cell? ⟨g, 6, none⟩ = some (.int .i64 x6) ∧ W''.cell? ⟨g, 7, none⟩ = some (.int .i64 x7) ∧ g < W''.heap.size ∧ Below g w W'' by
    refine (hm.out W').mono fun e W'' ⟨he, hb⟩ => ⟨he, ?_⟩
    obtain ⟨k0, k1, k2, k3, k4, k5, k6, k7, kg, kb⟩ := h
    have hk : ∀ i, W''.cell? ⟨g, i, none⟩ = W'.cell? ⟨g, i, none⟩ := fun i => hb.cell (p := ⟨g, i, none⟩) kg
    exact ⟨(hk _).trans k0, (hk _).trans k1, (hk _).trans k2, (hk _).trans k3, (hk _).trans k4, (hk _).trans k5, (hk _).trans k6, (hk _).trans k7, Nat.lt_of_lt_of_le kg hb.size, kb.trans (hb.mono (Nat.le_of_lt kg))⟩))
  clear hm
  have hbD := hbW.drew
  go_region_held3 (fun W' => W'.cell? ⟨g, 0, none⟩ = some (.int .i64 x0) ∧ W'.cell? ⟨g, 1, none⟩ = some (.int .i64 x1) ∧ W'.cell? ⟨g, 2, none⟩ = some (.int .i64 x2) ∧ W'.cell? ⟨g, 3, none⟩ = some (.int .i64 x3) ∧ W'.cell? ⟨g, 4, none⟩ = some (.int .i64 x4) ∧ W'.cell? ⟨g, 5, none⟩ = some (.int .i64 x5) ∧ W'.cell? ⟨g, 6, none⟩ = some (.int .i64 x6) ∧ W'.cell? ⟨g, 7, none⟩ = some (.int .i64 x7) ∧ g < W'.heap.size ∧ Below g w W') (go_keep)
    (first
      | (go_at_call 116; refine (Q.out _ _ _ (by assumption) _).mono ?_; rintro e w' ⟨rfl, rfl⟩)
      | (go_at_call 116; refine (QF.out _ _ _ (by assumption) _).mono ?_; rintro e w' ⟨rfl, rfl⟩)
      | (go_at_call 117; refine (HM.out _ (by simp [*])).mono ?_; rintro e W2 ⟨rfl, k0, k1, k2, k3, k4, k5, k6, k7, kg, kb⟩))
  all_goals
    go_wp2
    go_ret
    exact ⟨rfl, by rw [Hgs.out]; assumption⟩
end Go.Proofs.YtplbgjjacomceaaGreatDoor.S
namespace Go.Proofs.YtplbgjjacomceaaGreatDoor.S
open Go.RowKit

theorem i64_and1 (n : Int) : bits .and .i64 n 1 = n % 2 := by
  have h1 : (BitVec.ofInt 64 1).toNat = 2 ^ 1 - 1 := by decide
  have key : (BitVec.ofInt 64 n &&& BitVec.ofInt 64 1).toNat = (n % ((2 ^ 64 : Nat) : Int)).toNat % 2 ^ 1 := by
    rw [BitVec.toNat_and, BitVec.toNat_ofInt, h1, Nat.and_two_pow_sub_one_eq_mod]
  show IntKind.i64.wrap ((BitVec.ofInt 64 n &&& BitVec.ofInt 64 1).toNat : Nat) = n % 2
  rw [key, IntKind.wrap_i64]
  omega
theorem slot_any (n : Int) (w : World) (_ : -9223372036854775808 ≤ n) (_ : n ≤ 9223372036854775807) :
    Calls Tryz.prog 34 #[.int .i64 n] w fun e w' => e = .returned (.int .i64 (n % 2)) ∧ w = w' := by
  have h := i64_and1 n
  go_enter Tryz.func34, Tryz.ntmps34
  go_wp2
  go_ret
  exact ⟨rfl, rfl⟩

/-- What stands in a slice of what disks say, nil let in. -/
def SupsAre (w : World) (L : Nat) (A : Option Addr) (n : Nat) (ss : List Sup) : Prop :=
  ss.length = n ∧ (0 < n → ∃ b off, A = some ⟨b, off, none⟩ ∧ b < L ∧ ∀ i s, ss[i]? = some s → ∀ j v, s.cells[j]? = some v → w.cell? ⟨b, off + i * 8 + j, none⟩ = some v)
def sup0 : Sup := ⟨0, 0, 0, 0, 0, 0, 0, 0⟩
def supAt (ss : List Sup) (i : Nat) : Sup := ss.getD i sup0
section
variable {w w' : World} {L n : Nat} {A : Option Addr} {ss : List Sup}
theorem SupsAre.keep (h : SupsAre w L A n ss) (hk : ∀ p : Addr, p.block < L → w'.cell? p = w.cell? p) : SupsAre w' L A n ss :=
  ⟨h.1, fun hn => by
    obtain ⟨b, off, e, hb, hc⟩ := h.2 hn
    exact ⟨b, off, e, hb, fun i s hs j v hv => (hk ⟨b, _, none⟩ hb).trans (hc i s hs j v hv)⟩⟩
theorem SupsAre.below (h : SupsAre w L A n ss) (hb : Below L w w') : SupsAre w' L A n ss := h.keep fun _ hp => hb.cell hp
theorem SupsAre.more {L' : Nat} (h : SupsAre w L A n ss) (hL : L ≤ L') : SupsAre w L' A n ss :=
  ⟨h.1, fun hn => by obtain ⟨b, off, e, hb, hc⟩ := h.2 hn; exact ⟨b, off, e, by omega, hc⟩⟩
theorem SupsAre.at_ (h : SupsAre w L A n ss) {i : Nat} (hi : i < n) : ∃ b off, A = some ⟨b, off, none⟩ ∧ b < L ∧ ∀ j v, (supAt ss i).cells[j]? = some v → w.cell? ⟨b, off + i * 8 + j, none⟩ = some v := by
  obtain ⟨b, off, e, hb, hc⟩ := h.2 (by omega)
  have hl : i < ss.length := by have := h.1; omega
  have hs : ss[i]? = some (supAt ss i) := by simp [supAt, List.getD, List.getElem?_eq_getElem hl]
  exact ⟨b, off, e, hb, hc i _ hs⟩
end
/-- The place of the greatest generation of the first k. -/
def nwst (ss : List Sup) : Nat → Nat
  | 0 => 0
  | k + 1 => if (supAt ss k).gen > (supAt ss (nwst ss k)).gen then k else nwst ss k
theorem nwst_lt (ss : List Sup) (k n : Nat) (h : 0 < n) (hk : k ≤ n) : nwst ss k < n := by
  induction k with
  | zero => exact h
  | succ k ih =>
    unfold nwst
    split
    · omega
    · exact ih (by omega)
theorem nwst_most (ss : List Sup) (k i : Nat) (h : i < k) : (supAt ss i).gen ≤ (supAt ss (nwst ss k)).gen := by
  induction k with
  | zero => omega
  | succ k ih =>
    unfold nwst
    split
    · rename_i hc
      rcases Nat.lt_or_ge i k with hi | hi
      · have := ih hi; omega
      · obtain rfl : i = k := by omega
        exact Int.le_refl _
    · rename_i hc
      rcases Nat.lt_or_ge i k with hi | hi
      · exact ih hi
      · obtain rfl : i = k := by omega
        omega
theorem nwst_first (ss : List Sup) (k i : Nat) (h : i < nwst ss k) (hk : i < k) : (supAt ss i).gen < (supAt ss (nwst ss k)).gen := by
  induction k with
  | zero => omega
  | succ k ih =>
    unfold nwst at h ⊢
    split at h
    · rename_i hc
      rw [if_pos hc]
      have := nwst_most ss k i h
      omega
    · rename_i hc
      rw [if_neg hc]
      have hw : nwst ss k < k + 1 := nwst_lt ss k (k + 1) (by omega) (by omega)
      rcases Nat.lt_or_ge i k with hi | hi
      · exact ih h hi
      · omega

set_option maxHeartbeats 1000000 in
theorem newest_any (A : Option Addr) (n c L : Nat) (ss : List Sup) (w : World) (hr : SupsAre w L A n ss) (hL : L ≤ w.heap.size) (hn : n ≤ 140737488351232) :
    Calls Tryz.prog 87 #[.slice A n c] w fun e w' => e = .returned (.tuple #[.int .i64 (nwst ss n), .bool (decide (0 < n))]) ∧ Below w.heap.size w w' := by
  have HR := Lib.hid hr
  have hstep : Hid (∀ k, nwst ss (k + 1) = if (supAt ss k).gen > (supAt ss (nwst ss k)).gen then k else nwst ss k) := Lib.hid fun k => rfl
  have hlt0 : Hid (∀ k, k < n → nwst ss k < n) := Lib.hid fun k h => nwst_lt ss k n (by omega) (by omega)
  clear hr
  go_enter Tryz.func87, Tryz.ntmps87
  go_wp2
  have hrefl := Below.refl w.heap.size w
  go_loopw [4, 9] (fun s4 s9 wr => ∃ k p : Nat, k ≤ n ∧ s9 = .int .i64 k ∧ s4 = .int .i64 p ∧ Hid (p = nwst ss k) ∧ Below w.heap.size w wr) (fun _ s9 _ => n - (intOf s9).toNat)
  case atStart => exact ⟨0, 0, Nat.zero_le _, rfl, rfl, Lib.hid rfl, hrefl⟩
  case round =>
    obtain ⟨k, p, hk, rfl, rfl, Hp, hbel⟩ := hrel
    by_cases hlt : k < n
    · have hpn : p < n := by rw [Hp.out]; exact hlt0.out k hlt
      have hR := HR.out.below (hbel.mono hL)
      obtain ⟨b, off, rfl, hb1, hc1⟩ := hR.at_ hlt
      obtain ⟨b2, off2, e2, _, hc2⟩ := hR.at_ hpn
      injection e2 with e2
      injection e2 with e3 e4
      subst e3 e4
      have hs := hstep.out k
      rw [← Hp.out] at hs
      have a0 : wr.cell? ⟨b, off + k * 8, none⟩ = some (.int .i64 (supAt ss k).gen) := hc1 0 _ rfl
      have a1 : wr.cell? ⟨b, off + k * 8 + 1, none⟩ = some (.int .i64 (supAt ss k).mem) := hc1 1 _ rfl
      have a2 : wr.cell? ⟨b, off + k * 8 + 2, none⟩ = some (.int .i64 (supAt ss k).disk) := hc1 2 _ rfl
      have a3 : wr.cell? ⟨b, off + k * 8 + 3, none⟩ = some (.int .i64 (supAt ss k).str) := hc1 3 _ rfl
      have a4 : wr.cell? ⟨b, off + k * 8 + 4, none⟩ = some (.int .i64 (supAt ss k).logs) := hc1 4 _ rfl
      have a5 : wr.cell? ⟨b, off + k * 8 + 5, none⟩ = some (.int .i64 (supAt ss k).spare) := hc1 5 _ rfl
      have a6 : wr.cell? ⟨b, off + k * 8 + 6, none⟩ = some (.int .i64 (supAt ss k).mark) := hc1 6 _ rfl
      have a7 : wr.cell? ⟨b, off + k * 8 + 7, none⟩ = some (.int .i64 (supAt ss k).cur) := hc1 7 _ rfl
      have b0 : wr.cell? ⟨b, off + p * 8, none⟩ = some (.int .i64 (supAt ss p).gen) := hc2 0 _ rfl
      clear hc1 hc2 hR
      have hb2 : b < wr.heap.size := by have := hbel.size; omega
      have hsz : w.heap.size ≤ wr.heap.size := hbel.size
      generalize supAt ss k = S at *
      generalize supAt ss p = R at *
      obtain ⟨x0, x1, x2, x3, x4, x5, x6, x7⟩ := S
      obtain ⟨y0, y1, y2, y3, y4, y5, y6, y7⟩ := R
      simp only at *
      have hnew := row8 (s := ⟨x0, x1, x2, x3, x4, x5, x6, x7⟩) (heap_alloc_last wr (.cells (Sup.cells ⟨x0, x1, x2, x3, x4, x5, x6, x7⟩) 65))
      simp only [Sup.cells] at hnew
      obtain ⟨n0, n1, n2, n3, n4, n5, n6, n7⟩ := hnew
      have b1 : (wr.alloc (.cells #[.int .i64 x0, .int .i64 x1, .int .i64 x2, .int .i64 x3, .int .i64 x4, .int .i64 x5, .int .i64 x6, .int .i64 x7] 65)).cell? ⟨b, off + p * 8, none⟩ = some (.int .i64 y0) := (World.cell?_alloc_lt wr _ _ hb2).trans b0
      have hbel2 := hbel.alloc hsz (.cells #[.int .i64 x0, .int .i64 x1, .int .i64 x2, .int .i64 x3, .int .i64 x4, .int .i64 x5, .int .i64 x6, .int .i64 x7] 65)
      have ip : (p : Int) < (n : Int) := by omega
      clear n1 n2 n3 n4 n5 n6 n7
      by_cases hgt : x0 > y0
      · rw [if_pos hgt] at hs
        have hd : decide (x0 > y0) = true := decide_eq_true hgt
        have Hs := Lib.hid hs
        clear hs hgt
        go_wp2
        go_quiet (fail)
        go_wp2
        go_roundw
        case rel => exact ⟨k + 1, k, by omega, by go_num, rfl, Lib.hid Hs.out.symm, hbel2.trans ⟨rfl, rfl, rfl, Nat.le_refl _, fun _ _ => rfl⟩⟩
        case measure => simp [intOf]; omega
      · rw [if_neg hgt] at hs
        have hd : decide (x0 > y0) = false := decide_eq_false hgt
        have Hs := Lib.hid hs
        clear hs hgt
        go_wp2
        go_quiet (fail)
        go_wp2
        go_roundw
        case rel => exact ⟨k + 1, p, by omega, by go_num, rfl, Lib.hid Hs.out.symm, hbel2.trans ⟨rfl, rfl, rfl, Nat.le_refl _, fun _ _ => rfl⟩⟩
        case measure => simp [intOf]; omega
    · obtain rfl : k = n := by omega
      go_wp2
      go_ret2
      exact ⟨by rw [← Hp.out]; rfl, hbel⟩
end Go.Proofs.YtplbgjjacomceaaGreatDoor.S
namespace Go.Proofs.YtplbgjjacomceaaGreatDoor.Ins
open Go.RowKit

def setL (xs : List Value) (o : Nat) : List Value → List Value
  | [] => xs
  | v :: r => setL (xs.set o v) (o + 1) r
theorem setL_eq : ∀ (vs xs : List Value) (o : Nat), o + vs.length ≤ xs.length → setL xs o vs = xs.take o ++ vs ++ xs.drop (o + vs.length)
  | [], xs, o, _ => by simp [setL]
  | v :: r, xs, o, h => by
    rw [List.length_cons] at h
    have hl : o < xs.length := by omega
    have ih := setL_eq r (xs.set o v) (o + 1) (by rw [List.length_set]; omega)
    have h1 : (xs.set o v).take (o + 1) = xs.take o ++ [v] := by
      rw [List.take_succ_eq_append_getElem (by rw [List.length_set]; exact hl), List.getElem_set_self, List.take_set]
      congr 1
      apply List.set_eq_of_length_le
      simp; omega
    have h2 : (xs.set o v).drop (o + 1 + r.length) = xs.drop (o + 1 + r.length) := by
      rw [List.drop_set_of_lt (by omega)]
    rw [setL, ih, h1, h2, List.length_cons, show o + (r.length + 1) = o + 1 + r.length by omega]
    simp
theorem setL_length : ∀ (vs xs : List Value) (o : Nat), (setL xs o vs).length = xs.length
  | [], _, _ => rfl
  | v :: r, xs, o => by rw [setL, setL_length r, List.length_set]
/-- IN PLACE. -/
theorem shifted (xs : List Value) (u p : Value) (i : Nat) (hi : i < xs.length) :
    setL (setL (xs ++ [u]) (i + 1) (xs.drop i)) i [p] = xs.take i ++ p :: xs.drop i := by
  have hl : (xs.drop i).length = xs.length - i := List.length_drop
  rw [setL_eq (xs.drop i) (xs ++ [u]) (i + 1) (by rw [hl]; simp; omega), hl]
  have hd : (xs ++ [u]).drop (i + 1 + (xs.length - i)) = [] := List.drop_eq_nil_of_le (by simp; omega)
  rw [hd, List.append_nil, List.take_append_of_le_length (by omega)]
  rw [setL_eq [p] _ i (by simp; omega)]
  have h1 : (List.take (i + 1) xs ++ List.drop i xs).take i = xs.take i := by
    rw [List.take_append_of_le_length (by simp; omega), List.take_take]
    congr 1; omega
  have h2 : (List.take (i + 1) xs ++ List.drop i xs).drop (i + [p].length) = xs.drop i := by
    rw [List.length_singleton, List.drop_append_of_le_length (by simp; omega), List.drop_take]
    simp
  rw [h1, h2]
  simp
/-- IN A NEW ROW. -/
theorem grown (xs : List Value) (z p : Value) (i : Nat) (hi : i < xs.length) :
    setL (setL (xs.take i ++ List.replicate (xs.length + 1 - i) z) i [p]) (i + 1) (xs.drop i) = xs.take i ++ p :: xs.drop i := by
  have ht : (xs.take i).length = i := by simp; omega
  have hl : (xs.drop i).length = xs.length - i := List.length_drop
  rw [setL_eq [p] _ i (by simp; omega)]
  have h1 : (xs.take i ++ List.replicate (xs.length + 1 - i) z).take i = xs.take i := by rw [List.take_append_of_le_length (by omega), List.take_of_length_le (by omega)]
  have h2 : (xs.take i ++ List.replicate (xs.length + 1 - i) z).drop (i + [p].length) = List.replicate (xs.length - i) z := by
    rw [List.length_singleton, List.drop_append, ht, List.drop_eq_nil_of_le (by omega), List.nil_append, List.drop_replicate]
    congr 1; omega
  rw [h1, h2, setL_eq _ _ _ (by simp; omega), hl]
  have h3 : (xs.take i ++ [p] ++ List.replicate (xs.length - i) z).take (i + 1) = xs.take i ++ [p] := by
    rw [List.take_append_of_le_length (by simp; omega), List.take_of_length_le (by simp; omega)]
  have h4 : (xs.take i ++ [p] ++ List.replicate (xs.length - i) z).drop (i + 1 + (xs.length - i)) = [] := List.drop_eq_nil_of_le (by simp; omega)
  rw [h3, h4]
  simp

variable {w : World} {base : Nat} {e : TypeId} {g n cap : Nat} {xs : List Value}
theorem own_drew (h : w.ownsRow base e 1 (.slice (some ⟨g, 0, none⟩) n cap) n xs) : w.drew.ownsRow base e 1 (.slice (some ⟨g, 0, none⟩) n cap) n xs := h
theorem own_spare (h : w.ownsRow base e 1 (.slice (some ⟨g, 0, none⟩) n cap) n xs) (hlt : n < cap) :
    ∃ u, w.ownsRow base e 1 (.slice (some ⟨g, 0, none⟩) (n + 1) cap) (n + 1) (xs ++ [u]) := by
  rcases h.2 with ⟨h', _⟩ | ⟨g', cap', cur, h', hb, hg, hnc, hcm, hcs, htake⟩
  · simp at h'
  · simp only [Value.slice.injEq, Option.some.injEq, Addr.mk.injEq, and_true, true_and] at h'
    obtain ⟨rfl, rfl⟩ := h'
    have hl : n < cur.toList.length := by simp; omega
    refine ⟨cur.toList[n], by simp [h.1], .inr ⟨g, cap, cur, rfl, hb, hg, by omega, hcm, hcs, ?_⟩⟩
    rw [Nat.mul_one, List.take_succ_eq_append_getElem hl, ← htake, Nat.mul_one]
theorem own_setCells : ∀ (vs : List Value) (o : Nat) (w : World) (xs : List Value), w.ownsRow base e 1 (.slice (some ⟨g, 0, none⟩) n cap) n xs → (w.setCells g o vs).ownsRow base e 1 (.slice (some ⟨g, 0, none⟩) n cap) n (setL xs o vs)
  | [], _, _, _, h => h
  | v :: r, o, _, _, h => own_setCells r (o + 1) _ _ (h.stored o v).1
theorem below_setCells {B : Nat} {a : World} (hb : B ≤ g) : ∀ (vs : List Value) (o : Nat) {w : World}, Below B a w → Below B a (w.setCells g o vs)
  | [], _, _, h => h
  | v :: r, o, _, h => below_setCells hb r (o + 1) (h.setCell (p := ⟨g, o, none⟩) hb v)
end Go.Proofs.YtplbgjjacomceaaGreatDoor.Ins
namespace Go.Proofs.YtplbgjjacomceaaGreatDoor.S
open Go.RowKit

/-- The widths' table. -/
def widL : List Nat := [8, 1, 1, 1, 1, 4, 4, 4]
def offL : List Nat := [4, 12, 13, 14, 15, 16, 20, 24, 28]
def Wid (w : World) : Prop := ∀ i, i < 8 → w.cell? ⟨0, i, none⟩ = some (.int .i64 ((widL.getD i 0 : Nat) : Int))
theorem Wid.keep {w w' : World} (h : Wid w) (hk : ∀ p : Addr, p.block < 0 + 1 → w'.cell? p = w.cell? p) : Wid w' := fun i hi => (hk _ (by simp)).trans (h i hi)
theorem Wid.size {w : World} (h : Wid w) : 0 + 1 ≤ w.heap.size := World.block_lt_of_cell? w _ (h 0 (by decide))
theorem Wid.below {w w' : World} {B : Nat} (h : Wid w) (hB : 0 + 1 ≤ B) (hb : Below B w w') : Wid w' := h.keep fun p hp => hb.cell (by omega)

/-- The first j numbers behind the sign. -/
def preTo (ns : List Nat) : Nat → List Nat
  | 0 => [65, 83, 72, 76]
  | j + 1 => preTo ns j ++ putL (ns.getD j 0) (widL.getD j 0)
theorem preTo_length (ns : List Nat) : ∀ j, j ≤ 8 → (preTo ns j).length = offL.getD j 0
  | 0, _ => rfl
  | j + 1, h => by
    rw [preTo, List.length_append, preTo_length ns j (by omega), putL_length]
    have : ∀ i : Fin 8, offL.getD i.val 0 + widL.getD i.val 0 = offL.getD (i.val + 1) 0 := by decide
    exact this ⟨j, by omega⟩
def encTo (ns : List Nat) (j : Nat) : List Nat := preTo ns j ++ List.replicate (128 - (preTo ns j).length) 0
theorem off_le : ∀ j : Fin 9, offL.getD j.val 0 ≤ 28 := by decide
theorem encTo_length (ns : List Nat) (j : Nat) (h : j ≤ 8) : (encTo ns j).length = 128 := by
  have := off_le ⟨j, by omega⟩
  rw [encTo, List.length_append, List.length_replicate, preTo_length ns j h]
  have : offL.getD j 0 ≤ 28 := this
  omega
theorem splice_bts (a : List Nat) (n k : Nat) (c : List Nat) (h : a.length = k) (_ : c.length ≤ n) :
    splice (bts (a ++ List.replicate n 0)) k (bts c) = bts ((a ++ c) ++ List.replicate (n - c.length) 0) := by
  unfold splice
  subst h
  simp only [bts, List.length_map, List.map_append, List.map_replicate]
  rw [List.take_append_of_le_length (by simp), List.take_of_length_le (by simp), List.drop_append, List.drop_eq_nil_of_le (by simp), List.nil_append, List.drop_replicate]
  simp
theorem encTo_splice (ns : List Nat) (j : Nat) (h : j < 8) : splice (bts (encTo ns j)) (offL.getD j 0) (bts (putL (ns.getD j 0) (widL.getD j 0))) = bts (encTo ns (j + 1)) := by
  have h1 := preTo_length ns j (by omega)
  have h2 := preTo_length ns (j + 1) (by omega)
  have h3 : offL.getD (j + 1) 0 ≤ 28 := off_le ⟨j + 1, by omega⟩
  have h4 : (preTo ns (j + 1)).length = (preTo ns j).length + widL.getD j 0 := by rw [preTo, List.length_append, putL_length]
  unfold encTo
  rw [splice_bts _ _ _ _ h1 (by rw [putL_length]; omega), h4, putL_length, preTo, Nat.sub_sub]
theorem zero61 : zcB.toList = List.replicate 128 (Value.int .u8 0) := by rfl
theorem sign_splice : splice (List.replicate 128 (Value.int .u8 0)) 0 (bts [65, 83, 72, 76]) = bts (encTo [] 0) := by
  have h := splice_bts [] 128 0 [65, 83, 72, 76] rfl (by decide)
  simpa [bts, encTo, preTo] using h
theorem setCells_heap {g : Nat} {t : TypeId} : ∀ (vs : List Value) (o : Nat) (W : World) (cur : List Value), W.heap[g]? = some (.cells cur.toArray t (0, 0)) → (W.setCells g o vs).heap[g]? = some (.cells (Ins.setL cur o vs).toArray t (0, 0))
  | [], _, _, _, h => h
  | v :: r, o, W, cur, h => by
    have h2 := heap_setCell_same W g o cur.toArray t v h
    rw [List.setIfInBounds_toArray] at h2
    exact setCells_heap r (o + 1) _ _ h2
/-- The sign is copied. -/
theorem sign_run (W : World) (g : Nat) (ty : TypeId) (h : W.heap[g]? = some (.cells (List.replicate 128 (Value.int .u8 0)).toArray 120 (0, 0))) :
    ∃ W', (Builtin.copy_ #[45, 9] ty #[.slice (some ⟨g, 0, none⟩) 128 128, .string ⟨#[65, 83, 72, 76]⟩]).run Tryz.prog W = .ok (.int .i64 4) W' ∧
      W'.heap[g]? = some (.cells (bts (encTo [] 0)).toArray 120 (0, 0)) ∧ ∀ B w0, B ≤ g → Below B w0 W → Below B w0 W' := by
  refine ⟨W.setCells g 0 (bts [65, 83, 72, 76]), ?_, ?_, fun B w0 hB hb => Ins.below_setCells hB _ _ hb⟩
  · have hc : ∀ j, j < 128 → W.cell? ⟨g, j, none⟩ = some (.int .u8 0) := fun j hj => by
      rw [cell_of_row _ _ j _ _ _ h, List.getElem?_toArray, List.getElem?_replicate, if_pos hj]
    have := _root_.Go.run_copy_string (P := Tryz.prog) W 45 9 ty 5 g 0 128 128 ⟨#[65, 83, 72, 76]⟩ Tryz.underlying45 Tryz.sizeOf5 (by decide)
      (fun j hj => by rw [Nat.zero_add, hc j (by have : j < 4 := hj; omega)]; rfl) (fun j _ => by rw [Nat.zero_add]; exact frozen_of_row _ _ j _ _ h)
    exact this
  · have h2 := setCells_heap (bts [65, 83, 72, 76]) 0 W _ h
    rw [Ins.setL_eq _ _ _ (by simp [bts])] at h2
    rw [← sign_splice]
    unfold splice
    simpa using h2

theorem info_block : (Tryz.prog.info? 120).map (·.size) = some 128 := by kernel_rfl
theorem info_u8s : (Tryz.prog.info? 5).map (·.size) = some 1 := by kernel_rfl
/-- Bytes are copied into a block. -/
theorem bytes_run (W : World) (g off m n c B : Nat) (A : Option Addr) (l cur : List Nat) (e ty : TypeId) (h : W.heap[g]? = some (.cells (bts cur).toArray e (0, 0))) (hr : Reads W B A n (bts l)) (hn : 0 < n) (hm : n ≤ m) (hfit : off + n ≤ cur.length) :
    ∃ W', (Builtin.copy_ #[45, 45] ty #[.slice (some ⟨g, off, none⟩) m m, .slice A n c]).run Tryz.prog W = .ok (.int .i64 (n : Int)) W' ∧
      W'.heap[g]? = some (.cells (splice (bts cur) off (bts l)).toArray e (0, 0)) ∧ ∀ B w0, B ≤ g → Below B w0 W → Below B w0 W' := by
  obtain ⟨ad, rfl, _, hc⟩ := hr.2 hn
  have hl : (bts l).length = n := hr.1
  refine ⟨W.setCells g off (bts l), ?_, ?_, fun B w0 hB hb => Ins.below_setCells hB _ _ hb⟩
  · have := run_copy_cells (P := Tryz.prog) W 45 45 ty 5 g off m m ad n c (bts l) Tryz.underlying45 info_u8s (by rw [hl]; exact (Nat.min_eq_left hm).symm) hc
      (fun j hj => by
        have hj2 : off + j < (bts cur).length := by rw [bts_length]; omega
        rw [cell_of_row _ _ (off + j) _ _ _ h, List.getElem?_toArray, List.getElem?_eq_getElem hj2]; rfl)
      (fun j _ => frozen_of_row _ _ _ _ _ h) (bts_one l)
    rw [this, hl]
    rfl
  · have h2 := setCells_heap (bts l) off W _ h
    rw [Ins.setL_eq _ _ _ (by rw [hl, bts_length]; exact hfit)] at h2
    unfold splice
    rw [← List.append_assoc]
    exact h2

theorem encTo_small (ns : List Nat) (j : Nat) : Small (encTo ns j) := by
  have hp : ∀ j, Small (preTo ns j) := fun j => by
    induction j with
    | zero => intro x hx; simp [preTo] at hx; omega
    | succ j ih =>
      intro x hx
      rw [preTo, List.mem_append] at hx
      rcases hx with hx | hx
      · exact ih x hx
      · simp only [putL, List.mem_map] at hx
        obtain ⟨i, _, rfl⟩ := hx
        exact Nat.mod_lt _ (by decide)
  intro x hx
  rw [encTo, List.mem_append] at hx
  rcases hx with hx | hx
  · exact hp j x hx
  · rw [(List.mem_replicate.1 hx).2]; decide
theorem sum_lt {l : List Nat} (h : Small l) : Nums.sum 0 l < 2 ^ (8 * 4) := by
  unfold Nums.sum
  exact Nums.xor_lt_32 (Nums.run_lt h (by decide)) (by decide)
theorem block_reads {W : World} {g : Nat} {l : List Nat} {e : TypeId} (h : W.heap[g]? = some (.cells (bts l).toArray e (0, 0))) (hg : g < W.heap.size) (hl : l.length = 128) : Reads W W.heap.size (some ⟨g, 0, none⟩) 124 (bts (l.take 124)) := by
  refine ⟨by rw [bts_length, List.length_take, hl]; rfl, fun _ => ⟨_, rfl, hg, fun j u hu => ?_⟩⟩
  have e : (⟨g, 0, none⟩ : Addr).add j = ⟨g, j, none⟩ := by unfold Addr.add; split <;> simp_all
  rw [e, cell_of_row _ _ j _ _ _ h, List.getElem?_toArray]
  rw [bts, List.map_take, List.getElem?_take] at hu
  split at hu
  · exact hu
  · cases hu

/-- Bytes behind the first 124. -/
theorem last_splice {l c : List Nat} (hl : l.length = 128) (hc : c.length = 4) : splice (bts l) 124 (bts c) = bts (l.take 124 ++ c) := by
  unfold splice
  have h : (bts l).drop (124 + (bts c).length) = [] := List.drop_eq_nil_of_le (by rw [bts_length, bts_length]; omega)
  rw [h, List.append_nil, bts_append]
  simp [bts, List.map_take]
/-- A whole block is read. -/
theorem results_cell {fn : Func} {a : Tmp} {t : TypeId} {P : Program} {w : World} {v : Value} {tmps : Array Value} {g : Nat} (h : fn.results = #[.cell a t])
    (hp : tmps.getD a undef = .pointer (some ⟨g, 0, none⟩)) (hl : (loadVar t ⟨g, 0, none⟩).run P w = .ok v w) : (results fn tmps).run P w = .ok v w := by
  rw [Array.getD_eq_getD_getElem?] at hp
  simp [results, h, hp, asAddr, hl]
theorem load_run {W : World} {g : Nat} {l : List Nat} {e : TypeId} (h : W.heap[g]? = some (.cells (bts l).toArray e (0, 0))) (hl : l.length = 128) : (loadCellsFrom ⟨g, 0, none⟩ 0 128 #[]).run Tryz.prog W = .ok (bts l).toArray W := by
  have := run_loadCells_list (P := Tryz.prog) W ⟨g, 0, none⟩ (bts l) (fun j v hv => by
    have hadd : (⟨g, 0, none⟩ : Addr).add j = ⟨g, j, none⟩ := by unfold Addr.add; split <;> simp_all
    rw [hadd, cell_of_row _ _ j _ _ _ h, List.getElem?_toArray]; exact hv)
  rw [bts_length, hl] at this
  simpa [loadCells] using this

/-- The eight numbers of a block. -/
def Sup.nums (s : Sup) : List Nat := [s.gen.toNat, s.mem.toNat, s.disk.toNat, s.logs.toNat, (s.spare % 256).toNat, s.str.toNat, s.mark.toNat, s.cur.toNat]
def encL (ns : List Nat) : List Nat := let b := (encTo ns 8).take 124; b ++ putL (Nums.sum 0 b) 4

set_option maxRecDepth 100000 in
set_option maxHeartbeats 4000000 in
theorem block_any (s : Sup) (w : World) (hr : s.right = true) (hT : Tabs w) (hW : Wid w) :
    Calls Tryz.prog 74 #[s.val] w fun e w' => e = .returned (.agg (bts (encL s.nums)).toArray) ∧ Below w.heap.size w w' := by
  have hns : Hid (s.nums = [s.gen.toNat, s.mem.toNat, s.disk.toNat, s.logs.toNat, (s.spare % 256).toNat, s.str.toNat, s.mark.toNat, s.cur.toNat]) := Lib.hid rfl
  simp only [Sup.right, Bool.and_eq_true, decide_eq_true_eq] at hr
  obtain ⟨⟨⟨⟨⟨⟨⟨h1, h2⟩, h3⟩, h4⟩, h5⟩, h6⟩, h7⟩, h8⟩ := hr
  have hmost : s.most ≤ 1024 := by unfold Sup.most; split <;> omega
  have h7b : 0 ≤ s.mark ∧ s.mark ≤ 1024 := by omega
  generalize s.nums = ns at *
  obtain ⟨x0, x1, x2, x3, x4, x5, x6, x7⟩ := s
  simp only [Sup.val, Sup.cells] at *
  clear h7 hmost
  have hsg : (((w.alloc (.cells #[.int .i64 x0, .int .i64 x1, .int .i64 x2, .int .i64 x3, .int .i64 x4, .int .i64 x5, .int .i64 x6, .int .i64 x7] 65)).alloc (.cells zcB 120)).alloc (.cells #[.int .i64 x0, .int .i64 x1, .int .i64 x2, .int .i64 x4, .int .i64 (x5 % 256), .int .i64 x3, .int .i64 x6, .int .i64 x7] 169)).heap.size = w.heap.size + 1 + 1 + 1 := by simp
  have hz : (((( w.alloc (.cells #[.int .i64 x0, .int .i64 x1, .int .i64 x2, .int .i64 x3, .int .i64 x4, .int .i64 x5, .int .i64 x6, .int .i64 x7] 65)).alloc (.cells zcB 120)).alloc (.cells #[.int .i64 x0, .int .i64 x1, .int .i64 x2, .int .i64 x4, .int .i64 (x5 % 256), .int .i64 x3, .int .i64 x6, .int .i64 x7] 169)).alloc (.cells zcB 120)).heap[w.heap.size + 1 + 1 + 1]? = some (.cells (List.replicate 128 (Value.int .u8 0)).toArray 120 (0, 0)) := by
    rw [← zero61, ← hsg]
    exact heap_alloc_last _ _
  obtain ⟨W1, hrun, hblk, hbel⟩ := sign_run _ _ 3 hz
  have hb0 : Below w.heap.size w ((((w.alloc (.cells #[.int .i64 x0, .int .i64 x1, .int .i64 x2, .int .i64 x3, .int .i64 x4, .int .i64 x5, .int .i64 x6, .int .i64 x7] 65)).alloc (.cells zcB 120)).alloc (.cells #[.int .i64 x0, .int .i64 x1, .int .i64 x2, .int .i64 x4, .int .i64 (x5 % 256), .int .i64 x3, .int .i64 x6, .int .i64 x7] 169)).alloc (.cells zcB 120)) :=
    ((((Below.refl _ _).alloc (Nat.le_refl _) _).alloc (by simp) _).alloc (by simp; omega) _).alloc (by simp; omega) _
  have hb1 := hbel w.heap.size w (by omega) hb0
  have hbk := hbel (w.heap.size + 1 + 1 + 1) _ (Nat.le_refl _) (Below.refl _ _)
  have hs2 : ((w.alloc (.cells #[.int .i64 x0, .int .i64 x1, .int .i64 x2, .int .i64 x3, .int .i64 x4, .int .i64 x5, .int .i64 x6, .int .i64 x7] 65)).alloc (.cells zcB 120)).heap.size = w.heap.size + 1 + 1 := by simp
  have hnum : W1.heap[w.heap.size + 1 + 1]? = some (.cells #[.int .i64 x0, .int .i64 x1, .int .i64 x2, .int .i64 x4, .int .i64 (x5 % 256), .int .i64 x3, .int .i64 x6, .int .i64 x7] 169) := by
    rw [hbk.block _ (by omega), Below.heap_alloc _ _ _ (by rw [hsg]; omega), ← hs2]
    exact heap_alloc_last _ _
  have hs1 : (w.alloc (.cells #[.int .i64 x0, .int .i64 x1, .int .i64 x2, .int .i64 x3, .int .i64 x4, .int .i64 x5, .int .i64 x6, .int .i64 x7] 65)).heap.size = w.heap.size + 1 := by simp
  have hres : W1.heap[w.heap.size + 1]? = some (.cells (List.replicate 128 (Value.int .u8 0)).toArray 120 (0, 0)) := by
    rw [hbk.block _ (by omega), Below.heap_alloc _ _ _ (by rw [hsg]; omega), Below.heap_alloc _ _ _ (by rw [hs2]; omega), ← hs1, ← zero61]
    exact heap_alloc_last _ _
  have Hres := Lib.hid hres
  clear hres hs1
  have m0 : W1.cell? ⟨w.heap.size + 1 + 1, 0, none⟩ = some (.int .i64 x0) := cell_of_row _ _ 0 _ _ _ hnum
  have m1 : W1.cell? ⟨w.heap.size + 1 + 1, 1, none⟩ = some (.int .i64 x1) := cell_of_row _ _ 1 _ _ _ hnum
  have m2 : W1.cell? ⟨w.heap.size + 1 + 1, 2, none⟩ = some (.int .i64 x2) := cell_of_row _ _ 2 _ _ _ hnum
  have m3 : W1.cell? ⟨w.heap.size + 1 + 1, 3, none⟩ = some (.int .i64 x4) := cell_of_row _ _ 3 _ _ _ hnum
  have m4 : W1.cell? ⟨w.heap.size + 1 + 1, 4, none⟩ = some (.int .i64 (x5 % 256)) := cell_of_row _ _ 4 _ _ _ hnum
  have m5 : W1.cell? ⟨w.heap.size + 1 + 1, 5, none⟩ = some (.int .i64 x3) := cell_of_row _ _ 5 _ _ _ hnum
  have m6 : W1.cell? ⟨w.heap.size + 1 + 1, 6, none⟩ = some (.int .i64 x6) := cell_of_row _ _ 6 _ _ _ hnum
  have m7 : W1.cell? ⟨w.heap.size + 1 + 1, 7, none⟩ = some (.int .i64 x7) := cell_of_row _ _ 7 _ _ _ hnum
  have hblk0 : W1.heap[w.heap.size + 1 + 1 + 1]? = some (.cells (bts (encTo ns 0)).toArray 120 (0, 0)) := hblk
  have hg1 : w.heap.size + 1 + 1 + 1 < W1.heap.size := by
    rcases Nat.lt_or_ge (w.heap.size + 1 + 1 + 1) W1.heap.size with h | h
    · exact h
    · rw [Array.getElem?_eq_none h] at hblk0; cases hblk0
  have Hblk0 := Lib.hid hblk0
  have HW := Lib.hid (hW.below hW.size hb1)
  have HT := Lib.hid (hT.below hT.size hb1)
  have Hb1 := Lib.hid hb1
  have hwsz := hW.size
  clear hblk hblk0 hbel hbk hs2 hnum hW hT hb1 hz hsg hb0
  have hz0 := zero_block
  have hzn := zcB_ne
  go_enter Tryz.func74, Tryz.ntmps74
  go_wp2_with fail
  clear m0 m1 m2 m3 m4 m5 m6 m7 hrun
  generalize hgs : w.heap.size = g at *
  have Hgs := Lib.hid hgs
  clear hgs
  go_loopw [6, 37] (fun s6 s37 wr => ∃ j : Nat, j ≤ 8 ∧ s37 = .int .i64 j ∧ s6 = .int .i64 ((offL.getD j 0 : Nat) : Int) ∧ Hid (wr.heap[g + 1 + 1 + 1]? = some (.cells (bts (encTo ns j)).toArray 120 (0, 0))) ∧ Below (g + 1 + 1 + 1) W1 wr) (fun _ s37 _ => 8 - (intOf s37).toNat)
  case atStart => exact ⟨0, by omega, rfl, rfl, Hblk0, Below.refl _ _⟩
  case round =>
    obtain ⟨j, hj, rfl, rfl, Hblk, hbr⟩ := hrel
    have hszr : W1.heap.size ≤ wr.heap.size := hbr.size
    have hcases : j = 0 ∨ j = 1 ∨ j = 2 ∨ j = 3 ∨ j = 4 ∨ j = 5 ∨ j = 6 ∨ j = 7 ∨ j = 8 := by omega
    rcases hcases with rfl | rfl | rfl | rfl | rfl | rfl | rfl | rfl | rfl
    case inl =>
      obtain ⟨n0, rfl⟩ : ∃ n : Nat, x0 = (n : Int) := ⟨Int.toNat x0, by omega⟩
      have hwid : wr.cell? ⟨0, 0, none⟩ = some (.int .i64 8) := (HW.out.below (by omega) hbr) 0 (by decide)
      have hget : ns.getD 0 0 = n0 := by rw [hns.out]; simp
      have q := Lib.hid (put_ok n0 8 wr (by decide) (by decide) (by simp; omega))
      have hidx : ∀ W, (Instr.index 169 (.agg #[.int .i64 n0, .int .i64 x1, .int .i64 x2, .int .i64 x4, .int .i64 (x5 % 256), .int .i64 x3, .int .i64 x6, .int .i64 x7]) (.int .i64 0)).run Tryz.prog W = .ok (.int .i64 (n0 : Int)) W := fun W => by kernel_rfl
      have hspl := encTo_splice ns 0 (by decide)
      rw [hget, show offL.getD 0 0 = 4 from rfl, show widL.getD 0 0 = 8 from rfl] at hspl
      have Hspl := Lib.hid hspl
      clear hspl hget
      rw [show offL.getD 0 0 = 4 from rfl]
      go_wp2_with (go_at_call 118; refine q.out.mono ?_; rintro e w2 ⟨v2, rfl, hown2, hb2⟩)
      obtain ⟨A2, c2, rfl, hr2, _, _⟩ := own_shape hown2
      clear hown2
      rw [putL_length] at hr2
      have hblk2 := (hb2.block (g + 1 + 1 + 1) (by omega)).trans Hblk.out
      obtain ⟨W3, hrun3, hblk3, hbel3⟩ := bytes_run w2 (g + 1 + 1 + 1) 4 124 8 c2 _ A2 (putL n0 8) (encTo ns 0) 120 3 hblk2 hr2 (by decide) (by decide) (by rw [encTo_length ns 0 (by decide)]; decide)
      rw [Hspl.out] at hblk3
      have Hblk3 := Lib.hid hblk3
      have hb3 := hbel3 (g + 1 + 1 + 1) W1 (Nat.le_refl _) (hbr.trans (hb2.mono (by omega)))
      rw [putL_length]
      rw [hrun3]
      clear hblk2 hblk3 hbel3 hr2 hb2
      go_wp2_with fail
      go_roundw
      case rel => exact ⟨0 + 1, by decide, rfl, rfl, Hblk3, hb3⟩
      case measure => simp [intOf]
    case inr.inl =>
      obtain ⟨n0, rfl⟩ : ∃ n : Nat, x1 = (n : Int) := ⟨Int.toNat x1, by omega⟩
      have hwid : wr.cell? ⟨0, 1, none⟩ = some (.int .i64 1) := (HW.out.below (by omega) hbr) 1 (by decide)
      have hget : ns.getD 1 0 = n0 := by rw [hns.out]; simp
      have q := Lib.hid (put_ok n0 1 wr (by decide) (by decide) (by simp; omega))
      have hidx : ∀ W, (Instr.index 169 (.agg #[.int .i64 x0, .int .i64 n0, .int .i64 x2, .int .i64 x4, .int .i64 (x5 % 256), .int .i64 x3, .int .i64 x6, .int .i64 x7]) (.int .i64 1)).run Tryz.prog W = .ok (.int .i64 (n0 : Int)) W := fun W => by kernel_rfl
      have hspl := encTo_splice ns 1 (by decide)
      rw [hget, show offL.getD 1 0 = 12 from rfl, show widL.getD 1 0 = 1 from rfl] at hspl
      have Hspl := Lib.hid hspl
      clear hspl hget
      rw [show offL.getD 1 0 = 12 from rfl]
      go_wp2_with (go_at_call 118; refine q.out.mono ?_; rintro e w2 ⟨v2, rfl, hown2, hb2⟩)
      obtain ⟨A2, c2, rfl, hr2, _, _⟩ := own_shape hown2
      clear hown2
      rw [putL_length] at hr2
      have hblk2 := (hb2.block (g + 1 + 1 + 1) (by omega)).trans Hblk.out
      obtain ⟨W3, hrun3, hblk3, hbel3⟩ := bytes_run w2 (g + 1 + 1 + 1) 12 116 1 c2 _ A2 (putL n0 1) (encTo ns 1) 120 3 hblk2 hr2 (by decide) (by decide) (by rw [encTo_length ns 1 (by decide)]; decide)
      rw [Hspl.out] at hblk3
      have Hblk3 := Lib.hid hblk3
      have hb3 := hbel3 (g + 1 + 1 + 1) W1 (Nat.le_refl _) (hbr.trans (hb2.mono (by omega)))
      rw [putL_length]
      rw [hrun3]
      clear hblk2 hblk3 hbel3 hr2 hb2
      go_wp2_with fail
      go_roundw
      case rel => exact ⟨1 + 1, by decide, rfl, rfl, Hblk3, hb3⟩
      case measure => simp [intOf]
    case inr.inr.inl =>
      obtain ⟨n0, rfl⟩ : ∃ n : Nat, x2 = (n : Int) := ⟨Int.toNat x2, by omega⟩
      have hwid : wr.cell? ⟨0, 2, none⟩ = some (.int .i64 1) := (HW.out.below (by omega) hbr) 2 (by decide)
      have hget : ns.getD 2 0 = n0 := by rw [hns.out]; simp
      have q := Lib.hid (put_ok n0 1 wr (by decide) (by decide) (by simp; omega))
      have hidx : ∀ W, (Instr.index 169 (.agg #[.int .i64 x0, .int .i64 x1, .int .i64 n0, .int .i64 x4, .int .i64 (x5 % 256), .int .i64 x3, .int .i64 x6, .int .i64 x7]) (.int .i64 2)).run Tryz.prog W = .ok (.int .i64 (n0 : Int)) W := fun W => by kernel_rfl
      have hspl := encTo_splice ns 2 (by decide)
      rw [hget, show offL.getD 2 0 = 13 from rfl, show widL.getD 2 0 = 1 from rfl] at hspl
      have Hspl := Lib.hid hspl
      clear hspl hget
      rw [show offL.getD 2 0 = 13 from rfl]
      go_wp2_with (go_at_call 118; refine q.out.mono ?_; rintro e w2 ⟨v2, rfl, hown2, hb2⟩)
      obtain ⟨A2, c2, rfl, hr2, _, _⟩ := own_shape hown2
      clear hown2
      rw [putL_length] at hr2
      have hblk2 := (hb2.block (g + 1 + 1 + 1) (by omega)).trans Hblk.out
      obtain ⟨W3, hrun3, hblk3, hbel3⟩ := bytes_run w2 (g + 1 + 1 + 1) 13 115 1 c2 _ A2 (putL n0 1) (encTo ns 2) 120 3 hblk2 hr2 (by decide) (by decide) (by rw [encTo_length ns 2 (by decide)]; decide)
      rw [Hspl.out] at hblk3
      have Hblk3 := Lib.hid hblk3
      have hb3 := hbel3 (g + 1 + 1 + 1) W1 (Nat.le_refl _) (hbr.trans (hb2.mono (by omega)))
      rw [putL_length]
      rw [hrun3]
      clear hblk2 hblk3 hbel3 hr2 hb2
      go_wp2_with fail
      go_roundw
      case rel => exact ⟨2 + 1, by decide, rfl, rfl, Hblk3, hb3⟩
      case measure => simp [intOf]
    case inr.inr.inr.inl =>
      obtain ⟨n0, rfl⟩ : ∃ n : Nat, x4 = (n : Int) := ⟨Int.toNat x4, by omega⟩
      have hwid : wr.cell? ⟨0, 3, none⟩ = some (.int .i64 1) := (HW.out.below (by omega) hbr) 3 (by decide)
      have hget : ns.getD 3 0 = n0 := by rw [hns.out]; simp
      have q := Lib.hid (put_ok n0 1 wr (by decide) (by decide) (by simp; omega))
      have hidx : ∀ W, (Instr.index 169 (.agg #[.int .i64 x0, .int .i64 x1, .int .i64 x2, .int .i64 n0, .int .i64 (x5 % 256), .int .i64 x3, .int .i64 x6, .int .i64 x7]) (.int .i64 3)).run Tryz.prog W = .ok (.int .i64 (n0 : Int)) W := fun W => by kernel_rfl
      have hspl := encTo_splice ns 3 (by decide)
      rw [hget, show offL.getD 3 0 = 14 from rfl, show widL.getD 3 0 = 1 from rfl] at hspl
      have Hspl := Lib.hid hspl
      clear hspl hget
      rw [show offL.getD 3 0 = 14 from rfl]
      go_wp2_with (go_at_call 118; refine q.out.mono ?_; rintro e w2 ⟨v2, rfl, hown2, hb2⟩)
      obtain ⟨A2, c2, rfl, hr2, _, _⟩ := own_shape hown2
      clear hown2
      rw [putL_length] at hr2
      have hblk2 := (hb2.block (g + 1 + 1 + 1) (by omega)).trans Hblk.out
      obtain ⟨W3, hrun3, hblk3, hbel3⟩ := bytes_run w2 (g + 1 + 1 + 1) 14 114 1 c2 _ A2 (putL n0 1) (encTo ns 3) 120 3 hblk2 hr2 (by decide) (by decide) (by rw [encTo_length ns 3 (by decide)]; decide)
      rw [Hspl.out] at hblk3
      have Hblk3 := Lib.hid hblk3
      have hb3 := hbel3 (g + 1 + 1 + 1) W1 (Nat.le_refl _) (hbr.trans (hb2.mono (by omega)))
      rw [putL_length]
      rw [hrun3]
      clear hblk2 hblk3 hbel3 hr2 hb2
      go_wp2_with fail
      go_roundw
      case rel => exact ⟨3 + 1, by decide, rfl, rfl, Hblk3, hb3⟩
      case measure => simp [intOf]
    case inr.inr.inr.inr.inl =>
      have hs0 : 0 ≤ x5 % 256 ∧ x5 % 256 < 256 := by omega
      generalize x5 % 256 = y at *
      obtain ⟨n0, rfl⟩ : ∃ n : Nat, y = (n : Int) := ⟨y.toNat, by omega⟩
      have hwid : wr.cell? ⟨0, 4, none⟩ = some (.int .i64 1) := (HW.out.below (by omega) hbr) 4 (by decide)
      have hget : ns.getD 4 0 = n0 := by rw [hns.out]; simp
      have q := Lib.hid (put_ok n0 1 wr (by decide) (by decide) (by simp; omega))
      have hidx : ∀ W, (Instr.index 169 (.agg #[.int .i64 x0, .int .i64 x1, .int .i64 x2, .int .i64 x4, .int .i64 n0, .int .i64 x3, .int .i64 x6, .int .i64 x7]) (.int .i64 4)).run Tryz.prog W = .ok (.int .i64 (n0 : Int)) W := fun W => by kernel_rfl
      have hspl := encTo_splice ns 4 (by decide)
      rw [hget, show offL.getD 4 0 = 15 from rfl, show widL.getD 4 0 = 1 from rfl] at hspl
      have Hspl := Lib.hid hspl
      clear hspl hget
      rw [show offL.getD 4 0 = 15 from rfl]
      go_wp2_with (go_at_call 118; refine q.out.mono ?_; rintro e w2 ⟨v2, rfl, hown2, hb2⟩)
      obtain ⟨A2, c2, rfl, hr2, _, _⟩ := own_shape hown2
      clear hown2
      rw [putL_length] at hr2
      have hblk2 := (hb2.block (g + 1 + 1 + 1) (by omega)).trans Hblk.out
      obtain ⟨W3, hrun3, hblk3, hbel3⟩ := bytes_run w2 (g + 1 + 1 + 1) 15 113 1 c2 _ A2 (putL n0 1) (encTo ns 4) 120 3 hblk2 hr2 (by decide) (by decide) (by rw [encTo_length ns 4 (by decide)]; decide)
      rw [Hspl.out] at hblk3
      have Hblk3 := Lib.hid hblk3
      have hb3 := hbel3 (g + 1 + 1 + 1) W1 (Nat.le_refl _) (hbr.trans (hb2.mono (by omega)))
      rw [putL_length]
      rw [hrun3]
      clear hblk2 hblk3 hbel3 hr2 hb2
      go_wp2_with fail
      go_roundw
      case rel => exact ⟨4 + 1, by decide, rfl, rfl, Hblk3, hb3⟩
      case measure => simp [intOf]
    case inr.inr.inr.inr.inr.inl =>
      obtain ⟨n0, rfl⟩ : ∃ n : Nat, x3 = (n : Int) := ⟨Int.toNat x3, by omega⟩
      have hwid : wr.cell? ⟨0, 5, none⟩ = some (.int .i64 4) := (HW.out.below (by omega) hbr) 5 (by decide)
      have hget : ns.getD 5 0 = n0 := by rw [hns.out]; simp
      have q := Lib.hid (put_ok n0 4 wr (by decide) (by decide) (by simp; omega))
      have hidx : ∀ W, (Instr.index 169 (.agg #[.int .i64 x0, .int .i64 x1, .int .i64 x2, .int .i64 x4, .int .i64 (x5 % 256), .int .i64 n0, .int .i64 x6, .int .i64 x7]) (.int .i64 5)).run Tryz.prog W = .ok (.int .i64 (n0 : Int)) W := fun W => by kernel_rfl
      have hspl := encTo_splice ns 5 (by decide)
      rw [hget, show offL.getD 5 0 = 16 from rfl, show widL.getD 5 0 = 4 from rfl] at hspl
      have Hspl := Lib.hid hspl
      clear hspl hget
      rw [show offL.getD 5 0 = 16 from rfl]
      go_wp2_with (go_at_call 118; refine q.out.mono ?_; rintro e w2 ⟨v2, rfl, hown2, hb2⟩)
      obtain ⟨A2, c2, rfl, hr2, _, _⟩ := own_shape hown2
      clear hown2
      rw [putL_length] at hr2
      have hblk2 := (hb2.block (g + 1 + 1 + 1) (by omega)).trans Hblk.out
      obtain ⟨W3, hrun3, hblk3, hbel3⟩ := bytes_run w2 (g + 1 + 1 + 1) 16 112 4 c2 _ A2 (putL n0 4) (encTo ns 5) 120 3 hblk2 hr2 (by decide) (by decide) (by rw [encTo_length ns 5 (by decide)]; decide)
      rw [Hspl.out] at hblk3
      have Hblk3 := Lib.hid hblk3
      have hb3 := hbel3 (g + 1 + 1 + 1) W1 (Nat.le_refl _) (hbr.trans (hb2.mono (by omega)))
      rw [putL_length]
      rw [hrun3]
      clear hblk2 hblk3 hbel3 hr2 hb2
      go_wp2_with fail
      go_roundw
      case rel => exact ⟨5 + 1, by decide, rfl, rfl, Hblk3, hb3⟩
      case measure => simp [intOf]
    case inr.inr.inr.inr.inr.inr.inl =>
      obtain ⟨n0, rfl⟩ : ∃ n : Nat, x6 = (n : Int) := ⟨Int.toNat x6, by omega⟩
      have hwid : wr.cell? ⟨0, 6, none⟩ = some (.int .i64 4) := (HW.out.below (by omega) hbr) 6 (by decide)
      have hget : ns.getD 6 0 = n0 := by rw [hns.out]; simp
      have q := Lib.hid (put_ok n0 4 wr (by decide) (by decide) (by simp; omega))
      have hidx : ∀ W, (Instr.index 169 (.agg #[.int .i64 x0, .int .i64 x1, .int .i64 x2, .int .i64 x4, .int .i64 (x5 % 256), .int .i64 x3, .int .i64 n0, .int .i64 x7]) (.int .i64 6)).run Tryz.prog W = .ok (.int .i64 (n0 : Int)) W := fun W => by kernel_rfl
      have hspl := encTo_splice ns 6 (by decide)
      rw [hget, show offL.getD 6 0 = 20 from rfl, show widL.getD 6 0 = 4 from rfl] at hspl
      have Hspl := Lib.hid hspl
      clear hspl hget
      rw [show offL.getD 6 0 = 20 from rfl]
      go_wp2_with (go_at_call 118; refine q.out.mono ?_; rintro e w2 ⟨v2, rfl, hown2, hb2⟩)
      obtain ⟨A2, c2, rfl, hr2, _, _⟩ := own_shape hown2
      clear hown2
      rw [putL_length] at hr2
      have hblk2 := (hb2.block (g + 1 + 1 + 1) (by omega)).trans Hblk.out
      obtain ⟨W3, hrun3, hblk3, hbel3⟩ := bytes_run w2 (g + 1 + 1 + 1) 20 108 4 c2 _ A2 (putL n0 4) (encTo ns 6) 120 3 hblk2 hr2 (by decide) (by decide) (by rw [encTo_length ns 6 (by decide)]; decide)
      rw [Hspl.out] at hblk3
      have Hblk3 := Lib.hid hblk3
      have hb3 := hbel3 (g + 1 + 1 + 1) W1 (Nat.le_refl _) (hbr.trans (hb2.mono (by omega)))
      rw [putL_length]
      rw [hrun3]
      clear hblk2 hblk3 hbel3 hr2 hb2
      go_wp2_with fail
      go_roundw
      case rel => exact ⟨6 + 1, by decide, rfl, rfl, Hblk3, hb3⟩
      case measure => simp [intOf]
    case inr.inr.inr.inr.inr.inr.inr.inl =>
      obtain ⟨n0, rfl⟩ : ∃ n : Nat, x7 = (n : Int) := ⟨Int.toNat x7, by omega⟩
      have hwid : wr.cell? ⟨0, 7, none⟩ = some (.int .i64 4) := (HW.out.below (by omega) hbr) 7 (by decide)
      have hget : ns.getD 7 0 = n0 := by rw [hns.out]; simp
      have q := Lib.hid (put_ok n0 4 wr (by decide) (by decide) (by simp; omega))
      have hidx : ∀ W, (Instr.index 169 (.agg #[.int .i64 x0, .int .i64 x1, .int .i64 x2, .int .i64 x4, .int .i64 (x5 % 256), .int .i64 x3, .int .i64 x6, .int .i64 n0]) (.int .i64 7)).run Tryz.prog W = .ok (.int .i64 (n0 : Int)) W := fun W => by kernel_rfl
      have hspl := encTo_splice ns 7 (by decide)
      rw [hget, show offL.getD 7 0 = 24 from rfl, show widL.getD 7 0 = 4 from rfl] at hspl
      have Hspl := Lib.hid hspl
      clear hspl hget
      rw [show offL.getD 7 0 = 24 from rfl]
      go_wp2_with (go_at_call 118; refine q.out.mono ?_; rintro e w2 ⟨v2, rfl, hown2, hb2⟩)
      obtain ⟨A2, c2, rfl, hr2, _, _⟩ := own_shape hown2
      clear hown2
      rw [putL_length] at hr2
      have hblk2 := (hb2.block (g + 1 + 1 + 1) (by omega)).trans Hblk.out
      obtain ⟨W3, hrun3, hblk3, hbel3⟩ := bytes_run w2 (g + 1 + 1 + 1) 24 104 4 c2 _ A2 (putL n0 4) (encTo ns 7) 120 3 hblk2 hr2 (by decide) (by decide) (by rw [encTo_length ns 7 (by decide)]; decide)
      rw [Hspl.out] at hblk3
      have Hblk3 := Lib.hid hblk3
      have hb3 := hbel3 (g + 1 + 1 + 1) W1 (Nat.le_refl _) (hbr.trans (hb2.mono (by omega)))
      rw [putL_length]
      rw [hrun3]
      clear hblk2 hblk3 hbel3 hr2 hb2
      go_wp2_with fail
      go_roundw
      case rel => exact ⟨7 + 1, by decide, rfl, rfl, Hblk3, hb3⟩
      case measure => simp [intOf]
    case inr.inr.inr.inr.inr.inr.inr.inr =>
      have hl8 := encTo_length ns 8 (by decide)
      have hsm : Small ((encTo ns 8).take 124) := (encTo_small ns 8).take 124
      have hrd : Reads wr wr.heap.size (some ⟨g + 1 + 1 + 1, 0, none⟩) 124 (bts ((encTo ns 8).take 124)) := block_reads Hblk.out (by omega) hl8
      have q := Lib.hid (crc_any (some ⟨g + 1 + 1 + 1, 0, none⟩) 124 128 wr.heap.size ((encTo ns 8).take 124) 0 wr (by decide) hsm hrd (by decide) (HT.out.below (by omega) hbr))
      have q2 := Lib.hid (fun W => put_ok (Nums.sum 0 ((encTo ns 8).take 124)) 4 W (by decide) (by decide) (sum_lt hsm))
      have Henc := Lib.hid (show encL ns = (encTo ns 8).take 124 ++ putL (Nums.sum 0 ((encTo ns 8).take 124)) 4 from rfl)
      have hs32 := sum_lt hsm
      generalize Nums.sum 0 ((encTo ns 8).take 124) = S at *
      go_wp2_with (first
        | (go_at_call 119; refine q.out.mono ?_; rintro e w1 ⟨rfl, d, rfl⟩)
        | (go_at_call 118; refine (q2.out _).mono ?_; rintro e w2 ⟨v2, rfl, hown2, hb2⟩))
      obtain ⟨A2, c2, rfl, hr2, _, _⟩ := own_shape hown2
      clear hown2
      rw [putL_length] at hr2
      have hszd : (wr.drewN d).heap.size = wr.heap.size := rfl
      have hblk2 : w2.heap[g + 1 + 1 + 1]? = some (.cells (bts (encTo ns 8)).toArray 120 (0, 0)) := (hb2.block (g + 1 + 1 + 1) (by rw [hszd]; omega)).trans Hblk.out
      have hres2 : w2.heap[g + 1]? = some (.cells (List.replicate 128 (Value.int .u8 0)).toArray 120 (0, 0)) := (hb2.block (g + 1) (by rw [hszd]; omega)).trans ((hbr.block (g + 1) (by omega)).trans Hres.out)
      obtain ⟨W3, hrun3, hblk3, hbel3⟩ := bytes_run w2 (g + 1 + 1 + 1) 124 4 4 c2 _ A2 (putL S 4) (encTo ns 8) 120 3 hblk2 hr2 (by decide) (by decide) (by rw [hl8]; decide)
      rw [last_splice hl8 (putL_length _ _), ← Henc.out] at hblk3
      have hres3 := ((hbel3 (g + 1 + 1 + 1) w2 (Nat.le_refl _) (Below.refl _ _)).block (g + 1) (by omega)).trans hres2
      have hb4 : Below g w W3 := hbel3 g w (by omega) (Hb1.out.trans ((hbr.mono (by omega)).trans ((show Below g wr (wr.drewN d) from ⟨rfl, rfl, rfl, Nat.le_refl _, fun _ _ => rfl⟩).trans (hb2.mono (by rw [hszd]; omega)))))
      have hle : (encL ns).length = 128 := by rw [Henc.out, List.length_append, List.length_take, hl8, putL_length]; rfl
      have hload := load_run hblk3 hle
      rw [putL_length]
      rw [hrun3]
      clear hblk2 hbel3 hr2 hb2 hres2 Henc hl8 hsm hrd q q2
      have hs128 : (bts (encL ns)).toArray.size = 128 := by rw [List.size_toArray, bts_length, hle]
      have hi61 : (Tryz.prog.info? 120).map (·.size) = some (bts (encL ns)).toArray.size := by rw [hs128]; exact info_block
      have hone : (bts (encL ns)).toArray.all (·.oneCell') = true := Array.all_eq_true_iff_forall_mem.2 (fun v hv => bts_one _ v (by simpa using hv))
      have hold : (List.replicate 128 (Value.int .u8 0)).toArray.size = (bts (encL ns)).toArray.size := by rw [hs128]; simp only [List.size_toArray, List.length_replicate]
      have hb5 := below_setRow (g := g + 1) hb4 (by omega) (bts (encL ns)).toArray
      have hfin := setRow_heap W3 (g + 1) _ (bts (encL ns)).toArray 120 (0, 0) hres3
      have hlv := run_loadVar_row (P := Tryz.prog) (W3.setRow (g + 1) (bts (encL ns)).toArray) (g + 1) 120 120 (bts (encL ns)).toArray (0, 0) _ hfin Tryz.underlying120 rfl hi61
      clear hload hle
      go_wp2_with (first
        | (with_reducible refine wpList_load_row rfl 120 (.tmp 5) rfl (g + 1 + 1 + 1) rfl 120 _ (0, 0) _ hblk3 Tryz.underlying120 rfl hi61 ?_)
        | (with_reducible refine wpList_store_row rfl 120 (.tmp 2) (.tmp 70) rfl (g + 1) _ rfl rfl 120 _ hres3 hi61 hold hone ?_))
      generalize W3.setRow (g + 1) (bts (encL ns)).toArray = W4 at *
      generalize (bts (encL ns)).toArray = cs at *
      refine bodyPost_ret (results_cell (g := g + 1) Tryz.results74 rfl hlv) rfl ?_
      exact ⟨rfl, by rw [Hgs.out]; exact hb5⟩
end Go.Proofs.YtplbgjjacomceaaGreatDoor.S
