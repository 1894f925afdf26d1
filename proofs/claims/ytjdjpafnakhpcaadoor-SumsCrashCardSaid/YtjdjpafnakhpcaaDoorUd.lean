/-
  A disk's blocks: the contracts of Open, of how many blocks there are, of whether there is one, and of Dead.
  Conditions: each theorem's own.
-/
import Derived.Test.YtjdjpafnakhpcaaDoorUc
namespace Go.Proofs.YtjdjpafnakhpcaaDoor.U
open Go.RowKit Go.Maps

/-- A disk's blocks lie in block a: of the shelf in block p the disk d; o is open. -/
def DevIs (w : World) (a p : Nat) (d o : Int) : Prop := w.heap[a]? = some (.cells #[.pointer (some ⟨p, 0, none⟩), .int .i64 d, .int .i64 o] 105 (0, 0))
section
variable {w : World} {a p : Nat} {d o : Int}
theorem DevIs.c0 (h : DevIs w a p d o) : w.cell? ⟨a, 0, none⟩ = some (.pointer (some ⟨p, 0, none⟩)) := cell_of_row _ _ 0 _ _ _ h
theorem DevIs.c1 (h : DevIs w a p d o) : w.cell? ⟨a, 1, none⟩ = some (.int .i64 d) := cell_of_row _ _ 1 _ _ _ h
theorem DevIs.c2 (h : DevIs w a p d o) : w.cell? ⟨a, 2, none⟩ = some (.int .i64 o) := cell_of_row _ _ 2 _ _ _ h
theorem DevIs.free (h : DevIs w a p d o) (i : Nat) : w.frozen? ⟨a, i, none⟩ = false := frozen_of_row _ _ _ _ _ h
theorem DevIs.lt (h : DevIs w a p d o) : a < w.heap.size := (Array.getElem?_eq_some_iff.1 h).1
theorem DevIs.same {w' : World} (h : DevIs w a p d o) (hk : w'.heap[a]? = w.heap[a]?) : DevIs w' a p d o := hk.trans h
end
section
variable {w : World} {a p : Nat} {d o : Int} {S : Sh.Sf} {F : Nat → Prop}
theorem size_of (h : Sh.Shelf w p S F) : Calls Tryd.prog 58 #[.pointer (some ⟨p, 0, none⟩)] w fun e w' => e = .returned (.tuple #[.int .i64 (S.disks.length : Int), .int .i64 (S.sectors : Int)]) ∧ ∃ n, w' = w.drewN n := by
  obtain ⟨D, gs, s⟩ := h
  exact Sh.size_any s
theorem open_yes (d : Nat) (h : Sh.Shelf w p S F) (hd : d < S.disks.length) :
    Calls Tryd.prog 26 #[.pointer (some ⟨p, 0, none⟩), .int .i64 d] w fun e w' => e = .returned (.tuple #[.pointer (some ⟨w.heap.size, 0, none⟩), .int .i64 0]) ∧ DevIs w' w.heap.size p d (-1) ∧ Below w.heap.size w w' := by
  have hs := Lib.hid (size_of h)
  have hb : ((S.disks.length : Int) ≤ (d : Int)) = False := by simp; omega
  generalize S.disks.length = k at *
  go_enter Tryd.func26, Tryd.ntmps26
  go_wp2_with fail
  refine hs.out.mono ?_
  rintro e w' ⟨rfl, m, rfl⟩
  go_wp2
  go_ret2
  refine ⟨rfl, ?_, ?_⟩
  · have := heap_alloc_new (w.drewN m) (.cells #[.pointer (some ⟨p, 0, none⟩), .int .i64 d, .int .i64 (-1)] 105)
    exact this
  · exact (drawn (Below.refl _ w) m).alloc (Nat.le_refl _) _
theorem open_no (d : Int) (h : Sh.Shelf w p S F) (hd : d < 0 ∨ (0 ≤ d ∧ (S.disks.length : Int) ≤ d)) :
    Calls Tryd.prog 26 #[.pointer (some ⟨p, 0, none⟩), .int .i64 d] w fun e w' => e = .returned (.tuple #[.pointer none, .int .i64 1]) ∧ Below w.heap.size w w' := by
  have hs := Lib.hid (size_of h)
  generalize S.disks.length = k at *
  rcases hd with hd | ⟨hd, hd2⟩
  all_goals
    go_enter Tryd.func26, Tryd.ntmps26
    go_wp2_with fail
    refine hs.out.mono ?_
    rintro e w' ⟨rfl, m, rfl⟩
    go_wp2
    go_ret2
    exact ⟨rfl, drawn (Below.refl _ w) m⟩
theorem count_of (h : DevIs w a p d o) (hs : Sh.Shelf w p S F) (hS : S.sectors ≤ 4096) :
    Calls Tryd.prog 28 #[.pointer (some ⟨a, 0, none⟩)] w fun e w' => e = .returned (.int .i64 ((blk S.sectors : Nat) : Int)) ∧ ∃ n, w' = w.drewN n := by
  have hz := Lib.hid (size_of hs)
  have hb := Lib.hid (fun w => blocks_pos S.sectors (by omega) w)
  have c0 := h.c0
  generalize S.sectors = k at *
  clear h hs
  go_enter Tryd.func28, Tryd.ntmps28
  go_wp2_with fail
  refine hz.out.mono ?_
  rintro e w' ⟨rfl, m, rfl⟩
  go_wp2_with fail
  refine (hb.out _).mono ?_
  rintro e w' ⟨rfl, rfl⟩
  go_wp2
  go_ret
  exact ⟨rfl, m, rfl⟩
theorem has_yes (k : Nat) (h : DevIs w a p d o) (hs : Sh.Shelf w p S F) (hS : S.sectors ≤ 4096) (hk : k < blk S.sectors) :
    Calls Tryd.prog 60 #[.pointer (some ⟨a, 0, none⟩), .int .i64 k] w fun e w' => e = .returned (.bool true) ∧ ∃ n, w' = w.drewN n := by
  have hz := Lib.hid (count_of h hs hS)
  clear h hs
  generalize blk S.sectors = b at *
  go_enter Tryd.func60, Tryd.ntmps60
  go_wp2_with (go_at_call 28; refine hz.out.mono ?_; rintro e w' ⟨rfl, m, rfl⟩)
  go_ret
  exact ⟨rfl, m, rfl⟩
theorem has_no (k : Int) (h : DevIs w a p d o) (hs : Sh.Shelf w p S F) (hS : S.sectors ≤ 4096) (hk : k < 0 ∨ (0 ≤ k ∧ ((blk S.sectors : Nat) : Int) ≤ k)) :
    Calls Tryd.prog 60 #[.pointer (some ⟨a, 0, none⟩), .int .i64 k] w fun e w' => e = .returned (.bool false) ∧ ∃ n, w' = w.drewN n := by
  have hz := Lib.hid (count_of h hs hS)
  clear h hs
  generalize blk S.sectors = b at *
  rcases hk with hk | ⟨hk, hk2⟩
  · go_enter Tryd.func60, Tryd.ntmps60
    go_wp2
    go_ret
    exact ⟨rfl, 0, rfl⟩
  · have hq : decide (k < (b : Int)) = false := by simp; omega
    go_enter Tryd.func60, Tryd.ntmps60
    go_wp2_with (go_at_call 28; refine hz.out.mono ?_; rintro e w' ⟨rfl, m, rfl⟩)
    go_ret
    exact ⟨rfl, m, rfl⟩
end
end Go.Proofs.YtjdjpafnakhpcaaDoor.U
