/-
  The contracts of what a shelf asks ahead of a call: has it such a disk, such a sector; what does it refuse; and of what only tells (Dead, Off, Waits, Size, Count).
  Conditions: the shelf lies in memory as 'ShelfIs' says, or is nil.
-/
import Derived.Test.YtbkcdomapdflaaaHt
namespace Go.Proofs.Ytbkcdomapdflaaa.Sh
open Go.RowKit Go.Maps

section
variable {w : World} {p D : Nat} {S : Sf} {F : Nat → Prop} {gs : Nat → Gh}
theorem ShelfIs.c0 (h : ShelfIs w p S F D gs) : w.cell? ⟨p, 0, none⟩ = some (.bool S.off) := cell_of_row _ _ 0 _ _ _ h.root
theorem ShelfIs.c1 (h : ShelfIs w p S F D gs) : w.cell? ⟨p, 1, none⟩ = some (.int .i64 (S.left : Int)) := cell_of_row _ _ 1 _ _ _ h.root
theorem ShelfIs.c2 (h : ShelfIs w p S F D gs) : w.cell? ⟨p, 2, none⟩ = some (.slice (some ⟨D, 0, none⟩) S.disks.length S.disks.length) := cell_of_row _ _ 2 _ _ _ h.root
theorem ShelfIs.c3 (h : ShelfIs w p S F D gs) : w.cell? ⟨p, 3, none⟩ = some (.int .i64 (S.sectors : Int)) := cell_of_row _ _ 3 _ _ _ h.root
theorem ShelfIs.c4 (h : ShelfIs w p S F D gs) : w.cell? ⟨p, 4, none⟩ = some (.int .i64 S.count) := cell_of_row _ _ 4 _ _ _ h.root
theorem ShelfIs.free (h : ShelfIs w p S F D gs) (i : Nat) : w.frozen? ⟨p, i, none⟩ = false := frozen_of_row _ _ _ _ _ h.root
theorem ShelfIs.dc (h : ShelfIs w p S F D gs) {d c : Nat} (hd : d < S.disks.length) (hc : c < 4) : w.cell? ⟨D, d * 4 + c, none⟩ = some (diskV (gs d) (S.disks.getD d default).dead c) :=
  cell_at h.row (rowOf_at _ hd hc)
theorem ShelfIs.dfree (h : ShelfIs w p S F D gs) (i : Nat) : w.frozen? ⟨D, i, none⟩ = false := h.row.frozenAt i
theorem ShelfIs.diskOf (h : ShelfIs w p S F D gs) {d : Nat} (hd : d < S.disks.length) : DiskIs w S.sectors (gs d) (S.disks.getD d default) := by
  have e : S.disks[d]? = some (S.disks.getD d default) := by simp [List.getD, List.getElem?_eq_getElem hd]
  exact h.disk d _ e
end

def hasD (S : Sf) (d : Int) : Prop := 0 ≤ d ∧ d < S.disks.length
def hasS (S : Sf) (d n : Int) : Prop := 0 ≤ d ∧ d < S.disks.length ∧ 0 ≤ n ∧ n < S.sectors
/-- What a disk that there is refuses. -/
def why (S : Sf) (d : Nat) : Int := if S.off = true then 3 else if (S.disks.getD d default).dead = true then 4 else 0
section
variable {w : World} {p D : Nat} {S : Sf} {F : Nat → Prop} {gs : Nat → Gh} (h : ShelfIs w p S F D gs)
include h
theorem hasDisk_yes (d : Nat) (hd : d < S.disks.length) : Calls Try.prog 24 #[.pointer (some ⟨p, 0, none⟩), .int .i64 d] w fun e w' => e = .returned (.bool true) ∧ w = w' := by
  have c2 := h.c2
  have hm := h.most
  generalize S.disks.length = k at *
  clear h
  go_enter Try.func24, Try.ntmps24
  go_wp2
  go_ret
  exact ⟨rfl, rfl⟩
theorem hasDisk_no (d : Int) (hd : ¬ hasD S d) : Calls Try.prog 24 #[.pointer (some ⟨p, 0, none⟩), .int .i64 d] w fun e w' => e = .returned (.bool false) ∧ w = w' := by
  have c2 := h.c2
  have hm := h.most
  unfold hasD at hd
  generalize S.disks.length = k at *
  clear h
  by_cases h0 : d < 0
  · have hq : decide (0 ≤ d) = false := by simp; omega
    clear hd
    go_enter Try.func24, Try.ntmps24
    go_wp2
    go_ret
    exact ⟨rfl, rfl⟩
  · have hk : (k : Int) ≤ d := by omega
    have hq : decide (d < (k : Int)) = false := by simp; omega
    clear hd
    go_enter Try.func24, Try.ntmps24
    go_wp2
    go_ret
    exact ⟨rfl, rfl⟩
theorem hasSector_yes (d n : Nat) (hd : d < S.disks.length) (hn : n < S.sectors) : Calls Try.prog 21 #[.pointer (some ⟨p, 0, none⟩), .int .i64 d, .int .i64 n] w fun e w' => e = .returned (.bool true) ∧ w = w' := by
  have c3 := h.c3
  have hs := h.secM
  have hc := Lib.hid (hasDisk_yes h d hd)
  generalize S.sectors = k at *
  clear h
  go_enter Try.func21, Try.ntmps21
  go_wp2_with (go_at_call 24; refine hc.out.mono ?_; rintro e w' ⟨rfl, rfl⟩)
  go_ret
  exact ⟨rfl, rfl⟩
theorem hasSector_no (d n : Int) (hd : ¬ hasS S d n) : Calls Try.prog 21 #[.pointer (some ⟨p, 0, none⟩), .int .i64 d, .int .i64 n] w fun e w' => e = .returned (.bool false) ∧ w = w' := by
  have c3 := h.c3
  have hs := h.secM
  by_cases hD : hasD S d
  · obtain ⟨d, rfl⟩ : ∃ m : Nat, d = (m : Int) := ⟨d.toNat, by have := hD.1; omega⟩
    have hc := Lib.hid (hasDisk_yes h d (by have := hD.2; omega))
    have hn2 : n < 0 ∨ (0 ≤ n ∧ (S.sectors : Int) ≤ n) := by unfold hasS at hd; unfold hasD at hD; omega
    generalize S.sectors = k at *
    clear h hd hD
    rcases hn2 with h1 | ⟨h1, h2⟩
    · have hq : decide (0 ≤ n) = false := by simp; omega
      go_enter Try.func21, Try.ntmps21
      go_wp2_with (go_at_call 24; refine hc.out.mono ?_; rintro e w' ⟨rfl, rfl⟩)
      go_ret
      exact ⟨rfl, rfl⟩
    · have hq : decide (n < (k : Int)) = false := by simp; omega
      go_enter Try.func21, Try.ntmps21
      go_wp2_with (go_at_call 24; refine hc.out.mono ?_; rintro e w' ⟨rfl, rfl⟩)
      go_ret
      exact ⟨rfl, rfl⟩
  · have hc := Lib.hid (hasDisk_no h d hD)
    clear h hd
    go_enter Try.func21, Try.ntmps21
    go_wp2_with (go_at_call 24; refine hc.out.mono ?_; rintro e w' ⟨rfl, rfl⟩)
    go_ret
    exact ⟨rfl, rfl⟩
omit h in
theorem refusal_no (w : World) (p : Nat) (d : Int) : Calls Try.prog 20 #[.pointer (some ⟨p, 0, none⟩), .int .i64 d, .bool false] w fun e w' => e = .returned (.int .i64 1) ∧ w = w' := by
  go_enter Try.func20, Try.ntmps20
  go_wp2
  go_ret
  exact ⟨rfl, rfl⟩
def RefusedAs (S : Sf) (d : Nat) (w : World) (e : Ending) (w' : World) : Prop := e = .returned (.int .i64 (why S d)) ∧ w = w'
omit h in
theorem refusedAs {k : Int} {d : Nat} (hk : why S d = k) {w w' : World} (hw : w = w') : RefusedAs S d w (.returned (.int .i64 k)) w' := ⟨by rw [hk], hw⟩
theorem refusal_any (d : Nat) (hd : d < S.disks.length) : Calls Try.prog 20 #[.pointer (some ⟨p, 0, none⟩), .int .i64 d, .bool true] w (RefusedAs S d w) := by
  have c0 := h.c0
  have c2 := h.c2
  have c3 : w.cell? ⟨D, d * 4 + 3, none⟩ = some (.bool (S.disks.getD d default).dead) := h.dc hd (by decide)
  have hm := h.most
  clear h
  by_cases ho : S.off = true
  · have hw := Lib.hid (show why S d = 3 by unfold why; rw [if_pos ho])
    rw [ho] at c0
    generalize S.disks.length = k at *
    clear ho c3
    go_enter Try.func20, Try.ntmps20
    go_wp2
    go_ret
    exact refusedAs hw.out rfl
  · rw [Bool.not_eq_true] at ho
    by_cases hb : (S.disks.getD d default).dead = true
    · have hw := Lib.hid (show why S d = 4 by unfold why; rw [if_neg (by rw [ho]; decide), if_pos hb])
      rw [ho] at c0
      rw [hb] at c3
      generalize S.disks.length = k at *
      clear ho hb
      go_enter Try.func20, Try.ntmps20
      go_wp2
      go_ret
      exact refusedAs hw.out rfl
    · rw [Bool.not_eq_true] at hb
      have hw := Lib.hid (show why S d = 0 by unfold why; rw [if_neg (by rw [ho]; decide), if_neg (by rw [hb]; decide)])
      rw [ho] at c0
      rw [hb] at c3
      generalize S.disks.length = k at *
      clear ho hb
      go_enter Try.func20, Try.ntmps20
      go_wp2
      go_ret
      exact refusedAs hw.out rfl
theorem waits_no (d : Int) (hd : ¬ hasD S d) : Calls Try.prog 16 #[.pointer (some ⟨p, 0, none⟩), .int .i64 d] w fun e w' => e = .returned (.int .i64 0) ∧ w = w' := by
  have hc := Lib.hid (hasDisk_no h d hd)
  clear h
  go_enter Try.func16, Try.ntmps16
  go_wp2_with (go_at_call 24; refine hc.out.mono ?_; rintro e w' ⟨rfl, rfl⟩)
  go_ret
  exact ⟨rfl, rfl⟩
theorem waits_yes (d : Nat) (hd : d < S.disks.length) : Calls Try.prog 16 #[.pointer (some ⟨p, 0, none⟩), .int .i64 d] w fun e w' => e = .returned (.int .i64 ((S.disks.getD d default).waits.length : Int)) ∧ w = w' := by
  have hc := Lib.hid (hasDisk_yes h d hd)
  have c2 := h.c2
  have hm := h.most
  obtain ⟨A, c, hv⟩ := own_shape2 (h.diskOf hd).waits
  have c1 : w.cell? ⟨D, d * 4 + 1, none⟩ = some (gs d).v := h.dc hd (by decide)
  rw [hv] at c1
  clear h hv
  generalize S.disks.length = k at *
  generalize (S.disks.getD d default).waits.length = L at *
  go_enter Try.func16, Try.ntmps16
  go_wp2_with (go_at_call 24; refine hc.out.mono ?_; rintro e w' ⟨rfl, rfl⟩)
  go_ret
  exact ⟨rfl, rfl⟩
theorem dead_no (d : Int) (hd : ¬ hasD S d) : Calls Try.prog 40 #[.pointer (some ⟨p, 0, none⟩), .int .i64 d] w fun e w' => e = .returned (.bool false) ∧ w = w' := by
  have hc := Lib.hid (hasDisk_no h d hd)
  clear h
  go_enter Try.func40, Try.ntmps40
  go_wp2_with (go_at_call 24; refine hc.out.mono ?_; rintro e w' ⟨rfl, rfl⟩)
  go_ret
  exact ⟨rfl, rfl⟩
theorem dead_yes (d : Nat) (hd : d < S.disks.length) : Calls Try.prog 40 #[.pointer (some ⟨p, 0, none⟩), .int .i64 d] w fun e w' => e = .returned (.bool (S.disks.getD d default).dead) ∧ w = w' := by
  have hc := Lib.hid (hasDisk_yes h d hd)
  have c2 := h.c2
  have hm := h.most
  have c3 : w.cell? ⟨D, d * 4 + 3, none⟩ = some (.bool (S.disks.getD d default).dead) := h.dc hd (by decide)
  clear h
  generalize S.disks.length = k at *
  generalize (S.disks.getD d default).dead = b at *
  go_enter Try.func40, Try.ntmps40
  go_wp2_with (go_at_call 24; refine hc.out.mono ?_; rintro e w' ⟨rfl, rfl⟩)
  go_ret
  exact ⟨rfl, rfl⟩
theorem off_any : Calls Try.prog 38 #[.pointer (some ⟨p, 0, none⟩)] w fun e w' => e = .returned (.bool S.off) ∧ w = w' := by
  have c0 := h.c0
  generalize S.off = b at *
  clear h
  go_enter Try.func38, Try.ntmps38
  go_wp2
  go_ret
  exact ⟨rfl, rfl⟩
theorem count_any : Calls Try.prog 18 #[.pointer (some ⟨p, 0, none⟩)] w fun e w' => e = .returned (.int .i64 S.count) ∧ w = w' := by
  have c4 := h.c4
  generalize S.count = b at *
  clear h
  go_enter Try.func18, Try.ntmps18
  go_wp2
  go_ret
  exact ⟨rfl, rfl⟩
theorem size_any : Calls Try.prog 14 #[.pointer (some ⟨p, 0, none⟩)] w fun e w' => e = .returned (.tuple #[.int .i64 (S.disks.length : Int), .int .i64 (S.sectors : Int)]) ∧ ∃ n, w' = w.drewN n := by
  have c2 := h.c2
  have c3 := h.c3
  generalize S.disks.length = k at *
  generalize S.sectors = n at *
  clear h
  go_enter Try.func14, Try.ntmps14
  go_wp2
  go_quiet (fail)
  go_wp2
  go_ret2
  exact ⟨rfl, _, rfl⟩
end
end Go.Proofs.Ytbkcdomapdflaaa.Sh
