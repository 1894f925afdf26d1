/-
  A disk's blocks among other memory; the contract of their Flush.
  Conditions: each theorem's own.
-/
import Derived.Test.YtjdjpafnakhpcaaDoorUe
namespace Go.Proofs.YtjdjpafnakhpcaaDoor.U
open Go.RowKit Go.Maps

/-- A disk's blocks, and their shelf, that the call made: all of both lies from block B on. -/
structure Dv (B : Nat) (W w : World) (a p d : Nat) (o : Int) (S : Sh.Sf) (F : Nat → Prop) : Prop where
  on : Sh.At B W w p S F
  dev : DevIs w a p d o
  apart : ¬ F a
  low : B ≤ a
section
variable {B : Nat} {W w w' : World} {a p d : Nat} {o : Int} {S S' : Sh.Sf} {F : Nat → Prop}
theorem Dv.left (h : Dv B W w a p d o S F) (hl : Sh.Left F w p S' w') : ∃ F', Dv B W w' a p d o S' F' ∧ Sh.Moves F w F' w' := by
  obtain ⟨F', h1, hm⟩ := h.on.left hl
  refine ⟨F', ⟨h1, h.dev.same (hm.1.block a h.dev.lt h.apart), fun e => ?_, h.low⟩, hm⟩
  rcases hm.2 a e with e | e
  · exact h.apart e
  · exact Nat.lt_irrefl _ (Nat.lt_of_lt_of_le h.dev.lt e)
theorem Dv.grown (h : Dv B W w a p d o S F) (hb : Below w.heap.size w w') : Dv B W w' a p d o S F := ⟨h.on.grown hb, h.dev.same (hb.block a h.dev.lt), h.apart, h.low⟩
theorem Dv.put (h : Dv B W w a p d o S F) (o' : Int) : Dv B W (w.setCell ⟨a, 2, none⟩ (.int .i64 o')) a p d o' S F := by
  have hO : Sh.Only (fun b => b = a) w (w.setCell ⟨a, 2, none⟩ (.int .i64 o')) := Sh.Only.setCell (F := fun b => b = a) (p := ⟨a, 2, none⟩) (Sh.Only.refl _ w) (.inl (show a = a from rfl)) _
  refine ⟨⟨h.on.shelf.only hO (fun b hb e => h.apart (e ▸ hb)), h.on.low, h.on.bel.setCell (p := ⟨a, 2, none⟩) h.low _, by simpa using h.on.size⟩, ?_, h.apart, h.low⟩
  exact heap_setCell_same w a 2 _ _ _ h.dev
/-- The blocks that a disk's blocks and their shelf have. -/
def With (F : Nat → Prop) (a : Nat) (b : Nat) : Prop := F b ∨ b = a
/-- What a call leaves: the disk's blocks and their shelf; of what was there it wrote these alone. -/
def Goes (B : Nat) (W w w' : World) (a p d : Nat) (o : Int) (S : Sh.Sf) (F : Nat → Prop) : Prop := ∃ F', Dv B W w' a p d o S F' ∧ Sh.Moves (With F a) w (With F' a) w'
theorem Dv.goes (h : Dv B W w a p d o S F) (hl : Sh.Left F w p S' w') : Goes B W w w' a p d o S' F := by
  obtain ⟨F', D1, hm⟩ := h.left hl
  exact ⟨F', D1, hm.1.mono fun b hb => .inl hb, fun b hb => hb.elim (fun e => (hm.2 b e).imp .inl id) fun e => .inl (.inr e)⟩
theorem Dv.stays (h : Dv B W w a p d o S F) (hs : Sh.Shelf w' p S' F) (ho : Sh.Only F w w') : Dv B W w' a p d o S' F :=
  ⟨h.on.stays hs ho, h.dev.same (ho.block a h.dev.lt h.apart), h.apart, h.low⟩
theorem moves_below (h : Below w.heap.size w w') : Sh.Moves (With F a) w (With F a) w' := ⟨⟨h.os, h.tape, h.output, h.size, fun k hk _ => h.block k hk⟩, fun _ hb => .inl hb⟩
theorem moves_only (h : Sh.Only F w w') : Sh.Moves (With F a) w (With F a) w' := ⟨h.mono fun _ hb => .inl hb, fun _ hb => .inl hb⟩
theorem moves_put (o' : Int) : Sh.Moves (With F a) w (With F a) (w.setCell ⟨a, 2, none⟩ (.int .i64 o')) :=
  ⟨Sh.Only.setCell (p := ⟨a, 2, none⟩) (Sh.Only.refl _ w) (.inl (.inr (show a = a from rfl))) _, fun _ hb => .inl hb⟩
theorem moves_drew : Sh.Moves (With F a) w (With F a) w.drew := ⟨⟨rfl, rfl, rfl, Nat.le_refl _, fun _ _ _ => rfl⟩, fun _ hb => .inl hb⟩
theorem moves_drewN (k : Nat) : Sh.Moves (With F a) w (With F a) (w.drewN k) := ⟨⟨rfl, rfl, rfl, Nat.le_refl _, fun _ _ _ => rfl⟩, fun _ hb => .inl hb⟩
/-- Another disk's blocks, of the same shelf, over a call of the one's. -/
theorem Dv.other {a2 d2 : Nat} {o2 : Int} {F' : Nat → Prop} (h2 : Dv B W w a2 p d2 o2 S F) (hne : a2 ≠ a) (h : Dv B W w' a p d o S' F') (m : Sh.Moves (With F a) w (With F' a) w') : Dv B W w' a2 p d2 o2 S' F' := by
  have hn : ¬ With F a a2 := fun e => e.elim h2.apart hne
  refine ⟨h.on, h2.dev.same (m.1.block a2 h2.dev.lt hn), fun e => ?_, h2.low⟩
  rcases m.2 a2 (.inl e) with e | e
  · exact hn e
  · exact Nat.lt_irrefl _ (Nat.lt_of_lt_of_le h2.dev.lt e)
end
/-! ### what is done where it can be -/
/-- A write, if the disk can do it. -/
def Wr (S : Sh.Sf) (d n : Nat) (b : Sh.Bs) : Sh.Sf := if Sh.why S d = 0 then S.doWrite d n b else S
/-- A flush, if the disk can do it. -/
def Fl (S : Sh.Sf) (d : Nat) : Sh.Sf := if Sh.why S d = 0 then S.doFlush d else S
/-- Which block is open behind a flush that told y. -/
def shut (y o : Int) : Int := if y = 0 then -1 else o
section
variable {w : World} {p d n : Nat} {S : Sh.Sf} {F : Nat → Prop}
theorem wr_of (w : World) (p d n : Nat) (b : Sh.Bs) {A : Option Addr} {c : Nat} (h : Sh.Shelf w p S F) (hd : d < S.disks.length) (hn : n < S.sectors) (hL : ∀ k ∈ S.disks, k.waits.length < 1099511627776) (hb : Sh.Sec b) (hr : Sh.Reads w w.heap.size A 128 (Sh.bts b)) (hA : ∀ a, A = some a → ¬ F a.block) :
    Calls Tryd.prog 37 #[.pointer (some ⟨p, 0, none⟩), .int .i64 d, .int .i64 n, .slice A 128 c] w fun e w' => e = .returned (.int .i64 (Sh.why S d)) ∧ Sh.Left F w p (Wr S d n b) w' := by
  unfold Wr
  by_cases hw : Sh.why S d = 0
  · rw [if_pos hw, hw]
    exact Sh.write_done w p d n b h hd hn hw (hL _ (Sh.getD_mem hd)) hb hr hA
  · rw [if_neg hw]
    refine (Sh.write_why w p d n h hd hn hw).mono ?_
    rintro e w' ⟨rfl, rfl⟩
    exact ⟨rfl, Sh.left_here h⟩
theorem fl_of (w : World) (p d : Nat) (h : Sh.Shelf w p S F) (hd : d < S.disks.length) (hL : ∀ k ∈ S.disks, k.waits.length < 1099511627776) :
    Calls Tryd.prog 53 #[.pointer (some ⟨p, 0, none⟩), .int .i64 d] w fun e w' => e = .returned (.int .i64 (Sh.why S d)) ∧ Sh.Left F w p (Fl S d) w' := by
  unfold Fl
  by_cases hw : Sh.why S d = 0
  · rw [if_pos hw, hw]
    exact Sh.flush_done w p d h hd hw (hL _ (Sh.getD_mem hd))
  · rw [if_neg hw]
    refine (Sh.flush_why w p d h hd hw).mono ?_
    rintro e w' ⟨rfl, rfl⟩
    exact ⟨rfl, Sh.left_here h⟩
end
section
variable {B : Nat} {W w w' : World} {a p d : Nat} {o : Int} {S S' : Sh.Sf} {F : Nat → Prop}
theorem flush_dev (h : Dv B W w a p d o S F) (hd : d < S.disks.length) (hL : ∀ k ∈ S.disks, k.waits.length < 1099511627776) :
    Calls Tryd.prog 31 #[.pointer (some ⟨a, 0, none⟩)] w fun e w' => e = .returned (.int .i64 (Sh.why S d)) ∧ Goes B W w w' a p d (shut (Sh.why S d) o) (Fl S d) F := by
  have j0 := fun (W' : World) (h : DevIs W' a p d o) => h.c0
  have j1 := fun (W' : World) (h : DevIs W' a p d o) => h.c1
  have HD := Lib.hid (h.grown (w' := w.drew) ⟨rfl, rfl, rfl, Nat.le_refl _, fun _ _ => rfl⟩)
  have HFL := Lib.hid (fl_of w.drew p d HD.out.on.shelf hd hL)
  clear h
  generalize Fl S d = S' at *
  generalize Sh.why S d = y at *
  go_enter Tryd.func31, Tryd.ntmps31
  go_wp2_with fail
  refine wp_region_held_drew (S := fun (W' : World) => DevIs W' a p d o) (by kernel_rfl) (HD.out.dev) (fun hHeld => ?_)
  refine wpAnyH_take (i := 0) (oi := ⟨some 6, _, _, _, _, _⟩) (v := ?_) rfl (by kernel_rfl) (by kernel_rfl) (by kernel_rfl) (fun _ _ _ h => h) (Or.inl ⟨by rfl, ?_⟩) (by assumption) ?_
  rotate_left
  · (intro w hSw; (try dsimp only at hSw); go_simp; first | done | with_reducible rfl)
  try simp only [Act.put, List.setIfInBounds_toArray, List.set_cons_zero, List.set_cons_succ]
  refine wpAnyH_take (i := 1) (oi := ⟨some 7, _, _, _, _, _⟩) (v := ?_) rfl (by kernel_rfl) (by kernel_rfl) (by kernel_rfl) (fun _ _ _ h => h) (Or.inl ⟨by rfl, ?_⟩) (by assumption) ?_
  rotate_left
  · (intro w hSw; (try dsimp only at hSw); go_simp; first | done | with_reducible rfl)
  try simp only [Act.put, List.setIfInBounds_toArray, List.set_cons_zero, List.set_cons_succ]
  refine wpAnyH_take (i := 2) (oi := ⟨some 8, _, _, _, _, _⟩) (v := ?_) rfl (by kernel_rfl) (by kernel_rfl) (by kernel_rfl) (fun _ _ _ h => h) (Or.inl ⟨by rfl, ?_⟩) (by assumption) ?_
  rotate_left
  · (intro w hSw; (try dsimp only at hSw); go_simp; first | done | with_reducible rfl)
  try simp only [Act.put, List.setIfInBounds_toArray, List.set_cons_zero, List.set_cons_succ]
  refine wpAnyH_take (i := 3) (oi := ⟨some 9, _, _, _, _, _⟩) (v := ?_) rfl (by kernel_rfl) (by kernel_rfl) (by kernel_rfl) (fun _ _ _ h => h) (Or.inl ⟨by rfl, ?_⟩) (by assumption) ?_
  rotate_left
  · (intro w hSw; (try dsimp only at hSw); go_simp; first | done | with_reducible rfl)
  try simp only [Act.put, List.setIfInBounds_toArray, List.set_cons_zero, List.set_cons_succ]
  refine wpAnyH_take (i := 4) (oi := ⟨some 10, _, _, _, _, _⟩) (v := ?_) rfl (by kernel_rfl) (by kernel_rfl) (by kernel_rfl) (fun _ _ _ h => h) (Or.inl ⟨by rfl, ?_⟩) (by assumption) ?_
  rotate_left
  · (intro w hSw; (try dsimp only at hSw); go_simp; first | done | with_reducible rfl)
  try simp only [Act.put, List.setIfInBounds_toArray, List.set_cons_zero, List.set_cons_succ]
  refine wpAnyH_take (i := 5) (oi := ⟨some 11, _, _, _, _, _⟩) (v := ?_) rfl (by kernel_rfl) (by kernel_rfl) (by kernel_rfl) (fun _ _ _ h => h) (Or.inl ⟨by rfl, ?_⟩) (by assumption) ?_
  rotate_left
  · (intro w hSw; (try dsimp only at hSw); go_simp; first | done | with_reducible rfl)
  try simp only [Act.put, List.setIfInBounds_toArray, List.set_cons_zero, List.set_cons_succ]
  refine wpAnyH_take (i := 6) (oi := ⟨some 12, _, _, _, _, _⟩) (v := ?_) rfl (by kernel_rfl) (by kernel_rfl) (by kernel_rfl) (fun _ _ _ h => h) (Or.inl ⟨by rfl, ?_⟩) (by assumption) ?_
  rotate_left
  · (intro w hSw; (try dsimp only at hSw); go_simp; first | done | with_reducible rfl)
  try simp only [Act.put, List.setIfInBounds_toArray, List.set_cons_zero, List.set_cons_succ]
  refine wpAnyH_take (i := 7) (oi := ⟨some 13, _, _, _, _, _⟩) (v := ?_) rfl (by kernel_rfl) (by kernel_rfl) (by kernel_rfl) (fun _ _ _ h => h) (Or.inl ⟨by rfl, ?_⟩) (by assumption) ?_
  rotate_left
  · (intro w hSw; (try dsimp only at hSw); go_simp; first | done | with_reducible rfl)
  try simp only [Act.put, List.setIfInBounds_toArray, List.set_cons_zero, List.set_cons_succ]
  refine wpAnyH_take (i := 8) (oi := ⟨some 14, _, _, _, _, _⟩) (v := ?_) rfl (by kernel_rfl) (by kernel_rfl) (by kernel_rfl) (fun _ _ _ h => h) (Or.inl ⟨by rfl, ?_⟩) (by assumption) ?_
  rotate_left
  · (intro w hSw; (try dsimp only at hSw); go_simp; first | done | with_reducible rfl)
  try simp only [Act.put, List.setIfInBounds_toArray, List.set_cons_zero, List.set_cons_succ]
  refine wpAnyH_take (i := 9) (oi := ⟨some 15, _, _, _, _, _⟩) (v := ?_) rfl (by kernel_rfl) (by kernel_rfl) (by kernel_rfl) (fun _ _ _ h => h) (Or.inl ⟨by rfl, ?_⟩) (by assumption) ?_
  rotate_left
  · (intro w hSw; (try dsimp only at hSw); go_simp; first | done | with_reducible rfl)
  try simp only [Act.put, List.setIfInBounds_toArray, List.set_cons_zero, List.set_cons_succ]
  refine wpAnyH_ready (rs := [10]) (by kernel_rfl) (by simp) ?_
  refine AllReadyH.cons (o := ⟨some 16, _, _, _, _, _⟩) rfl (fun K hK => ?_) AllReadyH.nil
  go_simp
  refine HFL.out.mono ?_
  rintro e w1 ⟨rfl, hl⟩
  refine hK.out _ _ ((by obtain ⟨F', D1, _⟩ := HD.out.left hl; exact D1.dev)) (fun hHeld => ?_)
  clear hK K
  try simp only [Act.put, List.setIfInBounds_toArray, List.set_cons_zero, List.set_cons_succ]
  refine wpAnyH_take (i := 11) (oi := ⟨some 3, _, _, _, _, _⟩) (v := ?_) rfl (by kernel_rfl) (by kernel_rfl) (by kernel_rfl) (fun _ _ _ h => h) (Or.inl ⟨by rfl, ?_⟩) (by assumption) ?_
  rotate_left
  · (intro w hSw; (try dsimp only at hSw); go_simp; first | done | with_reducible rfl)
  try simp only [Act.put, List.setIfInBounds_toArray, List.set_cons_zero, List.set_cons_succ]
  refine wpAnyH_done (by kernel_rfl) ?_ _
  obtain ⟨F', D1, M1⟩ := HD.out.goes hl
  have M2 := Lib.hid ((moves_drew (F := F) (a := a) (w := w)).trans M1)
  have k2 := D1.dev.c2
  have f2 := D1.dev.free 2
  by_cases hy : y = 0
  · subst hy
    have D2 := Lib.hid (D1.put (-1))
    have M3 := Lib.hid (M2.out.trans (moves_put (F := F') (-1)))
    clear D1 M1
    go_wp2
    go_ret
    exact ⟨rfl, F', D2.out, M3.out⟩
  · have hq : (y == 0) = false := by rw [beq_eq_false_iff_ne]; exact hy
    clear M1
    go_wp2
    go_ret
    exact ⟨rfl, F', by rw [show shut y o = o from if_neg hy]; exact D1, M2.out⟩
end
end Go.Proofs.YtjdjpafnakhpcaaDoor.U
