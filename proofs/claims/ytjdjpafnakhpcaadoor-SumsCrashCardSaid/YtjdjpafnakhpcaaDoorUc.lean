/-
  The sum of a block's bytes: the contracts of the definition's four and Sum.
  Conditions: the bytes are few enough for one text of all (8 more than they are, at most 2^47).
-/
import Derived.Test.YtjdjpafnakhpcaaDoorUb
namespace Go.Proofs.YtjdjpafnakhpcaaDoor.U
open Go.RowKit Go.Maps

theorem four_any (z : Int) (w : World) :
    Calls Tryd.prog 56 #[.int .i64 z] w fun e w' => ∃ v, e = .returned v ∧ w'.ownsRow w.heap.size 5 1 v 4 (bts (putL (w32 z) 4)) ∧ Below w.heap.size w w' := by
  have e1 := (w32_cast z).symm
  have l1 := w32_lt z
  generalize w32 z = d at *
  have hp := refPut_any d 4 w (by decide) (by decide) (by omega)
  have hp2 := Lib.hid (hp.mono fun e w' h => show RefMade (putL d 4) w e w' by unfold PutRef at h; rw [if_pos (by omega)] at h; exact h)
  clear hp
  go_enter Tryd.func56, Tryd.ntmps56
  go_wp2_with fail
  refine hp2.out.mono ?_
  rintro e w' ⟨v, rfl, hown, hb⟩
  rw [putL_length] at hown
  go_wp2
  go_ret
  exact ⟨v, rfl, hown, hb⟩
set_option maxRecDepth 20000 in
set_option maxHeartbeats 800000 in
theorem refSum_any (disk block : Int) (A : Option Addr) (n c : Nat) (l : List Nat) (w : World) (hl : Small l) (hr : Reads w w.heap.size A n (bts l)) (hn : n + 8 ≤ 140737488355328) :
    Calls Tryd.prog 24 #[.int .i64 disk, .int .i64 block, .slice A n c] w fun e w' => e = .returned (.int .u32 ((sumL disk block l : Nat) : Int)) ∧ Below w.heap.size w w' := by
  obtain ⟨i0, hi, hz0, hz1, hz2⟩ := info_parts info_u8
  have HX := Lib.hid (show Nums.sum 0 ((putL (w32 disk) 4 ++ putL (w32 block) 4) ++ l) = sumL disk block l by rw [Nums.sum_append, Nums.sum_append]; rfl)
  have q1 := putL_small (w32 disk) 4
  have q2 := putL_small (w32 block) 4
  have hf1 := Lib.hid (four_any disk)
  have hf2 := Lib.hid (four_any block)
  generalize sumL disk block l = res at *
  generalize putL (w32 disk) 4 = d at *
  generalize putL (w32 block) 4 = k at *
  go_enter Tryd.func24, Tryd.ntmps24
  go_wp2_with fail
  refine (hf1.out w).mono ?_
  rintro e w1 ⟨v1, rfl, o1, b1⟩
  obtain ⟨A1, c1, rfl, r1, _⟩ := own_shape o1
  go_wp2_with fail
  refine (hf2.out w1).mono ?_
  rintro e w2 ⟨v2, rfl, o2, b2⟩
  obtain ⟨A2, c2, rfl, r2, _⟩ := own_shape o2
  have o1' := Sh.same_row o1 (w' := w2) fun b hb => b2.block b (o1.lt b hb).2
  have bb2 := b1.trans (b2.mono b1.size)
  clear o1 o2 b1 b2 r1
  go_wp2_with (first
    | (at_builtin; refine appendAll _ rfl (.tmp 9) (.tmp 11) 28 rfl w.heap.size 5 i0 (.int .u8 0) 1 Tryd.underlying28 hi hz0 hz1 hz2 rfl (.slice A1 4 c1) 4 (bts d) rfl (by exact o1') w2.heap.size A2 4 c2 (bts k) rfl (by exact r2) (bts_one k) (by unfold maxLen; omega) (by omega) w (by exact bb2) bb2.size ?_; intro v3 w3 o3 _ bb3)
    | (at_builtin; refine appendAll _ rfl (.tmp 13) (.tmp 14) 28 rfl w.heap.size 5 i0 (.int .u8 0) 1 Tryd.underlying28 hi hz0 hz1 hz2 rfl v3 (4 + 4) (bts d ++ bts k) rfl (by exact o3) w.heap.size A n c (bts l) rfl (hr.below bb3) (bts_one l) (by unfold maxLen; omega) (by omega) w (by exact bb3) bb3.size ?_; intro v4 w4 o4 _ bb4))
  obtain ⟨A4, c4, rfl, r4, _⟩ := own_shape o4
  rw [← bts_append, ← bts_append] at r4
  go_wp2_with fail
  refine (refCrc_any A4 (4 + 4 + n) c4 w4.heap.size ((d ++ k) ++ l) 0 w4 (by decide) (fun y hy => (List.mem_append.1 hy).elim (fun h => (List.mem_append.1 h).elim (q1 y) (q2 y)) (hl y)) r4 (by unfold maxLen; omega)).mono ?_
  rintro e w5 ⟨rfl, rfl⟩
  rw [HX.out]
  go_wp2
  go_ret
  exact ⟨rfl, bb4⟩
end Go.Proofs.YtjdjpafnakhpcaaDoor.U
