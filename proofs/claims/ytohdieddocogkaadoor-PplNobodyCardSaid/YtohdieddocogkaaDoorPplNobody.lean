/-
  PplNobody is true for every slot, record, and number of slots and sectors: a nil log refuses all, and logs that may not be are not opened.
  Conditions: none of its own; the tables hold what the program's text lays (the card ties that).
-/
import Derived.Test.YtohdieddocogkaaDoorQo
namespace Go.Proofs.YtohdieddocogkaaDoor.U.pplNobody
open Go.ChangeShapes Go.WideShapes Go.ChangeAt Go.RowKit Go.Maps

set_option maxRecDepth 20000 in
set_option maxHeartbeats 4000000 in
theorem walk_pA {w : World} (slot : Int) (s q : Int) (A : Option Addr) (n c : Nat) (sec : Int) (N : Nat) (hN : N < 40) (ht : sec.tmod 40 = (N : Int)) (sl : Int) (hsl : sl < 1) (hA : All w) :
    Calls Tryd.prog 9 #[.int .i64 slot, .agg #[.int .i64 s, .int .i64 q, .slice A n c], .int .i64 sl, .int .i64 sec] w fun e w' => e = .returned (.bool true) ∧ Below w.heap.size w w' := by
  have hb0 : Below w.heap.size w (w.alloc (.cells #[.int .i64 s, .int .i64 q, .slice A n c] 24)) := (Below.refl _ _).alloc (Nat.le_refl _) _
  have r0 := heap_alloc_new w (.cells #[.int .i64 s, .int .i64 q, .slice A n c] 24)
  have z0 : w.heap.size < (w.alloc (.cells #[.int .i64 s, .int .i64 q, .slice A n c] 24)).heap.size := by simp
  go_enter Tryd.func9, Tryd.ntmps9
  go_wp2_with fail
  generalize w.alloc (.cells #[.int .i64 s, .int .i64 q, .slice A n c] 24) = W0 at *
  refine (get_nil slot W0).mono ?_
  rintro e w1 ⟨rfl, b1⟩
  have b2 : Below w1.heap.size w1 (w1.alloc (.cells #[.int .i64 0, .int .i64 0, .slice none 0 0] 24)) := (Below.refl _ _).alloc (Nat.le_refl _) _
  have z1 := Nat.lt_of_lt_of_le z0 b1.size
  have R2 := Lib.hid ((b2.block w.heap.size z1).trans ((b1.block w.heap.size z0).trans r0))
  have T2 := Lib.hid (heap_alloc_new w1 (.cells #[.int .i64 0, .int .i64 0, .slice none 0 0] 24))
  have HB2 := Lib.hid ((hb0.trans (b1.mono (Nat.le_of_lt z0))).trans (b2.mono (Nat.le_of_lt z1)))
  have HZ2 := Lib.hid (show w1.heap.size < (w1.alloc (.cells #[.int .i64 0, .int .i64 0, .slice none 0 0] 24)).heap.size by simp)
  have HZ1 := Lib.hid z1
  clear r0 b1 b2 hb0 z0 z1
  obtain ⟨M, hM⟩ : ∃ M, M = N + 1 := ⟨_, rfl⟩
  have e1 : (N : Int) + 1 = (M : Int) := by omega
  have HM := Lib.hid hM
  have HMb := Lib.hid (show 1 ≤ M ∧ M ≤ 40 by omega)
  clear hM
  have n1 : decide ((N : Int) < 0) = false := by simp
  have q1 : decide (1 ≤ sl) = false := by simp; omega
  have HBM := Lib.hid (blocks_pos M (by have := HMb.out.2; omega))
  go_wp2_with fail
  generalize w1.alloc (.cells #[.int .i64 0, .int .i64 0, .slice none 0 0] 24) = W2 at *
  refine (Sh.new_ok 1 M W2 (by decide) (by decide) HMb.out.1 (by have := HMb.out.2; omega)).mono ?_
  rintro e w3 ⟨p, F1, rfl, hS, _, b3⟩
  have HO := Lib.hid (open_yes 0 hS (by show 0 < (List.replicate 1 (Sh.newDk M)).length; rw [List.length_replicate]; decide))
  have hb3 := HB2.out.trans (b3.mono HB2.out.size)
  have HS := Lib.hid hS
  clear hS
  go_wp2_with fail
  refine HO.out.mono ?_
  rintro e w4 ⟨rfl, hd, b4⟩
  have D4 := Lib.hid (HS.out.only (only_below (fun _ => False) b4) (fun _ _ e => e))
  have hb4 := hb3.trans (b4.mono hb3.size)
  have hs4 : W2.heap.size ≤ w4.heap.size := Nat.le_trans b3.size b4.size
  have HP := Lib.hid (logOpen_slots (some ⟨w3.heap.size, 0, none⟩) sl (.inl hsl) w4)
  have R4 := Lib.hid ((b4.block _ (Nat.lt_of_lt_of_le (Nat.lt_trans HZ1.out HZ2.out) b3.size)).trans ((b3.block w.heap.size (Nat.lt_trans HZ1.out HZ2.out)).trans R2.out))
  have T4 := Lib.hid ((b4.block _ (Nat.lt_of_lt_of_le HZ2.out b3.size)).trans ((b3.block w1.heap.size HZ2.out).trans T2.out))
  have HZ4 := Lib.hid (Nat.lt_of_lt_of_le HZ2.out hs4)
  clear hd b3 b4 hb3 R2 T2 HO hs4
  go_wp2_with fail
  refine HP.out.mono ?_
  rintro e w5 ⟨rfl, rfl⟩
  have hb5 : Below w.heap.size w w4 := hb4
  have R5 := R4
  have T5 := T4
  have HZ5 := HZ4
  have HB5 := Lib.hid hb5
  have A5 := Lib.hid (hA.over hb5)
  clear hb4 hb5 HP HS D4 R4 T4 HZ4 HB2
  have LI := Lib.hid (lives_true w4 A5.out.tabs A5.out.fld)
  go_wp2_with (first
    | (go_at_call 19; refine (logOpen_slots none sl (.inl hsl) _).mono ?_; rintro e w' ⟨rfl, rfl⟩)
    | (go_at_call 30; refine (HBM.out _).mono ?_; rintro e w' ⟨rfl, rfl⟩)
    | (go_at_call 14; refine LI.out.mono ?_; rintro e w6 ⟨rfl, b6⟩; have r6 := Lib.hid ((b6.block w.heap.size (Nat.lt_trans HZ1.out HZ5.out)).trans R5.out); have t6 := (b6.block w1.heap.size HZ5.out).trans T5.out; obtain ⟨k0, k1, k2, _⟩ := cells3_of t6))
  have HB6 := Lib.hid (HB5.out.trans (b6.mono HB5.out.size))
  have hz6 := Nat.lt_of_lt_of_le (Nat.lt_trans HZ1.out HZ5.out) b6.size
  clear k0 k1 k2 t6 b6 LI
  refine (refSame_self 0 0 none none 0 0 0 0 [] w6 (fun x hx => by cases hx) Reads.none_ Reads.none_).mono ?_
  rintro e w7 ⟨rfl, b7⟩
  obtain ⟨k0, k1, k2, _⟩ := cells3_of ((b7.block w.heap.size hz6).trans r6.out)
  have HB7 := Lib.hid (HB6.out.trans (b7.mono HB6.out.size))
  clear b7 hz6 r6
  go_wp2_with fail
  refine (put_nil s q A n c w7 slot).mono ?_
  rintro e w8 ⟨rfl, b8⟩
  have HB8 := Lib.hid (HB7.out.trans (b8.mono HB7.out.size))
  clear k0 k1 k2 b8
  go_wp2_with (first
    | (go_at_call 21; refine (clear_nil slot _).mono ?_; rintro e w' ⟨rfl, rfl⟩)
    | (go_at_call 24; refine (all_nil _).mono ?_; rintro e w' ⟨rfl, rfl⟩))
  go_ret
  exact ⟨rfl, HB8.out⟩

set_option maxRecDepth 20000 in
set_option maxHeartbeats 4000000 in
theorem walk_pD {w : World} (slot : Int) (s q : Int) (A : Option Addr) (n c : Nat) (sec : Int) (N : Nat) (hN : N < 40) (ht : sec.tmod 40 = (N : Int)) (sl : Int) (hsl : 8 < sl) (hA : All w) :
    Calls Tryd.prog 9 #[.int .i64 slot, .agg #[.int .i64 s, .int .i64 q, .slice A n c], .int .i64 sl, .int .i64 sec] w fun e w' => e = .returned (.bool true) ∧ Below w.heap.size w w' := by
  have hb0 : Below w.heap.size w (w.alloc (.cells #[.int .i64 s, .int .i64 q, .slice A n c] 24)) := (Below.refl _ _).alloc (Nat.le_refl _) _
  have r0 := heap_alloc_new w (.cells #[.int .i64 s, .int .i64 q, .slice A n c] 24)
  have z0 : w.heap.size < (w.alloc (.cells #[.int .i64 s, .int .i64 q, .slice A n c] 24)).heap.size := by simp
  go_enter Tryd.func9, Tryd.ntmps9
  go_wp2_with fail
  generalize w.alloc (.cells #[.int .i64 s, .int .i64 q, .slice A n c] 24) = W0 at *
  refine (get_nil slot W0).mono ?_
  rintro e w1 ⟨rfl, b1⟩
  have b2 : Below w1.heap.size w1 (w1.alloc (.cells #[.int .i64 0, .int .i64 0, .slice none 0 0] 24)) := (Below.refl _ _).alloc (Nat.le_refl _) _
  have z1 := Nat.lt_of_lt_of_le z0 b1.size
  have R2 := Lib.hid ((b2.block w.heap.size z1).trans ((b1.block w.heap.size z0).trans r0))
  have T2 := Lib.hid (heap_alloc_new w1 (.cells #[.int .i64 0, .int .i64 0, .slice none 0 0] 24))
  have HB2 := Lib.hid ((hb0.trans (b1.mono (Nat.le_of_lt z0))).trans (b2.mono (Nat.le_of_lt z1)))
  have HZ2 := Lib.hid (show w1.heap.size < (w1.alloc (.cells #[.int .i64 0, .int .i64 0, .slice none 0 0] 24)).heap.size by simp)
  have HZ1 := Lib.hid z1
  clear r0 b1 b2 hb0 z0 z1
  obtain ⟨M, hM⟩ : ∃ M, M = N + 1 := ⟨_, rfl⟩
  have e1 : (N : Int) + 1 = (M : Int) := by omega
  have HM := Lib.hid hM
  have HMb := Lib.hid (show 1 ≤ M ∧ M ≤ 40 by omega)
  clear hM
  have n1 : decide ((N : Int) < 0) = false := by simp
  have q1 : decide (1 ≤ sl) = true := by simp; omega
  have q2 : decide (sl ≤ 8) = false := by simp; omega
  have HBM := Lib.hid (blocks_pos M (by have := HMb.out.2; omega))
  go_wp2_with fail
  generalize w1.alloc (.cells #[.int .i64 0, .int .i64 0, .slice none 0 0] 24) = W2 at *
  refine (Sh.new_ok 1 M W2 (by decide) (by decide) HMb.out.1 (by have := HMb.out.2; omega)).mono ?_
  rintro e w3 ⟨p, F1, rfl, hS, _, b3⟩
  have HO := Lib.hid (open_yes 0 hS (by show 0 < (List.replicate 1 (Sh.newDk M)).length; rw [List.length_replicate]; decide))
  have hb3 := HB2.out.trans (b3.mono HB2.out.size)
  have HS := Lib.hid hS
  clear hS
  go_wp2_with fail
  refine HO.out.mono ?_
  rintro e w4 ⟨rfl, hd, b4⟩
  have D4 := Lib.hid (HS.out.only (only_below (fun _ => False) b4) (fun _ _ e => e))
  have hb4 := hb3.trans (b4.mono hb3.size)
  have hs4 : W2.heap.size ≤ w4.heap.size := Nat.le_trans b3.size b4.size
  have HP := Lib.hid (logOpen_slots (some ⟨w3.heap.size, 0, none⟩) sl (.inr hsl) w4)
  have R4 := Lib.hid ((b4.block _ (Nat.lt_of_lt_of_le (Nat.lt_trans HZ1.out HZ2.out) b3.size)).trans ((b3.block w.heap.size (Nat.lt_trans HZ1.out HZ2.out)).trans R2.out))
  have T4 := Lib.hid ((b4.block _ (Nat.lt_of_lt_of_le HZ2.out b3.size)).trans ((b3.block w1.heap.size HZ2.out).trans T2.out))
  have HZ4 := Lib.hid (Nat.lt_of_lt_of_le HZ2.out hs4)
  clear hd b3 b4 hb3 R2 T2 HO hs4
  go_wp2_with fail
  refine HP.out.mono ?_
  rintro e w5 ⟨rfl, rfl⟩
  have hb5 : Below w.heap.size w w4 := hb4
  have R5 := R4
  have T5 := T4
  have HZ5 := HZ4
  have HB5 := Lib.hid hb5
  have A5 := Lib.hid (hA.over hb5)
  clear hb4 hb5 HP HS D4 R4 T4 HZ4 HB2
  have LI := Lib.hid (lives_true w4 A5.out.tabs A5.out.fld)
  go_wp2_with (first
    | (go_at_call 19; refine (logOpen_slots none sl (.inr hsl) _).mono ?_; rintro e w' ⟨rfl, rfl⟩)
    | (go_at_call 30; refine (HBM.out _).mono ?_; rintro e w' ⟨rfl, rfl⟩)
    | (go_at_call 14; refine LI.out.mono ?_; rintro e w6 ⟨rfl, b6⟩; have r6 := Lib.hid ((b6.block w.heap.size (Nat.lt_trans HZ1.out HZ5.out)).trans R5.out); have t6 := (b6.block w1.heap.size HZ5.out).trans T5.out; obtain ⟨k0, k1, k2, _⟩ := cells3_of t6))
  have HB6 := Lib.hid (HB5.out.trans (b6.mono HB5.out.size))
  have hz6 := Nat.lt_of_lt_of_le (Nat.lt_trans HZ1.out HZ5.out) b6.size
  clear k0 k1 k2 t6 b6 LI
  refine (refSame_self 0 0 none none 0 0 0 0 [] w6 (fun x hx => by cases hx) Reads.none_ Reads.none_).mono ?_
  rintro e w7 ⟨rfl, b7⟩
  obtain ⟨k0, k1, k2, _⟩ := cells3_of ((b7.block w.heap.size hz6).trans r6.out)
  have HB7 := Lib.hid (HB6.out.trans (b7.mono HB6.out.size))
  clear b7 hz6 r6
  go_wp2_with fail
  refine (put_nil s q A n c w7 slot).mono ?_
  rintro e w8 ⟨rfl, b8⟩
  have HB8 := Lib.hid (HB7.out.trans (b8.mono HB7.out.size))
  clear k0 k1 k2 b8
  go_wp2_with (first
    | (go_at_call 21; refine (clear_nil slot _).mono ?_; rintro e w' ⟨rfl, rfl⟩)
    | (go_at_call 24; refine (all_nil _).mono ?_; rintro e w' ⟨rfl, rfl⟩))
  go_ret
  exact ⟨rfl, HB8.out⟩

set_option maxRecDepth 20000 in
set_option maxHeartbeats 4000000 in
theorem walk_pB {w : World} (slot : Int) (s q : Int) (A : Option Addr) (n c : Nat) (sec : Int) (N : Nat) (hN : N < 40) (ht : sec.tmod 40 = (N : Int)) (m : Nat) (h1 : 1 ≤ m) (h2 : m ≤ 8) (hb : blk (N + 1) < 2 + 2 * m) (hA : All w) :
    Calls Tryd.prog 9 #[.int .i64 slot, .agg #[.int .i64 s, .int .i64 q, .slice A n c], .int .i64 (m : Int), .int .i64 sec] w fun e w' => e = .returned (.bool true) ∧ Below w.heap.size w w' := by
  have hb0 : Below w.heap.size w (w.alloc (.cells #[.int .i64 s, .int .i64 q, .slice A n c] 24)) := (Below.refl _ _).alloc (Nat.le_refl _) _
  have r0 := heap_alloc_new w (.cells #[.int .i64 s, .int .i64 q, .slice A n c] 24)
  have z0 : w.heap.size < (w.alloc (.cells #[.int .i64 s, .int .i64 q, .slice A n c] 24)).heap.size := by simp
  go_enter Tryd.func9, Tryd.ntmps9
  go_wp2_with fail
  generalize w.alloc (.cells #[.int .i64 s, .int .i64 q, .slice A n c] 24) = W0 at *
  refine (get_nil slot W0).mono ?_
  rintro e w1 ⟨rfl, b1⟩
  have b2 : Below w1.heap.size w1 (w1.alloc (.cells #[.int .i64 0, .int .i64 0, .slice none 0 0] 24)) := (Below.refl _ _).alloc (Nat.le_refl _) _
  have z1 := Nat.lt_of_lt_of_le z0 b1.size
  have R2 := Lib.hid ((b2.block w.heap.size z1).trans ((b1.block w.heap.size z0).trans r0))
  have T2 := Lib.hid (heap_alloc_new w1 (.cells #[.int .i64 0, .int .i64 0, .slice none 0 0] 24))
  have HB2 := Lib.hid ((hb0.trans (b1.mono (Nat.le_of_lt z0))).trans (b2.mono (Nat.le_of_lt z1)))
  have HZ2 := Lib.hid (show w1.heap.size < (w1.alloc (.cells #[.int .i64 0, .int .i64 0, .slice none 0 0] 24)).heap.size by simp)
  have HZ1 := Lib.hid z1
  clear r0 b1 b2 hb0 z0 z1
  obtain ⟨M, hM⟩ : ∃ M, M = N + 1 := ⟨_, rfl⟩
  have e1 : (N : Int) + 1 = (M : Int) := by omega
  have HM := Lib.hid hM
  rw [← hM] at hb
  have HMb := Lib.hid (show 1 ≤ M ∧ M ≤ 40 by omega)
  clear hM
  have n1 : decide ((N : Int) < 0) = false := by simp
  have q1 : decide (1 ≤ (m : Int)) = true := by simp; omega
  have q2 : decide ((m : Int) ≤ 8) = true := by simp; omega
  obtain ⟨K, hK⟩ : ∃ K, K = 2 + 2 * m := ⟨_, rfl⟩
  have e2 : 2 + 2 * (m : Int) = (K : Int) := by omega
  have HK := Lib.hid hK
  have q3 : decide (K ≤ blk M) = false := by simp; omega
  clear hK
  have HBM := Lib.hid (blocks_pos M (by have := HMb.out.2; omega))
  have HHB := Lib.hid hb
  clear hb
  generalize hbm : blk M = X at *
  have HBX := Lib.hid hbm
  clear hbm
  go_wp2_with fail
  generalize w1.alloc (.cells #[.int .i64 0, .int .i64 0, .slice none 0 0] 24) = W2 at *
  refine (Sh.new_ok 1 M W2 (by decide) (by decide) HMb.out.1 (by have := HMb.out.2; omega)).mono ?_
  rintro e w3 ⟨p, F1, rfl, hS, _, b3⟩
  have HO := Lib.hid (open_yes 0 hS (by show 0 < (List.replicate 1 (Sh.newDk M)).length; rw [List.length_replicate]; decide))
  have hb3 := HB2.out.trans (b3.mono HB2.out.size)
  have HS := Lib.hid hS
  clear hS
  go_wp2_with fail
  refine HO.out.mono ?_
  rintro e w4 ⟨rfl, hd, b4⟩
  have D4 := Lib.hid (HS.out.only (only_below (fun _ => False) b4) (fun _ _ e => e))
  have hb4 := hb3.trans (b4.mono hb3.size)
  have hs4 : W2.heap.size ≤ w4.heap.size := Nat.le_trans b3.size b4.size
  have HP := Lib.hid (logOpen_few m h1 h2 hd D4.out (by show blk M < _; rw [HBX.out]; exact HHB.out))
  have R4 := Lib.hid ((b4.block _ (Nat.lt_of_lt_of_le (Nat.lt_trans HZ1.out HZ2.out) b3.size)).trans ((b3.block w.heap.size (Nat.lt_trans HZ1.out HZ2.out)).trans R2.out))
  have T4 := Lib.hid ((b4.block _ (Nat.lt_of_lt_of_le HZ2.out b3.size)).trans ((b3.block w1.heap.size HZ2.out).trans T2.out))
  have HZ4 := Lib.hid (Nat.lt_of_lt_of_le HZ2.out hs4)
  clear hd b3 b4 hb3 R2 T2 HO hs4
  go_wp2_with fail
  refine HP.out.mono ?_
  rintro e w5 ⟨rfl, kk, rfl⟩
  have hb5 : Below w.heap.size w (w4.drewN kk) := drawn hb4 kk
  have R5 := Lib.hid (show (w4.drewN kk).heap[w.heap.size]? = _ from R4.out)
  have T5 := Lib.hid (show (w4.drewN kk).heap[w1.heap.size]? = _ from T4.out)
  have HZ5 := Lib.hid (show w1.heap.size < (w4.drewN kk).heap.size from HZ4.out)
  generalize w4.drewN kk = w5 at *
  have HB5 := Lib.hid hb5
  have A5 := Lib.hid (hA.over hb5)
  clear hb4 hb5 HP HS D4 R4 T4 HZ4 HB2
  have LI := Lib.hid (lives_true w5 A5.out.tabs A5.out.fld)
  go_wp2_with (first
    | (go_at_call 19; refine (logOpen_nil m h1 h2 _).mono ?_; rintro e w' ⟨rfl, rfl⟩)
    | (go_at_call 30; refine (HBM.out _).mono ?_; rintro e w' ⟨rfl, rfl⟩)
    | (go_at_call 14; refine LI.out.mono ?_; rintro e w6 ⟨rfl, b6⟩; have r6 := Lib.hid ((b6.block w.heap.size (Nat.lt_trans HZ1.out HZ5.out)).trans R5.out); have t6 := (b6.block w1.heap.size HZ5.out).trans T5.out; obtain ⟨k0, k1, k2, _⟩ := cells3_of t6))
  have HB6 := Lib.hid (HB5.out.trans (b6.mono HB5.out.size))
  have hz6 := Nat.lt_of_lt_of_le (Nat.lt_trans HZ1.out HZ5.out) b6.size
  clear k0 k1 k2 t6 b6 LI
  refine (refSame_self 0 0 none none 0 0 0 0 [] w6 (fun x hx => by cases hx) Reads.none_ Reads.none_).mono ?_
  rintro e w7 ⟨rfl, b7⟩
  obtain ⟨k0, k1, k2, _⟩ := cells3_of ((b7.block w.heap.size hz6).trans r6.out)
  have HB7 := Lib.hid (HB6.out.trans (b7.mono HB6.out.size))
  clear b7 hz6 r6
  go_wp2_with fail
  refine (put_nil s q A n c w7 slot).mono ?_
  rintro e w8 ⟨rfl, b8⟩
  have HB8 := Lib.hid (HB7.out.trans (b8.mono HB7.out.size))
  clear k0 k1 k2 b8
  go_wp2_with (first
    | (go_at_call 21; refine (clear_nil slot _).mono ?_; rintro e w' ⟨rfl, rfl⟩)
    | (go_at_call 24; refine (all_nil _).mono ?_; rintro e w' ⟨rfl, rfl⟩))
  go_ret
  exact ⟨rfl, HB8.out⟩

set_option maxRecDepth 20000 in
set_option maxHeartbeats 4000000 in
theorem walk_pC {w : World} (slot : Int) (s q : Int) (A : Option Addr) (n c : Nat) (sec : Int) (N : Nat) (hN : N < 40) (ht : sec.tmod 40 = (N : Int)) (m : Nat) (h1 : 1 ≤ m) (h2 : m ≤ 8) (hb : 2 + 2 * m ≤ blk (N + 1)) (hA : All w) :
    Calls Tryd.prog 9 #[.int .i64 slot, .agg #[.int .i64 s, .int .i64 q, .slice A n c], .int .i64 (m : Int), .int .i64 sec] w fun e w' => e = .returned (.bool true) ∧ Below w.heap.size w w' := by
  have hb0 : Below w.heap.size w (w.alloc (.cells #[.int .i64 s, .int .i64 q, .slice A n c] 24)) := (Below.refl _ _).alloc (Nat.le_refl _) _
  have r0 := heap_alloc_new w (.cells #[.int .i64 s, .int .i64 q, .slice A n c] 24)
  have z0 : w.heap.size < (w.alloc (.cells #[.int .i64 s, .int .i64 q, .slice A n c] 24)).heap.size := by simp
  go_enter Tryd.func9, Tryd.ntmps9
  go_wp2_with fail
  generalize w.alloc (.cells #[.int .i64 s, .int .i64 q, .slice A n c] 24) = W0 at *
  refine (get_nil slot W0).mono ?_
  rintro e w1 ⟨rfl, b1⟩
  have b2 : Below w1.heap.size w1 (w1.alloc (.cells #[.int .i64 0, .int .i64 0, .slice none 0 0] 24)) := (Below.refl _ _).alloc (Nat.le_refl _) _
  have z1 := Nat.lt_of_lt_of_le z0 b1.size
  have R2 := Lib.hid ((b2.block w.heap.size z1).trans ((b1.block w.heap.size z0).trans r0))
  have T2 := Lib.hid (heap_alloc_new w1 (.cells #[.int .i64 0, .int .i64 0, .slice none 0 0] 24))
  have HB2 := Lib.hid ((hb0.trans (b1.mono (Nat.le_of_lt z0))).trans (b2.mono (Nat.le_of_lt z1)))
  have HZ2 := Lib.hid (show w1.heap.size < (w1.alloc (.cells #[.int .i64 0, .int .i64 0, .slice none 0 0] 24)).heap.size by simp)
  have HZ1 := Lib.hid z1
  clear r0 b1 b2 hb0 z0 z1
  obtain ⟨M, hM⟩ : ∃ M, M = N + 1 := ⟨_, rfl⟩
  have e1 : (N : Int) + 1 = (M : Int) := by omega
  have HM := Lib.hid hM
  rw [← hM] at hb
  have HMb := Lib.hid (show 1 ≤ M ∧ M ≤ 40 by omega)
  clear hM
  have n1 : decide ((N : Int) < 0) = false := by simp
  have q1 : decide (1 ≤ (m : Int)) = true := by simp; omega
  have q2 : decide ((m : Int) ≤ 8) = true := by simp; omega
  obtain ⟨K, hK⟩ : ∃ K, K = 2 + 2 * m := ⟨_, rfl⟩
  have e2 : 2 + 2 * (m : Int) = (K : Int) := by omega
  have HK := Lib.hid hK
  have q3 : decide (K ≤ blk M) = true := by simp; omega
  clear hK
  have HBM := Lib.hid (blocks_pos M (by have := HMb.out.2; omega))
  have HHB := Lib.hid hb
  clear hb
  generalize hbm : blk M = X at *
  have HBX := Lib.hid hbm
  clear hbm
  go_wp2_with fail
  generalize w1.alloc (.cells #[.int .i64 0, .int .i64 0, .slice none 0 0] 24) = W2 at *
  refine (Sh.new_ok 1 M W2 (by decide) (by decide) HMb.out.1 (by have := HMb.out.2; omega)).mono ?_
  rintro e w3 ⟨p, F1, rfl, hS, _, b3⟩
  have HO := Lib.hid (open_yes 0 hS (by show 0 < (List.replicate 1 (Sh.newDk M)).length; rw [List.length_replicate]; decide))
  have hb3 := HB2.out.trans (b3.mono HB2.out.size)
  have HS := Lib.hid hS
  clear hS
  go_wp2_with fail
  refine HO.out.mono ?_
  rintro e w4 ⟨rfl, hd, b4⟩
  have D4 := Lib.hid (HS.out.only (only_below (fun _ => False) b4) (fun _ _ e => e))
  have hb4 := hb3.trans (b4.mono hb3.size)
  have hs4 : W2.heap.size ≤ w4.heap.size := Nat.le_trans b3.size b4.size
  have HP := Lib.hid (logOpen_ok m h1 h2 hd D4.out (by show _ ≤ blk M; rw [HBX.out]; exact HHB.out))
  have R4 := Lib.hid ((b4.block _ (Nat.lt_of_lt_of_le (Nat.lt_trans HZ1.out HZ2.out) b3.size)).trans ((b3.block w.heap.size (Nat.lt_trans HZ1.out HZ2.out)).trans R2.out))
  have T4 := Lib.hid ((b4.block _ (Nat.lt_of_lt_of_le HZ2.out b3.size)).trans ((b3.block w1.heap.size HZ2.out).trans T2.out))
  have HZ4 := Lib.hid (Nat.lt_of_lt_of_le HZ2.out hs4)
  clear hd b3 b4 hb3 R2 T2 HO hs4
  go_wp2_with fail
  refine HP.out.mono ?_
  rintro e w5 ⟨rfl, _, b5⟩
  have hb5 : Below w.heap.size w w5 := hb4.trans (b5.mono hb4.size)
  have R5 := Lib.hid ((b5.block w.heap.size (Nat.lt_trans HZ1.out HZ4.out)).trans R4.out)
  have T5 := Lib.hid ((b5.block w1.heap.size HZ4.out).trans T4.out)
  have HZ5 := Lib.hid (Nat.lt_of_lt_of_le HZ4.out b5.size)
  clear b5
  have HB5 := Lib.hid hb5
  have A5 := Lib.hid (hA.over hb5)
  clear hb4 hb5 HP HS D4 R4 T4 HZ4 HB2
  have LI := Lib.hid (lives_true w5 A5.out.tabs A5.out.fld)
  go_wp2_with (first
    | (go_at_call 19; refine (logOpen_nil m h1 h2 _).mono ?_; rintro e w' ⟨rfl, rfl⟩)
    | (go_at_call 30; refine (HBM.out _).mono ?_; rintro e w' ⟨rfl, rfl⟩)
    | (go_at_call 14; refine LI.out.mono ?_; rintro e w6 ⟨rfl, b6⟩; have r6 := Lib.hid ((b6.block w.heap.size (Nat.lt_trans HZ1.out HZ5.out)).trans R5.out); have t6 := (b6.block w1.heap.size HZ5.out).trans T5.out; obtain ⟨k0, k1, k2, _⟩ := cells3_of t6))
  have HB6 := Lib.hid (HB5.out.trans (b6.mono HB5.out.size))
  have hz6 := Nat.lt_of_lt_of_le (Nat.lt_trans HZ1.out HZ5.out) b6.size
  clear k0 k1 k2 t6 b6 LI
  refine (refSame_self 0 0 none none 0 0 0 0 [] w6 (fun x hx => by cases hx) Reads.none_ Reads.none_).mono ?_
  rintro e w7 ⟨rfl, b7⟩
  obtain ⟨k0, k1, k2, _⟩ := cells3_of ((b7.block w.heap.size hz6).trans r6.out)
  have HB7 := Lib.hid (HB6.out.trans (b7.mono HB6.out.size))
  clear b7 hz6 r6
  go_wp2_with fail
  refine (put_nil s q A n c w7 slot).mono ?_
  rintro e w8 ⟨rfl, b8⟩
  have HB8 := Lib.hid (HB7.out.trans (b8.mono HB7.out.size))
  clear k0 k1 k2 b8
  go_wp2_with (first
    | (go_at_call 21; refine (clear_nil slot _).mono ?_; rintro e w' ⟨rfl, rfl⟩)
    | (go_at_call 24; refine (all_nil _).mono ?_; rintro e w' ⟨rfl, rfl⟩))
  go_ret
  exact ⟨rfl, HB8.out⟩

set_option maxRecDepth 20000 in
set_option maxHeartbeats 4000000 in
theorem walk_nA {w : World} (slot : Int) (s q : Int) (A : Option Addr) (n c : Nat) (sec : Int) (N : Nat) (hN0 : 0 < N) (hN : N < 40) (ht : sec.tmod 40 = -(N : Int)) (sl : Int) (hsl : sl < 1) (hA : All w) :
    Calls Tryd.prog 9 #[.int .i64 slot, .agg #[.int .i64 s, .int .i64 q, .slice A n c], .int .i64 sl, .int .i64 sec] w fun e w' => e = .returned (.bool true) ∧ Below w.heap.size w w' := by
  have hb0 : Below w.heap.size w (w.alloc (.cells #[.int .i64 s, .int .i64 q, .slice A n c] 24)) := (Below.refl _ _).alloc (Nat.le_refl _) _
  have r0 := heap_alloc_new w (.cells #[.int .i64 s, .int .i64 q, .slice A n c] 24)
  have z0 : w.heap.size < (w.alloc (.cells #[.int .i64 s, .int .i64 q, .slice A n c] 24)).heap.size := by simp
  go_enter Tryd.func9, Tryd.ntmps9
  go_wp2_with fail
  generalize w.alloc (.cells #[.int .i64 s, .int .i64 q, .slice A n c] 24) = W0 at *
  refine (get_nil slot W0).mono ?_
  rintro e w1 ⟨rfl, b1⟩
  have b2 : Below w1.heap.size w1 (w1.alloc (.cells #[.int .i64 0, .int .i64 0, .slice none 0 0] 24)) := (Below.refl _ _).alloc (Nat.le_refl _) _
  have z1 := Nat.lt_of_lt_of_le z0 b1.size
  have R2 := Lib.hid ((b2.block w.heap.size z1).trans ((b1.block w.heap.size z0).trans r0))
  have T2 := Lib.hid (heap_alloc_new w1 (.cells #[.int .i64 0, .int .i64 0, .slice none 0 0] 24))
  have HB2 := Lib.hid ((hb0.trans (b1.mono (Nat.le_of_lt z0))).trans (b2.mono (Nat.le_of_lt z1)))
  have HZ2 := Lib.hid (show w1.heap.size < (w1.alloc (.cells #[.int .i64 0, .int .i64 0, .slice none 0 0] 24)).heap.size by simp)
  have HZ1 := Lib.hid z1
  clear r0 b1 b2 hb0 z0 z1
  obtain ⟨M, hM⟩ : ∃ M, M = N + 1 := ⟨_, rfl⟩
  have e1 : (N : Int) + 1 = (M : Int) := by omega
  have HM := Lib.hid hM
  have HMb := Lib.hid (show 1 ≤ M ∧ M ≤ 40 by omega)
  clear hM
  have n1 : decide (-(N : Int) < 0) = true := by simp; omega
  have n2 : -(-(N : Int)) = (N : Int) := by omega
  have q1 : decide (1 ≤ sl) = false := by simp; omega
  have HBM := Lib.hid (blocks_pos M (by have := HMb.out.2; omega))
  go_wp2_with fail
  generalize w1.alloc (.cells #[.int .i64 0, .int .i64 0, .slice none 0 0] 24) = W2 at *
  refine (Sh.new_ok 1 M W2 (by decide) (by decide) HMb.out.1 (by have := HMb.out.2; omega)).mono ?_
  rintro e w3 ⟨p, F1, rfl, hS, _, b3⟩
  have HO := Lib.hid (open_yes 0 hS (by show 0 < (List.replicate 1 (Sh.newDk M)).length; rw [List.length_replicate]; decide))
  have hb3 := HB2.out.trans (b3.mono HB2.out.size)
  have HS := Lib.hid hS
  clear hS
  go_wp2_with fail
  refine HO.out.mono ?_
  rintro e w4 ⟨rfl, hd, b4⟩
  have D4 := Lib.hid (HS.out.only (only_below (fun _ => False) b4) (fun _ _ e => e))
  have hb4 := hb3.trans (b4.mono hb3.size)
  have hs4 : W2.heap.size ≤ w4.heap.size := Nat.le_trans b3.size b4.size
  have HP := Lib.hid (logOpen_slots (some ⟨w3.heap.size, 0, none⟩) sl (.inl hsl) w4)
  have R4 := Lib.hid ((b4.block _ (Nat.lt_of_lt_of_le (Nat.lt_trans HZ1.out HZ2.out) b3.size)).trans ((b3.block w.heap.size (Nat.lt_trans HZ1.out HZ2.out)).trans R2.out))
  have T4 := Lib.hid ((b4.block _ (Nat.lt_of_lt_of_le HZ2.out b3.size)).trans ((b3.block w1.heap.size HZ2.out).trans T2.out))
  have HZ4 := Lib.hid (Nat.lt_of_lt_of_le HZ2.out hs4)
  clear hd b3 b4 hb3 R2 T2 HO hs4
  go_wp2_with fail
  refine HP.out.mono ?_
  rintro e w5 ⟨rfl, rfl⟩
  have hb5 : Below w.heap.size w w4 := hb4
  have R5 := R4
  have T5 := T4
  have HZ5 := HZ4
  have HB5 := Lib.hid hb5
  have A5 := Lib.hid (hA.over hb5)
  clear hb4 hb5 HP HS D4 R4 T4 HZ4 HB2
  have LI := Lib.hid (lives_true w4 A5.out.tabs A5.out.fld)
  go_wp2_with (first
    | (go_at_call 19; refine (logOpen_slots none sl (.inl hsl) _).mono ?_; rintro e w' ⟨rfl, rfl⟩)
    | (go_at_call 30; refine (HBM.out _).mono ?_; rintro e w' ⟨rfl, rfl⟩)
    | (go_at_call 14; refine LI.out.mono ?_; rintro e w6 ⟨rfl, b6⟩; have r6 := Lib.hid ((b6.block w.heap.size (Nat.lt_trans HZ1.out HZ5.out)).trans R5.out); have t6 := (b6.block w1.heap.size HZ5.out).trans T5.out; obtain ⟨k0, k1, k2, _⟩ := cells3_of t6))
  have HB6 := Lib.hid (HB5.out.trans (b6.mono HB5.out.size))
  have hz6 := Nat.lt_of_lt_of_le (Nat.lt_trans HZ1.out HZ5.out) b6.size
  clear k0 k1 k2 t6 b6 LI
  refine (refSame_self 0 0 none none 0 0 0 0 [] w6 (fun x hx => by cases hx) Reads.none_ Reads.none_).mono ?_
  rintro e w7 ⟨rfl, b7⟩
  obtain ⟨k0, k1, k2, _⟩ := cells3_of ((b7.block w.heap.size hz6).trans r6.out)
  have HB7 := Lib.hid (HB6.out.trans (b7.mono HB6.out.size))
  clear b7 hz6 r6
  go_wp2_with fail
  refine (put_nil s q A n c w7 slot).mono ?_
  rintro e w8 ⟨rfl, b8⟩
  have HB8 := Lib.hid (HB7.out.trans (b8.mono HB7.out.size))
  clear k0 k1 k2 b8
  go_wp2_with (first
    | (go_at_call 21; refine (clear_nil slot _).mono ?_; rintro e w' ⟨rfl, rfl⟩)
    | (go_at_call 24; refine (all_nil _).mono ?_; rintro e w' ⟨rfl, rfl⟩))
  go_ret
  exact ⟨rfl, HB8.out⟩

set_option maxRecDepth 20000 in
set_option maxHeartbeats 4000000 in
theorem walk_nD {w : World} (slot : Int) (s q : Int) (A : Option Addr) (n c : Nat) (sec : Int) (N : Nat) (hN0 : 0 < N) (hN : N < 40) (ht : sec.tmod 40 = -(N : Int)) (sl : Int) (hsl : 8 < sl) (hA : All w) :
    Calls Tryd.prog 9 #[.int .i64 slot, .agg #[.int .i64 s, .int .i64 q, .slice A n c], .int .i64 sl, .int .i64 sec] w fun e w' => e = .returned (.bool true) ∧ Below w.heap.size w w' := by
  have hb0 : Below w.heap.size w (w.alloc (.cells #[.int .i64 s, .int .i64 q, .slice A n c] 24)) := (Below.refl _ _).alloc (Nat.le_refl _) _
  have r0 := heap_alloc_new w (.cells #[.int .i64 s, .int .i64 q, .slice A n c] 24)
  have z0 : w.heap.size < (w.alloc (.cells #[.int .i64 s, .int .i64 q, .slice A n c] 24)).heap.size := by simp
  go_enter Tryd.func9, Tryd.ntmps9
  go_wp2_with fail
  generalize w.alloc (.cells #[.int .i64 s, .int .i64 q, .slice A n c] 24) = W0 at *
  refine (get_nil slot W0).mono ?_
  rintro e w1 ⟨rfl, b1⟩
  have b2 : Below w1.heap.size w1 (w1.alloc (.cells #[.int .i64 0, .int .i64 0, .slice none 0 0] 24)) := (Below.refl _ _).alloc (Nat.le_refl _) _
  have z1 := Nat.lt_of_lt_of_le z0 b1.size
  have R2 := Lib.hid ((b2.block w.heap.size z1).trans ((b1.block w.heap.size z0).trans r0))
  have T2 := Lib.hid (heap_alloc_new w1 (.cells #[.int .i64 0, .int .i64 0, .slice none 0 0] 24))
  have HB2 := Lib.hid ((hb0.trans (b1.mono (Nat.le_of_lt z0))).trans (b2.mono (Nat.le_of_lt z1)))
  have HZ2 := Lib.hid (show w1.heap.size < (w1.alloc (.cells #[.int .i64 0, .int .i64 0, .slice none 0 0] 24)).heap.size by simp)
  have HZ1 := Lib.hid z1
  clear r0 b1 b2 hb0 z0 z1
  obtain ⟨M, hM⟩ : ∃ M, M = N + 1 := ⟨_, rfl⟩
  have e1 : (N : Int) + 1 = (M : Int) := by omega
  have HM := Lib.hid hM
  have HMb := Lib.hid (show 1 ≤ M ∧ M ≤ 40 by omega)
  clear hM
  have n1 : decide (-(N : Int) < 0) = true := by simp; omega
  have n2 : -(-(N : Int)) = (N : Int) := by omega
  have q1 : decide (1 ≤ sl) = true := by simp; omega
  have q2 : decide (sl ≤ 8) = false := by simp; omega
  have HBM := Lib.hid (blocks_pos M (by have := HMb.out.2; omega))
  go_wp2_with fail
  generalize w1.alloc (.cells #[.int .i64 0, .int .i64 0, .slice none 0 0] 24) = W2 at *
  refine (Sh.new_ok 1 M W2 (by decide) (by decide) HMb.out.1 (by have := HMb.out.2; omega)).mono ?_
  rintro e w3 ⟨p, F1, rfl, hS, _, b3⟩
  have HO := Lib.hid (open_yes 0 hS (by show 0 < (List.replicate 1 (Sh.newDk M)).length; rw [List.length_replicate]; decide))
  have hb3 := HB2.out.trans (b3.mono HB2.out.size)
  have HS := Lib.hid hS
  clear hS
  go_wp2_with fail
  refine HO.out.mono ?_
  rintro e w4 ⟨rfl, hd, b4⟩
  have D4 := Lib.hid (HS.out.only (only_below (fun _ => False) b4) (fun _ _ e => e))
  have hb4 := hb3.trans (b4.mono hb3.size)
  have hs4 : W2.heap.size ≤ w4.heap.size := Nat.le_trans b3.size b4.size
  have HP := Lib.hid (logOpen_slots (some ⟨w3.heap.size, 0, none⟩) sl (.inr hsl) w4)
  have R4 := Lib.hid ((b4.block _ (Nat.lt_of_lt_of_le (Nat.lt_trans HZ1.out HZ2.out) b3.size)).trans ((b3.block w.heap.size (Nat.lt_trans HZ1.out HZ2.out)).trans R2.out))
  have T4 := Lib.hid ((b4.block _ (Nat.lt_of_lt_of_le HZ2.out b3.size)).trans ((b3.block w1.heap.size HZ2.out).trans T2.out))
  have HZ4 := Lib.hid (Nat.lt_of_lt_of_le HZ2.out hs4)
  clear hd b3 b4 hb3 R2 T2 HO hs4
  go_wp2_with fail
  refine HP.out.mono ?_
  rintro e w5 ⟨rfl, rfl⟩
  have hb5 : Below w.heap.size w w4 := hb4
  have R5 := R4
  have T5 := T4
  have HZ5 := HZ4
  have HB5 := Lib.hid hb5
  have A5 := Lib.hid (hA.over hb5)
  clear hb4 hb5 HP HS D4 R4 T4 HZ4 HB2
  have LI := Lib.hid (lives_true w4 A5.out.tabs A5.out.fld)
  go_wp2_with (first
    | (go_at_call 19; refine (logOpen_slots none sl (.inr hsl) _).mono ?_; rintro e w' ⟨rfl, rfl⟩)
    | (go_at_call 30; refine (HBM.out _).mono ?_; rintro e w' ⟨rfl, rfl⟩)
    | (go_at_call 14; refine LI.out.mono ?_; rintro e w6 ⟨rfl, b6⟩; have r6 := Lib.hid ((b6.block w.heap.size (Nat.lt_trans HZ1.out HZ5.out)).trans R5.out); have t6 := (b6.block w1.heap.size HZ5.out).trans T5.out; obtain ⟨k0, k1, k2, _⟩ := cells3_of t6))
  have HB6 := Lib.hid (HB5.out.trans (b6.mono HB5.out.size))
  have hz6 := Nat.lt_of_lt_of_le (Nat.lt_trans HZ1.out HZ5.out) b6.size
  clear k0 k1 k2 t6 b6 LI
  refine (refSame_self 0 0 none none 0 0 0 0 [] w6 (fun x hx => by cases hx) Reads.none_ Reads.none_).mono ?_
  rintro e w7 ⟨rfl, b7⟩
  obtain ⟨k0, k1, k2, _⟩ := cells3_of ((b7.block w.heap.size hz6).trans r6.out)
  have HB7 := Lib.hid (HB6.out.trans (b7.mono HB6.out.size))
  clear b7 hz6 r6
  go_wp2_with fail
  refine (put_nil s q A n c w7 slot).mono ?_
  rintro e w8 ⟨rfl, b8⟩
  have HB8 := Lib.hid (HB7.out.trans (b8.mono HB7.out.size))
  clear k0 k1 k2 b8
  go_wp2_with (first
    | (go_at_call 21; refine (clear_nil slot _).mono ?_; rintro e w' ⟨rfl, rfl⟩)
    | (go_at_call 24; refine (all_nil _).mono ?_; rintro e w' ⟨rfl, rfl⟩))
  go_ret
  exact ⟨rfl, HB8.out⟩

set_option maxRecDepth 20000 in
set_option maxHeartbeats 4000000 in
theorem walk_nB {w : World} (slot : Int) (s q : Int) (A : Option Addr) (n c : Nat) (sec : Int) (N : Nat) (hN0 : 0 < N) (hN : N < 40) (ht : sec.tmod 40 = -(N : Int)) (m : Nat) (h1 : 1 ≤ m) (h2 : m ≤ 8) (hb : blk (N + 1) < 2 + 2 * m) (hA : All w) :
    Calls Tryd.prog 9 #[.int .i64 slot, .agg #[.int .i64 s, .int .i64 q, .slice A n c], .int .i64 (m : Int), .int .i64 sec] w fun e w' => e = .returned (.bool true) ∧ Below w.heap.size w w' := by
  have hb0 : Below w.heap.size w (w.alloc (.cells #[.int .i64 s, .int .i64 q, .slice A n c] 24)) := (Below.refl _ _).alloc (Nat.le_refl _) _
  have r0 := heap_alloc_new w (.cells #[.int .i64 s, .int .i64 q, .slice A n c] 24)
  have z0 : w.heap.size < (w.alloc (.cells #[.int .i64 s, .int .i64 q, .slice A n c] 24)).heap.size := by simp
  go_enter Tryd.func9, Tryd.ntmps9
  go_wp2_with fail
  generalize w.alloc (.cells #[.int .i64 s, .int .i64 q, .slice A n c] 24) = W0 at *
  refine (get_nil slot W0).mono ?_
  rintro e w1 ⟨rfl, b1⟩
  have b2 : Below w1.heap.size w1 (w1.alloc (.cells #[.int .i64 0, .int .i64 0, .slice none 0 0] 24)) := (Below.refl _ _).alloc (Nat.le_refl _) _
  have z1 := Nat.lt_of_lt_of_le z0 b1.size
  have R2 := Lib.hid ((b2.block w.heap.size z1).trans ((b1.block w.heap.size z0).trans r0))
  have T2 := Lib.hid (heap_alloc_new w1 (.cells #[.int .i64 0, .int .i64 0, .slice none 0 0] 24))
  have HB2 := Lib.hid ((hb0.trans (b1.mono (Nat.le_of_lt z0))).trans (b2.mono (Nat.le_of_lt z1)))
  have HZ2 := Lib.hid (show w1.heap.size < (w1.alloc (.cells #[.int .i64 0, .int .i64 0, .slice none 0 0] 24)).heap.size by simp)
  have HZ1 := Lib.hid z1
  clear r0 b1 b2 hb0 z0 z1
  obtain ⟨M, hM⟩ : ∃ M, M = N + 1 := ⟨_, rfl⟩
  have e1 : (N : Int) + 1 = (M : Int) := by omega
  have HM := Lib.hid hM
  rw [← hM] at hb
  have HMb := Lib.hid (show 1 ≤ M ∧ M ≤ 40 by omega)
  clear hM
  have n1 : decide (-(N : Int) < 0) = true := by simp; omega
  have n2 : -(-(N : Int)) = (N : Int) := by omega
  have q1 : decide (1 ≤ (m : Int)) = true := by simp; omega
  have q2 : decide ((m : Int) ≤ 8) = true := by simp; omega
  obtain ⟨K, hK⟩ : ∃ K, K = 2 + 2 * m := ⟨_, rfl⟩
  have e2 : 2 + 2 * (m : Int) = (K : Int) := by omega
  have HK := Lib.hid hK
  have q3 : decide (K ≤ blk M) = false := by simp; omega
  clear hK
  have HBM := Lib.hid (blocks_pos M (by have := HMb.out.2; omega))
  have HHB := Lib.hid hb
  clear hb
  generalize hbm : blk M = X at *
  have HBX := Lib.hid hbm
  clear hbm
  go_wp2_with fail
  generalize w1.alloc (.cells #[.int .i64 0, .int .i64 0, .slice none 0 0] 24) = W2 at *
  refine (Sh.new_ok 1 M W2 (by decide) (by decide) HMb.out.1 (by have := HMb.out.2; omega)).mono ?_
  rintro e w3 ⟨p, F1, rfl, hS, _, b3⟩
  have HO := Lib.hid (open_yes 0 hS (by show 0 < (List.replicate 1 (Sh.newDk M)).length; rw [List.length_replicate]; decide))
  have hb3 := HB2.out.trans (b3.mono HB2.out.size)
  have HS := Lib.hid hS
  clear hS
  go_wp2_with fail
  refine HO.out.mono ?_
  rintro e w4 ⟨rfl, hd, b4⟩
  have D4 := Lib.hid (HS.out.only (only_below (fun _ => False) b4) (fun _ _ e => e))
  have hb4 := hb3.trans (b4.mono hb3.size)
  have hs4 : W2.heap.size ≤ w4.heap.size := Nat.le_trans b3.size b4.size
  have HP := Lib.hid (logOpen_few m h1 h2 hd D4.out (by show blk M < _; rw [HBX.out]; exact HHB.out))
  have R4 := Lib.hid ((b4.block _ (Nat.lt_of_lt_of_le (Nat.lt_trans HZ1.out HZ2.out) b3.size)).trans ((b3.block w.heap.size (Nat.lt_trans HZ1.out HZ2.out)).trans R2.out))
  have T4 := Lib.hid ((b4.block _ (Nat.lt_of_lt_of_le HZ2.out b3.size)).trans ((b3.block w1.heap.size HZ2.out).trans T2.out))
  have HZ4 := Lib.hid (Nat.lt_of_lt_of_le HZ2.out hs4)
  clear hd b3 b4 hb3 R2 T2 HO hs4
  go_wp2_with fail
  refine HP.out.mono ?_
  rintro e w5 ⟨rfl, kk, rfl⟩
  have hb5 : Below w.heap.size w (w4.drewN kk) := drawn hb4 kk
  have R5 := Lib.hid (show (w4.drewN kk).heap[w.heap.size]? = _ from R4.out)
  have T5 := Lib.hid (show (w4.drewN kk).heap[w1.heap.size]? = _ from T4.out)
  have HZ5 := Lib.hid (show w1.heap.size < (w4.drewN kk).heap.size from HZ4.out)
  generalize w4.drewN kk = w5 at *
  have HB5 := Lib.hid hb5
  have A5 := Lib.hid (hA.over hb5)
  clear hb4 hb5 HP HS D4 R4 T4 HZ4 HB2
  have LI := Lib.hid (lives_true w5 A5.out.tabs A5.out.fld)
  go_wp2_with (first
    | (go_at_call 19; refine (logOpen_nil m h1 h2 _).mono ?_; rintro e w' ⟨rfl, rfl⟩)
    | (go_at_call 30; refine (HBM.out _).mono ?_; rintro e w' ⟨rfl, rfl⟩)
    | (go_at_call 14; refine LI.out.mono ?_; rintro e w6 ⟨rfl, b6⟩; have r6 := Lib.hid ((b6.block w.heap.size (Nat.lt_trans HZ1.out HZ5.out)).trans R5.out); have t6 := (b6.block w1.heap.size HZ5.out).trans T5.out; obtain ⟨k0, k1, k2, _⟩ := cells3_of t6))
  have HB6 := Lib.hid (HB5.out.trans (b6.mono HB5.out.size))
  have hz6 := Nat.lt_of_lt_of_le (Nat.lt_trans HZ1.out HZ5.out) b6.size
  clear k0 k1 k2 t6 b6 LI
  refine (refSame_self 0 0 none none 0 0 0 0 [] w6 (fun x hx => by cases hx) Reads.none_ Reads.none_).mono ?_
  rintro e w7 ⟨rfl, b7⟩
  obtain ⟨k0, k1, k2, _⟩ := cells3_of ((b7.block w.heap.size hz6).trans r6.out)
  have HB7 := Lib.hid (HB6.out.trans (b7.mono HB6.out.size))
  clear b7 hz6 r6
  go_wp2_with fail
  refine (put_nil s q A n c w7 slot).mono ?_
  rintro e w8 ⟨rfl, b8⟩
  have HB8 := Lib.hid (HB7.out.trans (b8.mono HB7.out.size))
  clear k0 k1 k2 b8
  go_wp2_with (first
    | (go_at_call 21; refine (clear_nil slot _).mono ?_; rintro e w' ⟨rfl, rfl⟩)
    | (go_at_call 24; refine (all_nil _).mono ?_; rintro e w' ⟨rfl, rfl⟩))
  go_ret
  exact ⟨rfl, HB8.out⟩

set_option maxRecDepth 20000 in
set_option maxHeartbeats 4000000 in
theorem walk_nC {w : World} (slot : Int) (s q : Int) (A : Option Addr) (n c : Nat) (sec : Int) (N : Nat) (hN0 : 0 < N) (hN : N < 40) (ht : sec.tmod 40 = -(N : Int)) (m : Nat) (h1 : 1 ≤ m) (h2 : m ≤ 8) (hb : 2 + 2 * m ≤ blk (N + 1)) (hA : All w) :
    Calls Tryd.prog 9 #[.int .i64 slot, .agg #[.int .i64 s, .int .i64 q, .slice A n c], .int .i64 (m : Int), .int .i64 sec] w fun e w' => e = .returned (.bool true) ∧ Below w.heap.size w w' := by
  have hb0 : Below w.heap.size w (w.alloc (.cells #[.int .i64 s, .int .i64 q, .slice A n c] 24)) := (Below.refl _ _).alloc (Nat.le_refl _) _
  have r0 := heap_alloc_new w (.cells #[.int .i64 s, .int .i64 q, .slice A n c] 24)
  have z0 : w.heap.size < (w.alloc (.cells #[.int .i64 s, .int .i64 q, .slice A n c] 24)).heap.size := by simp
  go_enter Tryd.func9, Tryd.ntmps9
  go_wp2_with fail
  generalize w.alloc (.cells #[.int .i64 s, .int .i64 q, .slice A n c] 24) = W0 at *
  refine (get_nil slot W0).mono ?_
  rintro e w1 ⟨rfl, b1⟩
  have b2 : Below w1.heap.size w1 (w1.alloc (.cells #[.int .i64 0, .int .i64 0, .slice none 0 0] 24)) := (Below.refl _ _).alloc (Nat.le_refl _) _
  have z1 := Nat.lt_of_lt_of_le z0 b1.size
  have R2 := Lib.hid ((b2.block w.heap.size z1).trans ((b1.block w.heap.size z0).trans r0))
  have T2 := Lib.hid (heap_alloc_new w1 (.cells #[.int .i64 0, .int .i64 0, .slice none 0 0] 24))
  have HB2 := Lib.hid ((hb0.trans (b1.mono (Nat.le_of_lt z0))).trans (b2.mono (Nat.le_of_lt z1)))
  have HZ2 := Lib.hid (show w1.heap.size < (w1.alloc (.cells #[.int .i64 0, .int .i64 0, .slice none 0 0] 24)).heap.size by simp)
  have HZ1 := Lib.hid z1
  clear r0 b1 b2 hb0 z0 z1
  obtain ⟨M, hM⟩ : ∃ M, M = N + 1 := ⟨_, rfl⟩
  have e1 : (N : Int) + 1 = (M : Int) := by omega
  have HM := Lib.hid hM
  rw [← hM] at hb
  have HMb := Lib.hid (show 1 ≤ M ∧ M ≤ 40 by omega)
  clear hM
  have n1 : decide (-(N : Int) < 0) = true := by simp; omega
  have n2 : -(-(N : Int)) = (N : Int) := by omega
  have q1 : decide (1 ≤ (m : Int)) = true := by simp; omega
  have q2 : decide ((m : Int) ≤ 8) = true := by simp; omega
  obtain ⟨K, hK⟩ : ∃ K, K = 2 + 2 * m := ⟨_, rfl⟩
  have e2 : 2 + 2 * (m : Int) = (K : Int) := by omega
  have HK := Lib.hid hK
  have q3 : decide (K ≤ blk M) = true := by simp; omega
  clear hK
  have HBM := Lib.hid (blocks_pos M (by have := HMb.out.2; omega))
  have HHB := Lib.hid hb
  clear hb
  generalize hbm : blk M = X at *
  have HBX := Lib.hid hbm
  clear hbm
  go_wp2_with fail
  generalize w1.alloc (.cells #[.int .i64 0, .int .i64 0, .slice none 0 0] 24) = W2 at *
  refine (Sh.new_ok 1 M W2 (by decide) (by decide) HMb.out.1 (by have := HMb.out.2; omega)).mono ?_
  rintro e w3 ⟨p, F1, rfl, hS, _, b3⟩
  have HO := Lib.hid (open_yes 0 hS (by show 0 < (List.replicate 1 (Sh.newDk M)).length; rw [List.length_replicate]; decide))
  have hb3 := HB2.out.trans (b3.mono HB2.out.size)
  have HS := Lib.hid hS
  clear hS
  go_wp2_with fail
  refine HO.out.mono ?_
  rintro e w4 ⟨rfl, hd, b4⟩
  have D4 := Lib.hid (HS.out.only (only_below (fun _ => False) b4) (fun _ _ e => e))
  have hb4 := hb3.trans (b4.mono hb3.size)
  have hs4 : W2.heap.size ≤ w4.heap.size := Nat.le_trans b3.size b4.size
  have HP := Lib.hid (logOpen_ok m h1 h2 hd D4.out (by show _ ≤ blk M; rw [HBX.out]; exact HHB.out))
  have R4 := Lib.hid ((b4.block _ (Nat.lt_of_lt_of_le (Nat.lt_trans HZ1.out HZ2.out) b3.size)).trans ((b3.block w.heap.size (Nat.lt_trans HZ1.out HZ2.out)).trans R2.out))
  have T4 := Lib.hid ((b4.block _ (Nat.lt_of_lt_of_le HZ2.out b3.size)).trans ((b3.block w1.heap.size HZ2.out).trans T2.out))
  have HZ4 := Lib.hid (Nat.lt_of_lt_of_le HZ2.out hs4)
  clear hd b3 b4 hb3 R2 T2 HO hs4
  go_wp2_with fail
  refine HP.out.mono ?_
  rintro e w5 ⟨rfl, _, b5⟩
  have hb5 : Below w.heap.size w w5 := hb4.trans (b5.mono hb4.size)
  have R5 := Lib.hid ((b5.block w.heap.size (Nat.lt_trans HZ1.out HZ4.out)).trans R4.out)
  have T5 := Lib.hid ((b5.block w1.heap.size HZ4.out).trans T4.out)
  have HZ5 := Lib.hid (Nat.lt_of_lt_of_le HZ4.out b5.size)
  clear b5
  have HB5 := Lib.hid hb5
  have A5 := Lib.hid (hA.over hb5)
  clear hb4 hb5 HP HS D4 R4 T4 HZ4 HB2
  have LI := Lib.hid (lives_true w5 A5.out.tabs A5.out.fld)
  go_wp2_with (first
    | (go_at_call 19; refine (logOpen_nil m h1 h2 _).mono ?_; rintro e w' ⟨rfl, rfl⟩)
    | (go_at_call 30; refine (HBM.out _).mono ?_; rintro e w' ⟨rfl, rfl⟩)
    | (go_at_call 14; refine LI.out.mono ?_; rintro e w6 ⟨rfl, b6⟩; have r6 := Lib.hid ((b6.block w.heap.size (Nat.lt_trans HZ1.out HZ5.out)).trans R5.out); have t6 := (b6.block w1.heap.size HZ5.out).trans T5.out; obtain ⟨k0, k1, k2, _⟩ := cells3_of t6))
  have HB6 := Lib.hid (HB5.out.trans (b6.mono HB5.out.size))
  have hz6 := Nat.lt_of_lt_of_le (Nat.lt_trans HZ1.out HZ5.out) b6.size
  clear k0 k1 k2 t6 b6 LI
  refine (refSame_self 0 0 none none 0 0 0 0 [] w6 (fun x hx => by cases hx) Reads.none_ Reads.none_).mono ?_
  rintro e w7 ⟨rfl, b7⟩
  obtain ⟨k0, k1, k2, _⟩ := cells3_of ((b7.block w.heap.size hz6).trans r6.out)
  have HB7 := Lib.hid (HB6.out.trans (b7.mono HB6.out.size))
  clear b7 hz6 r6
  go_wp2_with fail
  refine (put_nil s q A n c w7 slot).mono ?_
  rintro e w8 ⟨rfl, b8⟩
  have HB8 := Lib.hid (HB7.out.trans (b8.mono HB7.out.size))
  clear k0 k1 k2 b8
  go_wp2_with (first
    | (go_at_call 21; refine (clear_nil slot _).mono ?_; rintro e w' ⟨rfl, rfl⟩)
    | (go_at_call 24; refine (all_nil _).mono ?_; rintro e w' ⟨rfl, rfl⟩))
  go_ret
  exact ⟨rfl, HB8.out⟩

theorem walk {w : World} (slot : Int) (_ : -9223372036854775808 ≤ slot) (_ : slot ≤ 9223372036854775807) (z : RecV) (_ : RecOk w z) (_ : z.n ≤ 140737488351232) (sl : Int) (_ : -9223372036854775808 ≤ sl) (_ : sl ≤ 9223372036854775807) (sec : Int) (_ : -9223372036854775808 ≤ sec) (_ : sec ≤ 9223372036854775807) (hA : All w) :
    Calls Tryd.prog 9 #[.int .i64 slot, z.val, .int .i64 sl, .int .i64 sec] w fun e w' => e = .returned (.bool true) ∧ Below w.heap.size w w' := by
  obtain ⟨s, q, A, n, c, l⟩ := z
  unfold RecV.val
  dsimp only
  have ht : (sec.tmod 40).natAbs < 40 := by
    rw [Int.natAbs_tmod]
    exact Nat.mod_lt _ (by decide)
  have hs : (∃ N : Nat, N < 40 ∧ sec.tmod 40 = (N : Int)) ∨ (∃ N : Nat, 0 < N ∧ N < 40 ∧ sec.tmod 40 = -(N : Int)) := by
    generalize sec.tmod 40 = t at *
    by_cases h : 0 ≤ t
    · exact .inl ⟨t.natAbs, ht, by omega⟩
    · exact .inr ⟨t.natAbs, by omega, ht, by omega⟩
  have hc : sl < 1 ∨ 8 < sl ∨ ∃ m : Nat, 1 ≤ m ∧ m ≤ 8 ∧ sl = (m : Int) := by
    by_cases h1 : sl < 1
    · exact .inl h1
    · by_cases h2 : 8 < sl
      · exact .inr (.inl h2)
      · exact .inr (.inr ⟨sl.toNat, by omega, by omega, by omega⟩)
  rcases hs with ⟨N, h1, h2⟩ | ⟨N, h0, h1, h2⟩
  · rcases hc with h | h | ⟨m, m1, m2, rfl⟩
    · exact walk_pA slot s q A n c sec N h1 h2 sl h hA
    · exact walk_pD slot s q A n c sec N h1 h2 sl h hA
    · by_cases hb : blk (N + 1) < 2 + 2 * m
      · exact walk_pB slot s q A n c sec N h1 h2 m m1 m2 hb hA
      · exact walk_pC slot s q A n c sec N h1 h2 m m1 m2 (by omega) hA
  · rcases hc with h | h | ⟨m, m1, m2, rfl⟩
    · exact walk_nA slot s q A n c sec N h0 h1 h2 sl h hA
    · exact walk_nD slot s q A n c sec N h0 h1 h2 sl h hA
    · by_cases hb : blk (N + 1) < 2 + 2 * m
      · exact walk_nB slot s q A n c sec N h0 h1 h2 m m1 m2 hb hA
      · exact walk_nC slot s q A n c sec N h0 h1 h2 m m1 m2 (by omega) hA
set_option maxRecDepth 100000 in
/-- WHAT THE WALK GIVES, FOR EVERY ARGUMENT AND EVERY WORLD THAT HOLDS THE TABLES. -/
theorem contract (H : Type) (enc : TypeId × Value → H) (W : World) (base : Nat) (args : Array Value) (ds gs : List (DataW H)) (before : List MemPlace)
    (hval : ∀ (j : Nat) t v, Tryd.f9.params[j]? = some t → args[j]? = some v → Value.okWide Tryd.prog W .any base t v)
    (hW : DataW.Whole enc Tryd.prog Tryd.f9.params.toList Rows.pplNobodySpec.vars false W args.toList ds gs before)
    (hsz : (DataW.weightsEach Tryd.prog (Tryd.f9.params.toList ++ (OpenSpec.ofChange Rows.pplNobodySpec).bare.plain.varTypes Tryd.prog) (ds ++ gs)).all (· ≤ reachBytes) = true) (hL : laidMetH Tryd.prog laidBoth W) :
    Calls Tryd.prog 9 args W fun e W' => ∃ v, e = .returned v ∧ Rows.pplNobodySpec.post enc Tryd.prog Tryd.f9 false true false false W args v W' := by
  have hW' := hW
  obtain ⟨p, q, hA0, hV, rfl, hfz, hnd⟩ := hW
  have hA : DataW.TrodAll enc Tryd.prog W 0 (fun _ => true) true Tryd.f9.params.toList args.toList ds p := hA0
  have hsz2 : (DataW.weightsEach Tryd.prog (Tryd.f9.params.toList ++ []) (ds ++ gs)).all (· ≤ reachBytes) = true := hsz
  rw [Tryd.params9] at hA hval hsz2
  obtain ⟨v0, vs0, d0, ds0, p0, q0, hargs, rfl, rfl, h0, r0⟩ := trodAll_cons hA
  obtain ⟨v1, vs1, d1, ds1, p1, q1, rfl, rfl, rfl, h1, r1⟩ := trodAll_cons r0
  obtain ⟨v2, vs2, d2, ds2, p2, q2, rfl, rfl, rfl, h2, r2⟩ := trodAll_cons r1
  obtain ⟨v3, vs3, d3, ds3, p3, q3, rfl, rfl, rfl, h3, r3⟩ := trodAll_cons r2
  obtain ⟨rfl, rfl, rfl⟩ := trodAll_nil r3
  obtain rfl : args = #[v0, v1, v2, v3] := by cases args; simp_all
  obtain ⟨rfl, rfl⟩ := trodVars_none hV
  obtain ⟨a0, rfl, rfl, rfl, w0⟩ := open_int Tryd.underlying3 (hval 0 3 v0 rfl rfl) h0
  have bd0 := bounds_i64 w0
  have k1 := h1
  have lt1 : ∀ x ∈ p1, x.block < W.heap.size := by obtain ⟨m, hm⟩ := k1; exact DataW.trod_lt m _ _ _ hm
  have hw1 : ∀ m ∈ d1.weights Tryd.prog 24, m ≤ reachBytes := fun m hm => by simpa using List.all_eq_true.1 hsz2 m (DataW.weights_mem_each (j := 1) (t := 24) rfl rfl m hm)
  obtain ⟨z1, rfl, zf1, zb1⟩ := rec_came (hval 1 24 v1 rfl rfl) h1 hw1
  obtain ⟨a2, rfl, rfl, rfl, w2⟩ := open_int Tryd.underlying3 (hval 2 3 v2 rfl rfl) h2
  have bd2 := bounds_i64 w2
  obtain ⟨a3, rfl, rfl, rfl, w3⟩ := open_int Tryd.underlying3 (hval 3 3 v3 rfl rfl) h3
  have bd3 := bounds_i64 w3
  have hT := tabs_of_laid hL
  refine (walk a0 bd0.1 bd0.2 z1 zf1 zb1 a2 bd2.1 bd2.2 a3 bd3.1 bd3.2 hT).mono fun e W' ⟨he, bel⟩ => ?_
  subst he
  exact ⟨_, rfl, _, _, _, [], _, [], hW', trodAll_mk1 (shut_bool Tryd.underlying4 _), (trodAll_cons_mk (shut_int Tryd.underlying3 w0) (trodAll_cons_mk (Below.trod laidOut (by kernel_rfl) (of_decide_eq_true (by kernel_rfl)) k1 bel lt1) (trodAll_cons_mk (shut_int Tryd.underlying3 w2) (trodAll_cons_mk (shut_int Tryd.underlying3 w3) trodAll_mk0)))), rfl, bel.frame _, fun h => by cases h⟩

theorem laid_met (os : Os) : laidMetH Tryd.prog laidBoth ((laidWorld os).forCall (fun _ _ => 0) ⟨#[], #[.int .i64 0, .agg #[.int .i64 0, .int .i64 0, .slice none 0 0], .int .i64 0, .int .i64 0], []⟩).memory :=
  laidMetH_of_parts3 (fuel := 8) (laidMet_of_run' 8 (by kernel_rfl) (by kernel_rfl)) (by kernel_rfl) (by kernel_rfl)
theorem reads (os : Os) {H : Type} (enc : TypeId × Value → H) : ∃ places, DataW.whole enc Tryd.prog ((laidWorld os).forCall (fun _ _ => 0) ⟨#[], #[.int .i64 0, .agg #[.int .i64 0, .int .i64 0, .slice none 0 0], .int .i64 0, .int .i64 0], []⟩).memory Tryd.f9.params.toList Rows.pplNobodySpec.vars false (#[.int .i64 0, .agg #[.int .i64 0, .int .i64 0, .slice none 0 0], .int .i64 0, .int .i64 0] : Array Value).toList 8 = some ([.lit (.int .i64 0), .agg [.lit (.int .i64 0), .lit (.int .i64 0), .nil], .lit (.int .i64 0), .lit (.int .i64 0)], [], places) :=
  ⟨[], by kernel_rfl⟩
set_option maxRecDepth 100000 in
theorem lifted (os : Os) (started : os.Started) (H : Type) (enc : TypeId × Value → H) (F : Stop.Interp) :
    ReturnsInHanded {} Tryd.checked os 9 .any ((OpenSpec.ofChange Rows.pplNobodySpec).preRow enc Tryd.prog Tryd.f9 Rows.pplNobodyRow.domain false Rows.pplNobodyRow.laid) (((OpenSpec.ofChange Rows.pplNobodySpec).at F).post enc Tryd.prog Tryd.f9 false true false false) := by
  obtain ⟨places, hx⟩ := reads os enc
  refine returnsInHanded_of_row (C := Tryd.checked) (s := (OpenSpec.ofChange Rows.pplNobodySpec)) own started (by kernel_rfl) Tryd.func9
    (witness_row_at (enc := enc) (C := Tryd.checked) false (laidWorld os) #[.int .i64 0, .agg #[.int .i64 0, .int .i64 0, .slice none 0 0], .int .i64 0, .int .i64 0] rfl (by kernel_rfl) (by kernel_rfl) (by kernel_rfl)
      (OpenSpec.preRow_of_cond 8 hx (by kernel_rfl) (fun k hk => by cases hk) (by kernel_rfl) (laid_met os))) ?_
  intro W base args ds gs before hval hW _ hcond hsz hL _ _
  exact contract H enc W base args ds gs before hval hW hsz hL
theorem said : Rows.PplNobodySaid :=
  OpenClaim.holds_of_cond 9 Tryd.f9 rfl rfl rfl rfl rfl rfl rfl ⟨rfl, rfl, rfl, rfl, rfl⟩ rfl rfl rfl rfl rfl (by kernel_rfl) Tryd.func9 (by kernel_rfl)
    (of_decide_eq_true (by kernel_rfl)) (by unfold Func.isWrapper; first | (rw [if_pos (by decide +kernel)]; kernel_rfl) | (rw [if_neg (by decide +kernel)]; exact ⟨rfl, rfl⟩))
    (fun os started H enc _ F => by rw [OpenClaim.pre_eq_preRow]; exact lifted os started H enc F)
theorem plain (f : FuncId) (fn : Func) (hf : Tryd.pinned.checked.prog.funcNamed "ashlar/ashlarlaw07.PplNobody" = some f) (hfn : Tryd.pinned.checked.prog.funcs[f]? = some fn) :
    false = Tryd.pinned.checked.prog.looks [] ∧ ∀ (j : Nat) t, fn.params[j]? = some t → Tryd.pinned.checked.prog.wantsStandIn t = false := by
  obtain rfl : f = 9 := Option.some.inj ((show Tryd.prog.funcNamed "ashlar/ashlarlaw07.PplNobody" = some 9 by kernel_rfl).symm.trans hf) |>.symm
  obtain rfl : fn = Tryd.f9 := (Option.some.inj (Tryd.func9.symm.trans hfn)).symm
  refine ⟨by kernel_rfl, fun j t ht => ?_⟩
  rw [Tryd.params9] at ht
  have hm : t ∈ [3, 24, 3, 3] := by simpa using Array.mem_of_getElem? ht
  have hall : ([3, 24, 3, 3].all fun u => !Tryd.prog.wantsStandIn u) = true := by kernel_rfl
  exact (show Tryd.prog.wantsStandIn t = false by simpa using List.all_eq_true.1 hall t hm)

/-- ████ THE CARD ████ -/
theorem card : Rows.PplNobodyCardSaid :=
  Claim7.holds_tied_plain_at .later [] _ _ _ _ said (fun _ h => by cases h) (by kernel_rfl) (fun _ h => by cases h) pplNobody_row_tie rfl ⟨rfl, rfl⟩ (by kernel_rfl) rfl plain (by kernel_rfl)
end Go.Proofs.YtohdieddocogkaaDoor.U.pplNobody
