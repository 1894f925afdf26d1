/-
  RaidNobody is true for every number: a nil volume refuses all, and arrays that may not be are not made.
  Conditions: none of its own; the tables hold what the program's text lays (the card ties that).
-/
import Derived.Test.YtplbgjjacomceaaGreatDoorEa
namespace Go.Proofs.YtplbgjjacomceaaGreatDoor.U.raidNobody
open Go.ChangeShapes Go.WideShapes Go.ChangeAt Go.RowKit Go.Maps

theorem field0_st (x0 x1 x2 x3 x4 x5 : Value) (w : World) : (Instr.field 74 (.agg #[x0, x1, x2, x3, x4, x5]) 0).run Tryz.prog w = .ok x0 w := by kernel_rfl
set_option maxRecDepth 100000 in
set_option maxHeartbeats 8000000 in
theorem walk_m1 {w : World} (M St L ds nn : Int) (A : Option Addr) (c m k : Nat) (hk : (ds % (17 : Nat)).toNat = k) (hk17 : k < 17) (hA : All w) (h0 : decide (3 ≤ M) = false) :
    Calls Tryz.prog 12 #[.int .i64 M, .int .i64 St, .int .i64 L, .int .i64 ds, .int .i64 nn, .slice A m c] w fun e w' => e = .returned (.bool true) ∧ Below w.heap.size w w' := by
  have HM := Lib.hid (mod8_any ds 17 (by decide) (by decide) w)
  rw [hk] at HM
  obtain ⟨N, hN⟩ : ∃ N : Nat, N = k + 1 := ⟨_, rfl⟩
  have HN := Lib.hid (show 1 ≤ N ∧ N ≤ 17 by omega)
  have e1 : 1 + (k : Int) = (N : Int) := by omega
  have HTB := Lib.hid hA.tabs.size
  have HWB := Lib.hid hA.wid.size
  have HALL := Lib.hid hA
  have hf0 := field0_st
  have HB : Hid (¬ (goodC N M St L ∧ 2 + 2 * L + St ≤ 37)) := Lib.hid (by have a0 := of_decide_eq_false h0; unfold goodC; omega)
  clear hN hk
  go_enter Tryz.func12, Tryz.ntmps12
  go_wp2_with (go_at_call 24; refine HM.out.mono ?_; rintro e w' ⟨rfl, rfl⟩)
  refine (Sh.new_ok N 40 w HN.out.1 HN.out.2 (by decide) (by decide)).mono ?_
  rintro e w1 ⟨p, F1, rfl, hS, hF, hb⟩
  have HAT := Lib.hid (show Sh.At w.heap.size w w1 p (Sh.newSf N 40) F1 from ⟨hS, hF, hb, hb.size⟩)
  have HA1 := hA.over hb
  have HLI := Lib.hid (lives_true w1 HA1.tabs HA1.fld HA1.wid)
  clear hS hF hb HA1 hA
  go_wp2_with fail
  refine HLI.out.mono ?_
  rintro e w2 ⟨rfl, b2⟩
  have HCR := Lib.hid (create_any (HAT.out.grown b2) HALL.out.tabs HTB.out HALL.out.wid HWB.out HN.out.1 HN.out.2 M St L)
  clear b2
  go_wp2_with fail
  refine HCR.out.mono ?_
  rintro e w3 ⟨⟨b3w, s3⟩, ⟨v, rfl, hy1, hy2⟩ | ⟨rfl, hno⟩⟩
  · exact absurd ⟨hy1, hy2⟩ HB.out
  have HB3 := Lib.hid (And.intro b3w s3)
  clear b3w s3
  go_wp2_with (go_at_call 40; refine (create_nil _).mono ?_; rintro e w4 ⟨rfl, b4w⟩)
  have HB4 := Lib.hid (And.intro (HB3.out.1.trans (b4w.mono HB3.out.2)) (Nat.le_trans HB3.out.2 b4w.size))
  clear b4w
  go_wp2_with fail
  refine (open_nil w4).mono ?_
  rintro e w5 ⟨rfl, b5w⟩
  have HB5 := Lib.hid (And.intro (HB4.out.1.trans (b5w.mono HB4.out.2)) (Nat.le_trans HB4.out.2 b5w.size))
  clear b5w
  go_wp2_with (first
    | (go_at_call 20; refine (read_nilv _ _).mono ?_; rintro e w' ⟨rfl, rfl⟩)
    | (go_at_call 22; refine (mend_nil _ _).mono ?_; rintro e w' ⟨rfl, rfl⟩)
    | (go_at_call 18; refine (whole_nil _ _).mono ?_; rintro e w' ⟨rfl, rfl⟩)
    | (go_at_call 27; refine (write_nilv _ _ _ _ _).mono ?_; rintro e w' ⟨rfl, rfl⟩)
    | (go_at_call 19; refine (flush_nil_vol _).mono ?_; rintro e w' ⟨rfl, rfl⟩)
    | (go_at_call 38; refine (size_nil_vol _).mono ?_; rintro e w' ⟨rfl, rfl⟩)
    | (go_at_call 42; refine (fill_nil _ _).mono ?_; rintro e w' ⟨rfl, rfl⟩)
    | (go_at_call 43; refine (save_nil _ _ _ _).mono ?_; rintro e w' ⟨rfl, rfl⟩)
    | (go_at_call 41; refine (spares_nil _).mono ?_; rintro e w6 ⟨rfl, b6w⟩)
    | (go_at_call 39; refine (status_nil _).mono ?_; rintro e w7 ⟨rfl, b7w⟩))
  go_ret
  exact ⟨rfl, (HB5.out.1.trans (b6w.mono HB5.out.2)).trans (b7w.mono (Nat.le_trans HB5.out.2 b6w.size))⟩

set_option maxRecDepth 100000 in
set_option maxHeartbeats 8000000 in
theorem walk_m2 {w : World} (M St L ds nn : Int) (A : Option Addr) (c m k : Nat) (hk : (ds % (17 : Nat)).toNat = k) (hk17 : k < 17) (hA : All w) (h0 : decide (3 ≤ M) = true) (h1 : decide (M ≤ 16) = false) :
    Calls Tryz.prog 12 #[.int .i64 M, .int .i64 St, .int .i64 L, .int .i64 ds, .int .i64 nn, .slice A m c] w fun e w' => e = .returned (.bool true) ∧ Below w.heap.size w w' := by
  have HM := Lib.hid (mod8_any ds 17 (by decide) (by decide) w)
  rw [hk] at HM
  obtain ⟨N, hN⟩ : ∃ N : Nat, N = k + 1 := ⟨_, rfl⟩
  have HN := Lib.hid (show 1 ≤ N ∧ N ≤ 17 by omega)
  have e1 : 1 + (k : Int) = (N : Int) := by omega
  have HTB := Lib.hid hA.tabs.size
  have HWB := Lib.hid hA.wid.size
  have HALL := Lib.hid hA
  have hf0 := field0_st
  have HB : Hid (¬ (goodC N M St L ∧ 2 + 2 * L + St ≤ 37)) := Lib.hid (by have a0 := of_decide_eq_true h0; have a1 := of_decide_eq_false h1; unfold goodC; omega)
  clear hN hk
  go_enter Tryz.func12, Tryz.ntmps12
  go_wp2_with (go_at_call 24; refine HM.out.mono ?_; rintro e w' ⟨rfl, rfl⟩)
  refine (Sh.new_ok N 40 w HN.out.1 HN.out.2 (by decide) (by decide)).mono ?_
  rintro e w1 ⟨p, F1, rfl, hS, hF, hb⟩
  have HAT := Lib.hid (show Sh.At w.heap.size w w1 p (Sh.newSf N 40) F1 from ⟨hS, hF, hb, hb.size⟩)
  have HA1 := hA.over hb
  have HLI := Lib.hid (lives_true w1 HA1.tabs HA1.fld HA1.wid)
  clear hS hF hb HA1 hA
  go_wp2_with fail
  refine HLI.out.mono ?_
  rintro e w2 ⟨rfl, b2⟩
  have HCR := Lib.hid (create_any (HAT.out.grown b2) HALL.out.tabs HTB.out HALL.out.wid HWB.out HN.out.1 HN.out.2 M St L)
  clear b2
  go_wp2_with fail
  refine HCR.out.mono ?_
  rintro e w3 ⟨⟨b3w, s3⟩, ⟨v, rfl, hy1, hy2⟩ | ⟨rfl, hno⟩⟩
  · exact absurd ⟨hy1, hy2⟩ HB.out
  have HB3 := Lib.hid (And.intro b3w s3)
  clear b3w s3
  go_wp2_with (go_at_call 40; refine (create_nil _).mono ?_; rintro e w4 ⟨rfl, b4w⟩)
  have HB4 := Lib.hid (And.intro (HB3.out.1.trans (b4w.mono HB3.out.2)) (Nat.le_trans HB3.out.2 b4w.size))
  clear b4w
  go_wp2_with fail
  refine (open_nil w4).mono ?_
  rintro e w5 ⟨rfl, b5w⟩
  have HB5 := Lib.hid (And.intro (HB4.out.1.trans (b5w.mono HB4.out.2)) (Nat.le_trans HB4.out.2 b5w.size))
  clear b5w
  go_wp2_with (first
    | (go_at_call 20; refine (read_nilv _ _).mono ?_; rintro e w' ⟨rfl, rfl⟩)
    | (go_at_call 22; refine (mend_nil _ _).mono ?_; rintro e w' ⟨rfl, rfl⟩)
    | (go_at_call 18; refine (whole_nil _ _).mono ?_; rintro e w' ⟨rfl, rfl⟩)
    | (go_at_call 27; refine (write_nilv _ _ _ _ _).mono ?_; rintro e w' ⟨rfl, rfl⟩)
    | (go_at_call 19; refine (flush_nil_vol _).mono ?_; rintro e w' ⟨rfl, rfl⟩)
    | (go_at_call 38; refine (size_nil_vol _).mono ?_; rintro e w' ⟨rfl, rfl⟩)
    | (go_at_call 42; refine (fill_nil _ _).mono ?_; rintro e w' ⟨rfl, rfl⟩)
    | (go_at_call 43; refine (save_nil _ _ _ _).mono ?_; rintro e w' ⟨rfl, rfl⟩)
    | (go_at_call 41; refine (spares_nil _).mono ?_; rintro e w6 ⟨rfl, b6w⟩)
    | (go_at_call 39; refine (status_nil _).mono ?_; rintro e w7 ⟨rfl, b7w⟩))
  go_ret
  exact ⟨rfl, (HB5.out.1.trans (b6w.mono HB5.out.2)).trans (b7w.mono (Nat.le_trans HB5.out.2 b6w.size))⟩

set_option maxRecDepth 100000 in
set_option maxHeartbeats 8000000 in
theorem walk_l1 {w : World} (M St L ds nn : Int) (A : Option Addr) (c m k : Nat) (hk : (ds % (17 : Nat)).toNat = k) (hk17 : k < 17) (hA : All w) (h0 : decide (3 ≤ M) = true) (h1 : decide (M ≤ 16) = true) (h2 : decide (1 ≤ L) = false) :
    Calls Tryz.prog 12 #[.int .i64 M, .int .i64 St, .int .i64 L, .int .i64 ds, .int .i64 nn, .slice A m c] w fun e w' => e = .returned (.bool true) ∧ Below w.heap.size w w' := by
  have HM := Lib.hid (mod8_any ds 17 (by decide) (by decide) w)
  rw [hk] at HM
  obtain ⟨N, hN⟩ : ∃ N : Nat, N = k + 1 := ⟨_, rfl⟩
  have HN := Lib.hid (show 1 ≤ N ∧ N ≤ 17 by omega)
  have e1 : 1 + (k : Int) = (N : Int) := by omega
  have HTB := Lib.hid hA.tabs.size
  have HWB := Lib.hid hA.wid.size
  have HALL := Lib.hid hA
  have hf0 := field0_st
  have HB : Hid (¬ (goodC N M St L ∧ 2 + 2 * L + St ≤ 37)) := Lib.hid (by have a0 := of_decide_eq_true h0; have a1 := of_decide_eq_true h1; have a2 := of_decide_eq_false h2; unfold goodC; omega)
  clear hN hk
  go_enter Tryz.func12, Tryz.ntmps12
  go_wp2_with (go_at_call 24; refine HM.out.mono ?_; rintro e w' ⟨rfl, rfl⟩)
  refine (Sh.new_ok N 40 w HN.out.1 HN.out.2 (by decide) (by decide)).mono ?_
  rintro e w1 ⟨p, F1, rfl, hS, hF, hb⟩
  have HAT := Lib.hid (show Sh.At w.heap.size w w1 p (Sh.newSf N 40) F1 from ⟨hS, hF, hb, hb.size⟩)
  have HA1 := hA.over hb
  have HLI := Lib.hid (lives_true w1 HA1.tabs HA1.fld HA1.wid)
  clear hS hF hb HA1 hA
  go_wp2_with fail
  refine HLI.out.mono ?_
  rintro e w2 ⟨rfl, b2⟩
  have HCR := Lib.hid (create_any (HAT.out.grown b2) HALL.out.tabs HTB.out HALL.out.wid HWB.out HN.out.1 HN.out.2 M St L)
  clear b2
  go_wp2_with fail
  refine HCR.out.mono ?_
  rintro e w3 ⟨⟨b3w, s3⟩, ⟨v, rfl, hy1, hy2⟩ | ⟨rfl, hno⟩⟩
  · exact absurd ⟨hy1, hy2⟩ HB.out
  have HB3 := Lib.hid (And.intro b3w s3)
  clear b3w s3
  go_wp2_with (go_at_call 40; refine (create_nil _).mono ?_; rintro e w4 ⟨rfl, b4w⟩)
  have HB4 := Lib.hid (And.intro (HB3.out.1.trans (b4w.mono HB3.out.2)) (Nat.le_trans HB3.out.2 b4w.size))
  clear b4w
  go_wp2_with fail
  refine (open_nil w4).mono ?_
  rintro e w5 ⟨rfl, b5w⟩
  have HB5 := Lib.hid (And.intro (HB4.out.1.trans (b5w.mono HB4.out.2)) (Nat.le_trans HB4.out.2 b5w.size))
  clear b5w
  go_wp2_with (first
    | (go_at_call 20; refine (read_nilv _ _).mono ?_; rintro e w' ⟨rfl, rfl⟩)
    | (go_at_call 22; refine (mend_nil _ _).mono ?_; rintro e w' ⟨rfl, rfl⟩)
    | (go_at_call 18; refine (whole_nil _ _).mono ?_; rintro e w' ⟨rfl, rfl⟩)
    | (go_at_call 27; refine (write_nilv _ _ _ _ _).mono ?_; rintro e w' ⟨rfl, rfl⟩)
    | (go_at_call 19; refine (flush_nil_vol _).mono ?_; rintro e w' ⟨rfl, rfl⟩)
    | (go_at_call 38; refine (size_nil_vol _).mono ?_; rintro e w' ⟨rfl, rfl⟩)
    | (go_at_call 42; refine (fill_nil _ _).mono ?_; rintro e w' ⟨rfl, rfl⟩)
    | (go_at_call 43; refine (save_nil _ _ _ _).mono ?_; rintro e w' ⟨rfl, rfl⟩)
    | (go_at_call 41; refine (spares_nil _).mono ?_; rintro e w6 ⟨rfl, b6w⟩)
    | (go_at_call 39; refine (status_nil _).mono ?_; rintro e w7 ⟨rfl, b7w⟩))
  go_ret
  exact ⟨rfl, (HB5.out.1.trans (b6w.mono HB5.out.2)).trans (b7w.mono (Nat.le_trans HB5.out.2 b6w.size))⟩

set_option maxRecDepth 100000 in
set_option maxHeartbeats 8000000 in
theorem walk_l2 {w : World} (M St L ds nn : Int) (A : Option Addr) (c m k : Nat) (hk : (ds % (17 : Nat)).toNat = k) (hk17 : k < 17) (hA : All w) (h0 : decide (3 ≤ M) = true) (h1 : decide (M ≤ 16) = true) (h2 : decide (1 ≤ L) = true) (h3 : decide (L ≤ 8) = false) :
    Calls Tryz.prog 12 #[.int .i64 M, .int .i64 St, .int .i64 L, .int .i64 ds, .int .i64 nn, .slice A m c] w fun e w' => e = .returned (.bool true) ∧ Below w.heap.size w w' := by
  have HM := Lib.hid (mod8_any ds 17 (by decide) (by decide) w)
  rw [hk] at HM
  obtain ⟨N, hN⟩ : ∃ N : Nat, N = k + 1 := ⟨_, rfl⟩
  have HN := Lib.hid (show 1 ≤ N ∧ N ≤ 17 by omega)
  have e1 : 1 + (k : Int) = (N : Int) := by omega
  have HTB := Lib.hid hA.tabs.size
  have HWB := Lib.hid hA.wid.size
  have HALL := Lib.hid hA
  have hf0 := field0_st
  have HB : Hid (¬ (goodC N M St L ∧ 2 + 2 * L + St ≤ 37)) := Lib.hid (by have a0 := of_decide_eq_true h0; have a1 := of_decide_eq_true h1; have a2 := of_decide_eq_true h2; have a3 := of_decide_eq_false h3; unfold goodC; omega)
  clear hN hk
  go_enter Tryz.func12, Tryz.ntmps12
  go_wp2_with (go_at_call 24; refine HM.out.mono ?_; rintro e w' ⟨rfl, rfl⟩)
  refine (Sh.new_ok N 40 w HN.out.1 HN.out.2 (by decide) (by decide)).mono ?_
  rintro e w1 ⟨p, F1, rfl, hS, hF, hb⟩
  have HAT := Lib.hid (show Sh.At w.heap.size w w1 p (Sh.newSf N 40) F1 from ⟨hS, hF, hb, hb.size⟩)
  have HA1 := hA.over hb
  have HLI := Lib.hid (lives_true w1 HA1.tabs HA1.fld HA1.wid)
  clear hS hF hb HA1 hA
  go_wp2_with fail
  refine HLI.out.mono ?_
  rintro e w2 ⟨rfl, b2⟩
  have HCR := Lib.hid (create_any (HAT.out.grown b2) HALL.out.tabs HTB.out HALL.out.wid HWB.out HN.out.1 HN.out.2 M St L)
  clear b2
  go_wp2_with fail
  refine HCR.out.mono ?_
  rintro e w3 ⟨⟨b3w, s3⟩, ⟨v, rfl, hy1, hy2⟩ | ⟨rfl, hno⟩⟩
  · exact absurd ⟨hy1, hy2⟩ HB.out
  have HB3 := Lib.hid (And.intro b3w s3)
  clear b3w s3
  go_wp2_with (go_at_call 40; refine (create_nil _).mono ?_; rintro e w4 ⟨rfl, b4w⟩)
  have HB4 := Lib.hid (And.intro (HB3.out.1.trans (b4w.mono HB3.out.2)) (Nat.le_trans HB3.out.2 b4w.size))
  clear b4w
  go_wp2_with fail
  refine (open_nil w4).mono ?_
  rintro e w5 ⟨rfl, b5w⟩
  have HB5 := Lib.hid (And.intro (HB4.out.1.trans (b5w.mono HB4.out.2)) (Nat.le_trans HB4.out.2 b5w.size))
  clear b5w
  go_wp2_with (first
    | (go_at_call 20; refine (read_nilv _ _).mono ?_; rintro e w' ⟨rfl, rfl⟩)
    | (go_at_call 22; refine (mend_nil _ _).mono ?_; rintro e w' ⟨rfl, rfl⟩)
    | (go_at_call 18; refine (whole_nil _ _).mono ?_; rintro e w' ⟨rfl, rfl⟩)
    | (go_at_call 27; refine (write_nilv _ _ _ _ _).mono ?_; rintro e w' ⟨rfl, rfl⟩)
    | (go_at_call 19; refine (flush_nil_vol _).mono ?_; rintro e w' ⟨rfl, rfl⟩)
    | (go_at_call 38; refine (size_nil_vol _).mono ?_; rintro e w' ⟨rfl, rfl⟩)
    | (go_at_call 42; refine (fill_nil _ _).mono ?_; rintro e w' ⟨rfl, rfl⟩)
    | (go_at_call 43; refine (save_nil _ _ _ _).mono ?_; rintro e w' ⟨rfl, rfl⟩)
    | (go_at_call 41; refine (spares_nil _).mono ?_; rintro e w6 ⟨rfl, b6w⟩)
    | (go_at_call 39; refine (status_nil _).mono ?_; rintro e w7 ⟨rfl, b7w⟩))
  go_ret
  exact ⟨rfl, (HB5.out.1.trans (b6w.mono HB5.out.2)).trans (b7w.mono (Nat.le_trans HB5.out.2 b6w.size))⟩

set_option maxRecDepth 100000 in
set_option maxHeartbeats 8000000 in
theorem walk_s1 {w : World} (M St L ds nn : Int) (A : Option Addr) (c m k : Nat) (hk : (ds % (17 : Nat)).toNat = k) (hk17 : k < 17) (hA : All w) (h0 : decide (3 ≤ M) = true) (h1 : decide (M ≤ 16) = true) (h2 : decide (1 ≤ L) = true) (h3 : decide (L ≤ 8) = true) (h4 : decide (1 ≤ St) = false) :
    Calls Tryz.prog 12 #[.int .i64 M, .int .i64 St, .int .i64 L, .int .i64 ds, .int .i64 nn, .slice A m c] w fun e w' => e = .returned (.bool true) ∧ Below w.heap.size w w' := by
  have HM := Lib.hid (mod8_any ds 17 (by decide) (by decide) w)
  rw [hk] at HM
  obtain ⟨N, hN⟩ : ∃ N : Nat, N = k + 1 := ⟨_, rfl⟩
  have HN := Lib.hid (show 1 ≤ N ∧ N ≤ 17 by omega)
  have e1 : 1 + (k : Int) = (N : Int) := by omega
  have HTB := Lib.hid hA.tabs.size
  have HWB := Lib.hid hA.wid.size
  have HALL := Lib.hid hA
  have hf0 := field0_st
  have HB : Hid (¬ (goodC N M St L ∧ 2 + 2 * L + St ≤ 37)) := Lib.hid (by have a0 := of_decide_eq_true h0; have a1 := of_decide_eq_true h1; have a2 := of_decide_eq_true h2; have a3 := of_decide_eq_true h3; have a4 := of_decide_eq_false h4; unfold goodC; omega)
  clear hN hk
  go_enter Tryz.func12, Tryz.ntmps12
  go_wp2_with (go_at_call 24; refine HM.out.mono ?_; rintro e w' ⟨rfl, rfl⟩)
  refine (Sh.new_ok N 40 w HN.out.1 HN.out.2 (by decide) (by decide)).mono ?_
  rintro e w1 ⟨p, F1, rfl, hS, hF, hb⟩
  have HAT := Lib.hid (show Sh.At w.heap.size w w1 p (Sh.newSf N 40) F1 from ⟨hS, hF, hb, hb.size⟩)
  have HA1 := hA.over hb
  have HLI := Lib.hid (lives_true w1 HA1.tabs HA1.fld HA1.wid)
  clear hS hF hb HA1 hA
  go_wp2_with fail
  refine HLI.out.mono ?_
  rintro e w2 ⟨rfl, b2⟩
  have HCR := Lib.hid (create_any (HAT.out.grown b2) HALL.out.tabs HTB.out HALL.out.wid HWB.out HN.out.1 HN.out.2 M St L)
  clear b2
  go_wp2_with fail
  refine HCR.out.mono ?_
  rintro e w3 ⟨⟨b3w, s3⟩, ⟨v, rfl, hy1, hy2⟩ | ⟨rfl, hno⟩⟩
  · exact absurd ⟨hy1, hy2⟩ HB.out
  have HB3 := Lib.hid (And.intro b3w s3)
  clear b3w s3
  go_wp2_with (go_at_call 40; refine (create_nil _).mono ?_; rintro e w4 ⟨rfl, b4w⟩)
  have HB4 := Lib.hid (And.intro (HB3.out.1.trans (b4w.mono HB3.out.2)) (Nat.le_trans HB3.out.2 b4w.size))
  clear b4w
  go_wp2_with fail
  refine (open_nil w4).mono ?_
  rintro e w5 ⟨rfl, b5w⟩
  have HB5 := Lib.hid (And.intro (HB4.out.1.trans (b5w.mono HB4.out.2)) (Nat.le_trans HB4.out.2 b5w.size))
  clear b5w
  go_wp2_with (first
    | (go_at_call 20; refine (read_nilv _ _).mono ?_; rintro e w' ⟨rfl, rfl⟩)
    | (go_at_call 22; refine (mend_nil _ _).mono ?_; rintro e w' ⟨rfl, rfl⟩)
    | (go_at_call 18; refine (whole_nil _ _).mono ?_; rintro e w' ⟨rfl, rfl⟩)
    | (go_at_call 27; refine (write_nilv _ _ _ _ _).mono ?_; rintro e w' ⟨rfl, rfl⟩)
    | (go_at_call 19; refine (flush_nil_vol _).mono ?_; rintro e w' ⟨rfl, rfl⟩)
    | (go_at_call 38; refine (size_nil_vol _).mono ?_; rintro e w' ⟨rfl, rfl⟩)
    | (go_at_call 42; refine (fill_nil _ _).mono ?_; rintro e w' ⟨rfl, rfl⟩)
    | (go_at_call 43; refine (save_nil _ _ _ _).mono ?_; rintro e w' ⟨rfl, rfl⟩)
    | (go_at_call 41; refine (spares_nil _).mono ?_; rintro e w6 ⟨rfl, b6w⟩)
    | (go_at_call 39; refine (status_nil _).mono ?_; rintro e w7 ⟨rfl, b7w⟩))
  go_ret
  exact ⟨rfl, (HB5.out.1.trans (b6w.mono HB5.out.2)).trans (b7w.mono (Nat.le_trans HB5.out.2 b6w.size))⟩

set_option maxRecDepth 100000 in
set_option maxHeartbeats 8000000 in
theorem walk_s2 {w : World} (M St L ds nn : Int) (A : Option Addr) (c m k : Nat) (hk : (ds % (17 : Nat)).toNat = k) (hk17 : k < 17) (hA : All w) (h0 : decide (3 ≤ M) = true) (h1 : decide (M ≤ 16) = true) (h2 : decide (1 ≤ L) = true) (h3 : decide (L ≤ 8) = true) (h4 : decide (1 ≤ St) = true) (h5 : decide (St ≤ 35 - 2 * L) = false) :
    Calls Tryz.prog 12 #[.int .i64 M, .int .i64 St, .int .i64 L, .int .i64 ds, .int .i64 nn, .slice A m c] w fun e w' => e = .returned (.bool true) ∧ Below w.heap.size w w' := by
  have HM := Lib.hid (mod8_any ds 17 (by decide) (by decide) w)
  rw [hk] at HM
  obtain ⟨N, hN⟩ : ∃ N : Nat, N = k + 1 := ⟨_, rfl⟩
  have HN := Lib.hid (show 1 ≤ N ∧ N ≤ 17 by omega)
  have e1 : 1 + (k : Int) = (N : Int) := by omega
  have HTB := Lib.hid hA.tabs.size
  have HWB := Lib.hid hA.wid.size
  have HALL := Lib.hid hA
  have hf0 := field0_st
  have HB : Hid (¬ (goodC N M St L ∧ 2 + 2 * L + St ≤ 37)) := Lib.hid (by have a0 := of_decide_eq_true h0; have a1 := of_decide_eq_true h1; have a2 := of_decide_eq_true h2; have a3 := of_decide_eq_true h3; have a4 := of_decide_eq_true h4; have a5 := of_decide_eq_false h5; unfold goodC; omega)
  have b1 : 1 ≤ L := of_decide_eq_true h2
  have b2 : L ≤ 8 := of_decide_eq_true h3
  clear hN hk
  go_enter Tryz.func12, Tryz.ntmps12
  go_wp2_with (go_at_call 24; refine HM.out.mono ?_; rintro e w' ⟨rfl, rfl⟩)
  refine (Sh.new_ok N 40 w HN.out.1 HN.out.2 (by decide) (by decide)).mono ?_
  rintro e w1 ⟨p, F1, rfl, hS, hF, hb⟩
  have HAT := Lib.hid (show Sh.At w.heap.size w w1 p (Sh.newSf N 40) F1 from ⟨hS, hF, hb, hb.size⟩)
  have HA1 := hA.over hb
  have HLI := Lib.hid (lives_true w1 HA1.tabs HA1.fld HA1.wid)
  clear hS hF hb HA1 hA
  go_wp2_with fail
  refine HLI.out.mono ?_
  rintro e w2 ⟨rfl, b2⟩
  have HCR := Lib.hid (create_any (HAT.out.grown b2) HALL.out.tabs HTB.out HALL.out.wid HWB.out HN.out.1 HN.out.2 M St L)
  clear b2
  go_wp2_with fail
  refine HCR.out.mono ?_
  rintro e w3 ⟨⟨b3w, s3⟩, ⟨v, rfl, hy1, hy2⟩ | ⟨rfl, hno⟩⟩
  · exact absurd ⟨hy1, hy2⟩ HB.out
  have HB3 := Lib.hid (And.intro b3w s3)
  clear b3w s3
  go_wp2_with (go_at_call 40; refine (create_nil _).mono ?_; rintro e w4 ⟨rfl, b4w⟩)
  have HB4 := Lib.hid (And.intro (HB3.out.1.trans (b4w.mono HB3.out.2)) (Nat.le_trans HB3.out.2 b4w.size))
  clear b4w
  go_wp2_with fail
  refine (open_nil w4).mono ?_
  rintro e w5 ⟨rfl, b5w⟩
  have HB5 := Lib.hid (And.intro (HB4.out.1.trans (b5w.mono HB4.out.2)) (Nat.le_trans HB4.out.2 b5w.size))
  clear b5w
  go_wp2_with (first
    | (go_at_call 20; refine (read_nilv _ _).mono ?_; rintro e w' ⟨rfl, rfl⟩)
    | (go_at_call 22; refine (mend_nil _ _).mono ?_; rintro e w' ⟨rfl, rfl⟩)
    | (go_at_call 18; refine (whole_nil _ _).mono ?_; rintro e w' ⟨rfl, rfl⟩)
    | (go_at_call 27; refine (write_nilv _ _ _ _ _).mono ?_; rintro e w' ⟨rfl, rfl⟩)
    | (go_at_call 19; refine (flush_nil_vol _).mono ?_; rintro e w' ⟨rfl, rfl⟩)
    | (go_at_call 38; refine (size_nil_vol _).mono ?_; rintro e w' ⟨rfl, rfl⟩)
    | (go_at_call 42; refine (fill_nil _ _).mono ?_; rintro e w' ⟨rfl, rfl⟩)
    | (go_at_call 43; refine (save_nil _ _ _ _).mono ?_; rintro e w' ⟨rfl, rfl⟩)
    | (go_at_call 41; refine (spares_nil _).mono ?_; rintro e w6 ⟨rfl, b6w⟩)
    | (go_at_call 39; refine (status_nil _).mono ?_; rintro e w7 ⟨rfl, b7w⟩))
  go_ret
  exact ⟨rfl, (HB5.out.1.trans (b6w.mono HB5.out.2)).trans (b7w.mono (Nat.le_trans HB5.out.2 b6w.size))⟩

set_option maxRecDepth 100000 in
set_option maxHeartbeats 8000000 in
theorem walk_k1 {w : World} (M St L ds nn : Int) (A : Option Addr) (c m k : Nat) (hk : (ds % (17 : Nat)).toNat = k) (hk17 : k < 17) (hA : All w) (h0 : decide (3 ≤ M) = true) (h1 : decide (M ≤ 16) = true) (h2 : decide (1 ≤ L) = true) (h3 : decide (L ≤ 8) = true) (h4 : decide (1 ≤ St) = true) (h5 : decide (St ≤ 35 - 2 * L) = true) (h6 : ((k + 1 : Nat) : Int) ≠ M) (h7 : ((k + 1 : Nat) : Int) ≠ M + 1) :
    Calls Tryz.prog 12 #[.int .i64 M, .int .i64 St, .int .i64 L, .int .i64 ds, .int .i64 nn, .slice A m c] w fun e w' => e = .returned (.bool true) ∧ Below w.heap.size w w' := by
  have HM := Lib.hid (mod8_any ds 17 (by decide) (by decide) w)
  rw [hk] at HM
  obtain ⟨N, hN⟩ : ∃ N : Nat, N = k + 1 := ⟨_, rfl⟩
  have HN := Lib.hid (show 1 ≤ N ∧ N ≤ 17 by omega)
  have e1 : 1 + (k : Int) = (N : Int) := by omega
  have HTB := Lib.hid hA.tabs.size
  have HWB := Lib.hid hA.wid.size
  have HALL := Lib.hid hA
  have hf0 := field0_st
  rw [← hN] at h6
  rw [← hN] at h7
  have q6 : ((N : Int) == M) = false := by simpa using h6
  have q7 : ((N : Int) == M + 1) = false := by simpa using h7
  have HB : Hid (¬ (goodC N M St L ∧ 2 + 2 * L + St ≤ 37)) := Lib.hid (by unfold goodC; omega)
  have b1 : 1 ≤ L := of_decide_eq_true h2
  have b2 : L ≤ 8 := of_decide_eq_true h3
  have b3 : 3 ≤ M := of_decide_eq_true h0
  have b4 : M ≤ 16 := of_decide_eq_true h1
  clear h6 h7
  clear hN hk
  go_enter Tryz.func12, Tryz.ntmps12
  go_wp2_with (go_at_call 24; refine HM.out.mono ?_; rintro e w' ⟨rfl, rfl⟩)
  refine (Sh.new_ok N 40 w HN.out.1 HN.out.2 (by decide) (by decide)).mono ?_
  rintro e w1 ⟨p, F1, rfl, hS, hF, hb⟩
  have HAT := Lib.hid (show Sh.At w.heap.size w w1 p (Sh.newSf N 40) F1 from ⟨hS, hF, hb, hb.size⟩)
  have HA1 := hA.over hb
  have HLI := Lib.hid (lives_true w1 HA1.tabs HA1.fld HA1.wid)
  clear hS hF hb HA1 hA
  go_wp2_with fail
  refine HLI.out.mono ?_
  rintro e w2 ⟨rfl, b2⟩
  have HCR := Lib.hid (create_any (HAT.out.grown b2) HALL.out.tabs HTB.out HALL.out.wid HWB.out HN.out.1 HN.out.2 M St L)
  clear b2
  go_wp2_with fail
  refine HCR.out.mono ?_
  rintro e w3 ⟨⟨b3w, s3⟩, ⟨v, rfl, hy1, hy2⟩ | ⟨rfl, hno⟩⟩
  · exact absurd ⟨hy1, hy2⟩ HB.out
  have HB3 := Lib.hid (And.intro b3w s3)
  clear b3w s3
  go_wp2_with (go_at_call 40; refine (create_nil _).mono ?_; rintro e w4 ⟨rfl, b4w⟩)
  have HB4 := Lib.hid (And.intro (HB3.out.1.trans (b4w.mono HB3.out.2)) (Nat.le_trans HB3.out.2 b4w.size))
  clear b4w
  go_wp2_with fail
  refine (open_nil w4).mono ?_
  rintro e w5 ⟨rfl, b5w⟩
  have HB5 := Lib.hid (And.intro (HB4.out.1.trans (b5w.mono HB4.out.2)) (Nat.le_trans HB4.out.2 b5w.size))
  clear b5w
  go_wp2_with (first
    | (go_at_call 20; refine (read_nilv _ _).mono ?_; rintro e w' ⟨rfl, rfl⟩)
    | (go_at_call 22; refine (mend_nil _ _).mono ?_; rintro e w' ⟨rfl, rfl⟩)
    | (go_at_call 18; refine (whole_nil _ _).mono ?_; rintro e w' ⟨rfl, rfl⟩)
    | (go_at_call 27; refine (write_nilv _ _ _ _ _).mono ?_; rintro e w' ⟨rfl, rfl⟩)
    | (go_at_call 19; refine (flush_nil_vol _).mono ?_; rintro e w' ⟨rfl, rfl⟩)
    | (go_at_call 38; refine (size_nil_vol _).mono ?_; rintro e w' ⟨rfl, rfl⟩)
    | (go_at_call 42; refine (fill_nil _ _).mono ?_; rintro e w' ⟨rfl, rfl⟩)
    | (go_at_call 43; refine (save_nil _ _ _ _).mono ?_; rintro e w' ⟨rfl, rfl⟩)
    | (go_at_call 41; refine (spares_nil _).mono ?_; rintro e w6 ⟨rfl, b6w⟩)
    | (go_at_call 39; refine (status_nil _).mono ?_; rintro e w7 ⟨rfl, b7w⟩))
  go_ret
  exact ⟨rfl, (HB5.out.1.trans (b6w.mono HB5.out.2)).trans (b7w.mono (Nat.le_trans HB5.out.2 b6w.size))⟩

set_option maxRecDepth 100000 in
set_option maxHeartbeats 8000000 in
theorem walk_r1 {w : World} (M St L ds nn : Int) (A : Option Addr) (c m k : Nat) (hk : (ds % (17 : Nat)).toNat = k) (hk17 : k < 17) (hA : All w) (h0 : decide (3 ≤ M) = true) (h1 : decide (M ≤ 16) = true) (h2 : decide (1 ≤ L) = true) (h3 : decide (L ≤ 8) = true) (h4 : decide (1 ≤ St) = true) (h5 : decide (St ≤ 35 - 2 * L) = true) (h6 : ((k + 1 : Nat) : Int) = M) :
    Calls Tryz.prog 12 #[.int .i64 M, .int .i64 St, .int .i64 L, .int .i64 ds, .int .i64 nn, .slice A m c] w fun e w' => e = .returned (.bool true) ∧ Below w.heap.size w w' := by
  have HM := Lib.hid (mod8_any ds 17 (by decide) (by decide) w)
  rw [hk] at HM
  obtain ⟨N, hN⟩ : ∃ N : Nat, N = k + 1 := ⟨_, rfl⟩
  have HN := Lib.hid (show 1 ≤ N ∧ N ≤ 17 by omega)
  have e1 : 1 + (k : Int) = (N : Int) := by omega
  have HTB := Lib.hid hA.tabs.size
  have HWB := Lib.hid hA.wid.size
  have HALL := Lib.hid hA
  have hf0 := field0_st
  rw [← hN] at h6
  have q6 : ((N : Int) == M) = true := by simpa using h6
  have HB : Hid (goodC N M St L ∧ 2 + 2 * L + St ≤ 37) := Lib.hid (by have a0 := of_decide_eq_true h0; have a1 := of_decide_eq_true h1; have a2 := of_decide_eq_true h2; have a3 := of_decide_eq_true h3; have a4 := of_decide_eq_true h4; have a5 := of_decide_eq_true h5; unfold goodC; omega)
  have b1 : 1 ≤ L := of_decide_eq_true h2
  have b2 : L ≤ 8 := of_decide_eq_true h3
  have b3 : 3 ≤ M := of_decide_eq_true h0
  have b4 : M ≤ 16 := of_decide_eq_true h1
  clear h6
  clear hN hk
  go_enter Tryz.func12, Tryz.ntmps12
  go_wp2_with (go_at_call 24; refine HM.out.mono ?_; rintro e w' ⟨rfl, rfl⟩)
  refine (Sh.new_ok N 40 w HN.out.1 HN.out.2 (by decide) (by decide)).mono ?_
  rintro e w1 ⟨p, F1, rfl, hS, hF, hb⟩
  have HAT := Lib.hid (show Sh.At w.heap.size w w1 p (Sh.newSf N 40) F1 from ⟨hS, hF, hb, hb.size⟩)
  have HA1 := hA.over hb
  have HLI := Lib.hid (lives_true w1 HA1.tabs HA1.fld HA1.wid)
  clear hS hF hb HA1 hA
  go_wp2_with fail
  refine HLI.out.mono ?_
  rintro e w2 ⟨rfl, b2⟩
  have HCR := Lib.hid (create_any (HAT.out.grown b2) HALL.out.tabs HTB.out HALL.out.wid HWB.out HN.out.1 HN.out.2 M St L)
  clear b2
  go_wp2_with fail
  refine HCR.out.mono ?_
  rintro e w3 ⟨⟨b3w, s3⟩, ⟨v, rfl, _, _⟩ | ⟨_, hno⟩⟩
  rotate_left
  · exact absurd HB.out hno
  have HB3 := Lib.hid (And.intro b3w s3)
  clear b3w s3
  go_wp2_with (go_at_call 40; refine (create_nil _).mono ?_; rintro e w4 ⟨rfl, b4w⟩)
  have HB4 := Lib.hid (And.intro (HB3.out.1.trans (b4w.mono HB3.out.2)) (Nat.le_trans HB3.out.2 b4w.size))
  clear b4w
  go_wp2_with fail
  refine (open_nil w4).mono ?_
  rintro e w5 ⟨rfl, b5w⟩
  have HB5 := Lib.hid (And.intro (HB4.out.1.trans (b5w.mono HB4.out.2)) (Nat.le_trans HB4.out.2 b5w.size))
  clear b5w
  go_wp2_with (first
    | (go_at_call 20; refine (read_nilv _ _).mono ?_; rintro e w' ⟨rfl, rfl⟩)
    | (go_at_call 22; refine (mend_nil _ _).mono ?_; rintro e w' ⟨rfl, rfl⟩)
    | (go_at_call 18; refine (whole_nil _ _).mono ?_; rintro e w' ⟨rfl, rfl⟩)
    | (go_at_call 27; refine (write_nilv _ _ _ _ _).mono ?_; rintro e w' ⟨rfl, rfl⟩)
    | (go_at_call 19; refine (flush_nil_vol _).mono ?_; rintro e w' ⟨rfl, rfl⟩)
    | (go_at_call 38; refine (size_nil_vol _).mono ?_; rintro e w' ⟨rfl, rfl⟩)
    | (go_at_call 42; refine (fill_nil _ _).mono ?_; rintro e w' ⟨rfl, rfl⟩)
    | (go_at_call 43; refine (save_nil _ _ _ _).mono ?_; rintro e w' ⟨rfl, rfl⟩)
    | (go_at_call 41; refine (spares_nil _).mono ?_; rintro e w6 ⟨rfl, b6w⟩)
    | (go_at_call 39; refine (status_nil _).mono ?_; rintro e w7 ⟨rfl, b7w⟩))
  go_ret
  exact ⟨rfl, (HB5.out.1.trans (b6w.mono HB5.out.2)).trans (b7w.mono (Nat.le_trans HB5.out.2 b6w.size))⟩

set_option maxRecDepth 100000 in
set_option maxHeartbeats 8000000 in
theorem walk_r2 {w : World} (M St L ds nn : Int) (A : Option Addr) (c m k : Nat) (hk : (ds % (17 : Nat)).toNat = k) (hk17 : k < 17) (hA : All w) (h0 : decide (3 ≤ M) = true) (h1 : decide (M ≤ 16) = true) (h2 : decide (1 ≤ L) = true) (h3 : decide (L ≤ 8) = true) (h4 : decide (1 ≤ St) = true) (h5 : decide (St ≤ 35 - 2 * L) = true) (h6 : ((k + 1 : Nat) : Int) ≠ M) (h7 : ((k + 1 : Nat) : Int) = M + 1) :
    Calls Tryz.prog 12 #[.int .i64 M, .int .i64 St, .int .i64 L, .int .i64 ds, .int .i64 nn, .slice A m c] w fun e w' => e = .returned (.bool true) ∧ Below w.heap.size w w' := by
  have HM := Lib.hid (mod8_any ds 17 (by decide) (by decide) w)
  rw [hk] at HM
  obtain ⟨N, hN⟩ : ∃ N : Nat, N = k + 1 := ⟨_, rfl⟩
  have HN := Lib.hid (show 1 ≤ N ∧ N ≤ 17 by omega)
  have e1 : 1 + (k : Int) = (N : Int) := by omega
  have HTB := Lib.hid hA.tabs.size
  have HWB := Lib.hid hA.wid.size
  have HALL := Lib.hid hA
  have hf0 := field0_st
  rw [← hN] at h6
  rw [← hN] at h7
  have q6 : ((N : Int) == M) = false := by simpa using h6
  have q7 : ((N : Int) == M + 1) = true := by simpa using h7
  have HB : Hid (goodC N M St L ∧ 2 + 2 * L + St ≤ 37) := Lib.hid (by have a0 := of_decide_eq_true h0; have a1 := of_decide_eq_true h1; have a2 := of_decide_eq_true h2; have a3 := of_decide_eq_true h3; have a4 := of_decide_eq_true h4; have a5 := of_decide_eq_true h5; unfold goodC; omega)
  have b1 : 1 ≤ L := of_decide_eq_true h2
  have b2 : L ≤ 8 := of_decide_eq_true h3
  have b3 : 3 ≤ M := of_decide_eq_true h0
  have b4 : M ≤ 16 := of_decide_eq_true h1
  clear h6 h7
  clear hN hk
  go_enter Tryz.func12, Tryz.ntmps12
  go_wp2_with (go_at_call 24; refine HM.out.mono ?_; rintro e w' ⟨rfl, rfl⟩)
  refine (Sh.new_ok N 40 w HN.out.1 HN.out.2 (by decide) (by decide)).mono ?_
  rintro e w1 ⟨p, F1, rfl, hS, hF, hb⟩
  have HAT := Lib.hid (show Sh.At w.heap.size w w1 p (Sh.newSf N 40) F1 from ⟨hS, hF, hb, hb.size⟩)
  have HA1 := hA.over hb
  have HLI := Lib.hid (lives_true w1 HA1.tabs HA1.fld HA1.wid)
  clear hS hF hb HA1 hA
  go_wp2_with fail
  refine HLI.out.mono ?_
  rintro e w2 ⟨rfl, b2⟩
  have HCR := Lib.hid (create_any (HAT.out.grown b2) HALL.out.tabs HTB.out HALL.out.wid HWB.out HN.out.1 HN.out.2 M St L)
  clear b2
  go_wp2_with fail
  refine HCR.out.mono ?_
  rintro e w3 ⟨⟨b3w, s3⟩, ⟨v, rfl, _, _⟩ | ⟨_, hno⟩⟩
  rotate_left
  · exact absurd HB.out hno
  have HB3 := Lib.hid (And.intro b3w s3)
  clear b3w s3
  go_wp2_with (go_at_call 40; refine (create_nil _).mono ?_; rintro e w4 ⟨rfl, b4w⟩)
  have HB4 := Lib.hid (And.intro (HB3.out.1.trans (b4w.mono HB3.out.2)) (Nat.le_trans HB3.out.2 b4w.size))
  clear b4w
  go_wp2_with fail
  refine (open_nil w4).mono ?_
  rintro e w5 ⟨rfl, b5w⟩
  have HB5 := Lib.hid (And.intro (HB4.out.1.trans (b5w.mono HB4.out.2)) (Nat.le_trans HB4.out.2 b5w.size))
  clear b5w
  go_wp2_with (first
    | (go_at_call 20; refine (read_nilv _ _).mono ?_; rintro e w' ⟨rfl, rfl⟩)
    | (go_at_call 22; refine (mend_nil _ _).mono ?_; rintro e w' ⟨rfl, rfl⟩)
    | (go_at_call 18; refine (whole_nil _ _).mono ?_; rintro e w' ⟨rfl, rfl⟩)
    | (go_at_call 27; refine (write_nilv _ _ _ _ _).mono ?_; rintro e w' ⟨rfl, rfl⟩)
    | (go_at_call 19; refine (flush_nil_vol _).mono ?_; rintro e w' ⟨rfl, rfl⟩)
    | (go_at_call 38; refine (size_nil_vol _).mono ?_; rintro e w' ⟨rfl, rfl⟩)
    | (go_at_call 42; refine (fill_nil _ _).mono ?_; rintro e w' ⟨rfl, rfl⟩)
    | (go_at_call 43; refine (save_nil _ _ _ _).mono ?_; rintro e w' ⟨rfl, rfl⟩)
    | (go_at_call 41; refine (spares_nil _).mono ?_; rintro e w6 ⟨rfl, b6w⟩)
    | (go_at_call 39; refine (status_nil _).mono ?_; rintro e w7 ⟨rfl, b7w⟩))
  go_ret
  exact ⟨rfl, (HB5.out.1.trans (b6w.mono HB5.out.2)).trans (b7w.mono (Nat.le_trans HB5.out.2 b6w.size))⟩
theorem walk {w : World} (M : Int) (_ : -9223372036854775808 ≤ M) (_ : M ≤ 9223372036854775807) (St : Int) (_ : -9223372036854775808 ≤ St) (_ : St ≤ 9223372036854775807) (L : Int) (_ : -9223372036854775808 ≤ L) (_ : L ≤ 9223372036854775807) (ds : Int) (_ : -9223372036854775808 ≤ ds) (_ : ds ≤ 9223372036854775807) (nn : Int) (_ : -9223372036854775808 ≤ nn) (_ : nn ≤ 9223372036854775807) (A : Option Addr) (m c : Nat) (l : List Nat) (_ : Small l) (_ : Reads w w.heap.size A m (bts l)) (_ : m ≤ 140737488351232) (hA : All w) :
    Calls Tryz.prog 12 #[.int .i64 M, .int .i64 St, .int .i64 L, .int .i64 ds, .int .i64 nn, .slice A m c] w fun e w' => e = .returned (.bool true) ∧ Below w.heap.size w w' := by
  have hk : (ds % (17 : Nat)).toNat < 17 := by
    have h0 : 0 ≤ ds % ((17 : Nat) : Int) := Int.emod_nonneg _ (by decide)
    have h1 : ds % ((17 : Nat) : Int) < (17 : Nat) := Int.emod_lt_of_pos _ (by decide)
    omega
  obtain ⟨k, hk2⟩ : ∃ k, (ds % (17 : Nat)).toNat = k := ⟨_, rfl⟩
  rw [hk2] at hk
  have b := fun (P : Prop) [Decidable P] (h : ¬ P) => (decide_eq_false h : decide P = false)
  have t := fun (P : Prop) [Decidable P] (h : P) => (decide_eq_true h : decide P = true)
  by_cases h0 : 3 ≤ M
  · by_cases h1 : M ≤ 16
    · by_cases h2 : 1 ≤ L
      · by_cases h3 : L ≤ 8
        · by_cases h4 : 1 ≤ St
          · by_cases h5 : St ≤ 35 - 2 * L
            · by_cases h6 : ((k + 1 : Nat) : Int) = M
              · exact walk_r1 M St L ds nn A c m k hk2 hk hA (t _ h0) (t _ h1) (t _ h2) (t _ h3) (t _ h4) (t _ h5) h6
              · by_cases h7 : ((k + 1 : Nat) : Int) = M + 1
                · exact walk_r2 M St L ds nn A c m k hk2 hk hA (t _ h0) (t _ h1) (t _ h2) (t _ h3) (t _ h4) (t _ h5) h6 h7
                · exact walk_k1 M St L ds nn A c m k hk2 hk hA (t _ h0) (t _ h1) (t _ h2) (t _ h3) (t _ h4) (t _ h5) h6 h7
            · exact walk_s2 M St L ds nn A c m k hk2 hk hA (t _ h0) (t _ h1) (t _ h2) (t _ h3) (t _ h4) (b _ h5)
          · exact walk_s1 M St L ds nn A c m k hk2 hk hA (t _ h0) (t _ h1) (t _ h2) (t _ h3) (b _ h4)
        · exact walk_l2 M St L ds nn A c m k hk2 hk hA (t _ h0) (t _ h1) (t _ h2) (b _ h3)
      · exact walk_l1 M St L ds nn A c m k hk2 hk hA (t _ h0) (t _ h1) (b _ h2)
    · exact walk_m2 M St L ds nn A c m k hk2 hk hA (t _ h0) (b _ h1)
  · exact walk_m1 M St L ds nn A c m k hk2 hk hA (b _ h0)
set_option maxRecDepth 100000 in
/-- WHAT THE WALK GIVES, FOR EVERY ARGUMENT AND EVERY WORLD THAT HOLDS THE TABLES. -/
theorem contract (H : Type) (enc : TypeId × Value → H) (W : World) (base : Nat) (args : Array Value) (ds gs : List (DataW H)) (before : List MemPlace)
    (hval : ∀ (j : Nat) t v, Tryz.f12.params[j]? = some t → args[j]? = some v → Value.okWide Tryz.prog W .any base t v)
    (hW : DataW.Whole enc Tryz.prog Tryz.f12.params.toList Rows.raidNobodySpec.vars false W args.toList ds gs before)
    (hsz : (DataW.weightsEach Tryz.prog (Tryz.f12.params.toList ++ (OpenSpec.ofChange Rows.raidNobodySpec).bare.plain.varTypes Tryz.prog) (ds ++ gs)).all (· ≤ reachBytes) = true) (hL : laidMetH Tryz.prog laidBoth W) :
    Calls Tryz.prog 12 args W fun e W' => ∃ v, e = .returned v ∧ Rows.raidNobodySpec.post enc Tryz.prog Tryz.f12 false true false false W args v W' := by
  have hW' := hW
  obtain ⟨p, q, hA0, hV, rfl, hfz, hnd⟩ := hW
  have hA : DataW.TrodAll enc Tryz.prog W 0 (fun _ => true) true Tryz.f12.params.toList args.toList ds p := hA0
  have hsz2 : (DataW.weightsEach Tryz.prog (Tryz.f12.params.toList ++ []) (ds ++ gs)).all (· ≤ reachBytes) = true := hsz
  rw [Tryz.params12] at hA hval hsz2
  obtain ⟨v0, vs0, d0, ds0, p0, q0, hargs, rfl, rfl, h0, r0⟩ := trodAll_cons hA
  obtain ⟨v1, vs1, d1, ds1, p1, q1, rfl, rfl, rfl, h1, r1⟩ := trodAll_cons r0
  obtain ⟨v2, vs2, d2, ds2, p2, q2, rfl, rfl, rfl, h2, r2⟩ := trodAll_cons r1
  obtain ⟨v3, vs3, d3, ds3, p3, q3, rfl, rfl, rfl, h3, r3⟩ := trodAll_cons r2
  obtain ⟨v4, vs4, d4, ds4, p4, q4, rfl, rfl, rfl, h4, r4⟩ := trodAll_cons r3
  obtain ⟨v5, vs5, d5, ds5, p5, q5, rfl, rfl, rfl, h5, r5⟩ := trodAll_cons r4
  obtain ⟨rfl, rfl, rfl⟩ := trodAll_nil r5
  obtain rfl : args = #[v0, v1, v2, v3, v4, v5] := by cases args; simp_all
  obtain ⟨rfl, rfl⟩ := trodVars_none hV
  obtain ⟨a0, rfl, rfl, rfl, w0⟩ := open_int Tryz.underlying3 (hval 0 3 v0 rfl rfl) h0
  have bd0 := bounds_i64 w0
  obtain ⟨a1, rfl, rfl, rfl, w1⟩ := open_int Tryz.underlying3 (hval 1 3 v1 rfl rfl) h1
  have bd1 := bounds_i64 w1
  obtain ⟨a2, rfl, rfl, rfl, w2⟩ := open_int Tryz.underlying3 (hval 2 3 v2 rfl rfl) h2
  have bd2 := bounds_i64 w2
  obtain ⟨a3, rfl, rfl, rfl, w3⟩ := open_int Tryz.underlying3 (hval 3 3 v3 rfl rfl) h3
  have bd3 := bounds_i64 w3
  obtain ⟨a4, rfl, rfl, rfl, w4⟩ := open_int Tryz.underlying3 (hval 4 3 v4 rfl rfl) h4
  have bd4 := bounds_i64 w4
  obtain ⟨A5, n5, c5, rfl⟩ := okWide_slice Tryz.underlying45 (hval 5 45 v5 rfl rfl)
  have k5 := h5
  have lt5 : ∀ x ∈ p5, x.block < W.heap.size := by obtain ⟨m, hm⟩ := k5; exact DataW.trod_lt m _ _ _ hm
  obtain ⟨l5, sl5, rd5, nc5, _, dd5⟩ : ∃ l, Small l ∧ Reads W W.heap.size A5 n5 (bts l) ∧ n5 ≤ c5 ∧ c5 ≤ maxLen ∧ ((d5 = .nil ∧ c5 = 0) ∨ ∃ es sp, d5 = .slice es sp ∧ es.length + sp.length = c5) := by obtain ⟨fuel, hf⟩ := h5; exact bytes_in (by simpa [Value.cells] using hf)
  have b5 : n5 ≤ 140737488351232 := by
    rcases dd5 with ⟨_, hc0⟩ | ⟨es, sp, hd, hc0⟩
    · omega
    · have := sized_slice (P := Tryz.prog) hsz2 (j := 5) (t := 45) (e := 5) rfl (by rw [hd]; rfl) Tryz.underlying45
      rw [bytesU8] at this; simp only [reachBytes] at this; omega
  have hT := tabs_of_laid hL
  refine (walk a0 bd0.1 bd0.2 a1 bd1.1 bd1.2 a2 bd2.1 bd2.2 a3 bd3.1 bd3.2 a4 bd4.1 bd4.2 A5 n5 c5 l5 sl5 rd5 b5 hT).mono fun e W' ⟨he, bel⟩ => ?_
  subst he
  exact ⟨_, rfl, _, _, _, [], _, [], hW', trodAll_mk1 (shut_bool Tryz.underlying4 _), (trodAll_cons_mk (shut_int Tryz.underlying3 w0) (trodAll_cons_mk (shut_int Tryz.underlying3 w1) (trodAll_cons_mk (shut_int Tryz.underlying3 w2) (trodAll_cons_mk (shut_int Tryz.underlying3 w3) (trodAll_cons_mk (shut_int Tryz.underlying3 w4) (trodAll_cons_mk (Below.trod laidOut (by kernel_rfl) (of_decide_eq_true (by kernel_rfl)) k5 bel lt5) trodAll_mk0)))))), rfl, bel.frame _, fun h => by cases h⟩

theorem laid_met (os : Os) : laidMetH Tryz.prog laidBoth ((laidWorld os).forCall (fun _ _ => 0) ⟨#[], #[.int .i64 0, .int .i64 0, .int .i64 0, .int .i64 0, .int .i64 0, .slice none 0 0], []⟩).memory :=
  laidMetH_of_parts3 (fuel := 8) (laidMet_of_run' 8 (by kernel_rfl) (by kernel_rfl)) (by kernel_rfl) (by kernel_rfl)
theorem reads (os : Os) {H : Type} (enc : TypeId × Value → H) : ∃ places, DataW.whole enc Tryz.prog ((laidWorld os).forCall (fun _ _ => 0) ⟨#[], #[.int .i64 0, .int .i64 0, .int .i64 0, .int .i64 0, .int .i64 0, .slice none 0 0], []⟩).memory Tryz.f12.params.toList Rows.raidNobodySpec.vars false (#[.int .i64 0, .int .i64 0, .int .i64 0, .int .i64 0, .int .i64 0, .slice none 0 0] : Array Value).toList 8 = some ([.lit (.int .i64 0), .lit (.int .i64 0), .lit (.int .i64 0), .lit (.int .i64 0), .lit (.int .i64 0), .nil], [], places) :=
  ⟨[], by kernel_rfl⟩
set_option maxRecDepth 100000 in
theorem lifted (os : Os) (started : os.Started) (H : Type) (enc : TypeId × Value → H) (F : Stop.Interp) :
    ReturnsInHanded {} Tryz.checked os 12 .any ((OpenSpec.ofChange Rows.raidNobodySpec).preRow enc Tryz.prog Tryz.f12 Rows.raidNobodyRow.domain false Rows.raidNobodyRow.laid) (((OpenSpec.ofChange Rows.raidNobodySpec).at F).post enc Tryz.prog Tryz.f12 false true false false) := by
  obtain ⟨places, hx⟩ := reads os enc
  refine returnsInHanded_of_row (C := Tryz.checked) (s := (OpenSpec.ofChange Rows.raidNobodySpec)) own started (by kernel_rfl) Tryz.func12
    (witness_row_at (enc := enc) (C := Tryz.checked) false (laidWorld os) #[.int .i64 0, .int .i64 0, .int .i64 0, .int .i64 0, .int .i64 0, .slice none 0 0] rfl (by kernel_rfl) (by kernel_rfl) (by kernel_rfl)
      (OpenSpec.preRow_of_cond 8 hx (by kernel_rfl) (fun k hk => by cases hk) (by kernel_rfl) (laid_met os))) ?_
  intro W base args ds gs before hval hW _ hcond hsz hL _ _
  exact contract H enc W base args ds gs before hval hW hsz hL
theorem said : Rows.RaidNobodySaid :=
  OpenClaim.holds_of_cond 12 Tryz.f12 rfl rfl rfl rfl rfl rfl rfl ⟨rfl, rfl, rfl, rfl, rfl⟩ rfl rfl rfl rfl rfl (by kernel_rfl) Tryz.func12 (by kernel_rfl)
    (of_decide_eq_true (by kernel_rfl)) (by unfold Func.isWrapper; first | (rw [if_pos (by decide +kernel)]; kernel_rfl) | (rw [if_neg (by decide +kernel)]; exact ⟨rfl, rfl⟩))
    (fun os started H enc _ F => by rw [OpenClaim.pre_eq_preRow]; exact lifted os started H enc F)
theorem plain (f : FuncId) (fn : Func) (hf : Tryz.pinned.checked.prog.funcNamed "ashlar/ashlarlaw08.RaidNobody" = some f) (hfn : Tryz.pinned.checked.prog.funcs[f]? = some fn) :
    false = Tryz.pinned.checked.prog.looks [] ∧ ∀ (j : Nat) t, fn.params[j]? = some t → Tryz.pinned.checked.prog.wantsStandIn t = false := by
  obtain rfl : f = 12 := Option.some.inj ((show Tryz.prog.funcNamed "ashlar/ashlarlaw08.RaidNobody" = some 12 by kernel_rfl).symm.trans hf) |>.symm
  obtain rfl : fn = Tryz.f12 := (Option.some.inj (Tryz.func12.symm.trans hfn)).symm
  refine ⟨by kernel_rfl, fun j t ht => ?_⟩
  rw [Tryz.params12] at ht
  have hm : t ∈ [3, 3, 3, 3, 3, 45] := by simpa using Array.mem_of_getElem? ht
  have hall : ([3, 3, 3, 3, 3, 45].all fun u => !Tryz.prog.wantsStandIn u) = true := by kernel_rfl
  exact (show Tryz.prog.wantsStandIn t = false by simpa using List.all_eq_true.1 hall t hm)

/-- ████ THE CARD ████ -/
theorem card : Rows.RaidNobodyCardSaid :=
  Claim7.holds_tied_plain_at .later [] _ _ _ _ said (fun _ h => by cases h) (by kernel_rfl) (fun _ h => by cases h) raidNobody_row_tie rfl ⟨rfl, rfl⟩ (by kernel_rfl) rfl plain (by kernel_rfl)
end Go.Proofs.YtplbgjjacomceaaGreatDoor.U.raidNobody
