/-
  ShelfNobody is true: a nil shelf does nothing and names its error; only shelves of the sizes told are made.
  Conditions: none.
-/
import Derived.Test.YtaejlkkdljpghaaIg
namespace Go.Proofs.Ytaejlkkdljpghaa.Sh.shelfNobody
open Go.ChangeShapes Go.WideShapes Go.ChangeAt Go.RowKit Go.Maps

/-- The call that came by value, laid. -/
structure Laid (w0 : World) (b : Nat) (d n a : Int) (x : Nat) (A : Option Addr) (m c : Nat) : Prop where
  lt : b < w0.heap.size
  c1 : w0.cell? ⟨b, 1, none⟩ = some (.int .i64 d)
  c2 : w0.cell? ⟨b, 2, none⟩ = some (.int .i64 n)
  c3 : w0.cell? ⟨b, 3, none⟩ = some (.int .i64 a)
  c4 : w0.cell? ⟨b, 4, none⟩ = some (.int .u8 (x : Int))
  c5 : w0.cell? ⟨b, 5, none⟩ = some (.slice A m c)
theorem Laid.below {w0 w1 : World} {b : Nat} {d n a : Int} {x : Nat} {A : Option Addr} {m c : Nat} (h : Laid w0 b d n a x A m c) (hb : Below w0.heap.size w0 w1) : Laid w1 b d n a x A m c :=
  ⟨Nat.lt_of_lt_of_le h.lt hb.size, (hb.cell h.lt).trans h.c1, (hb.cell h.lt).trans h.c2, (hb.cell h.lt).trans h.c3, (hb.cell h.lt).trans h.c4, (hb.cell h.lt).trans h.c5⟩
theorem Laid.boxed (w : World) (k d n a : Int) (x : Nat) (A : Option Addr) (m c : Nat) : Laid (w.alloc (.cells #[.int .i64 k, .int .i64 d, .int .i64 n, .int .i64 a, .int .u8 (x : Int), .slice A m c] 33)) w.heap.size d n a x A m c :=
  ⟨by simp, cell_of_row _ _ 1 _ _ _ (heap_alloc_new w _), cell_of_row _ _ 2 _ _ _ (heap_alloc_new w _), cell_of_row _ _ 3 _ _ _ (heap_alloc_new w _), cell_of_row _ _ 4 _ _ _ (heap_alloc_new w _), cell_of_row _ _ 5 _ _ _ (heap_alloc_new w _)⟩
theorem below_two {w w0 w1 w2 : World} (h : Below w.heap.size w w0) (h1 : Below w0.heap.size w0 w1) (h2 : Below w1.heap.size w1 w2) : Below w.heap.size w w2 := below_on h (below_on h1 h2)
set_option maxRecDepth 100000 in
set_option maxHeartbeats 4000000 in
theorem no0 {w : World} (k d n a : Int) (x : Nat) (A : Option Addr) (m c : Nat) (ds ss : Int) (h : ds < 1) :
    Calls Try.prog 9 #[.agg #[.int .i64 k, .int .i64 d, .int .i64 n, .int .i64 a, .int .u8 (x : Int), .slice A m c], .int .i64 ds, .int .i64 ss] w fun e w' => e = .returned (.bool true) ∧ Below w.heap.size w w' := by
  have L := Laid.boxed w k d n a x A m c
  have hB : Below w.heap.size w (w.alloc (.cells #[.int .i64 k, .int .i64 d, .int .i64 n, .int .i64 a, .int .u8 (x : Int), .slice A m c] 33)) := (Below.refl _ _).alloc (Nat.le_refl _) _
  have g1 := L.c1
  have g2 := L.c2
  have g5 := L.c5
  have HL := Lib.hid L
  have HB := Lib.hid hB
  clear L hB
  have q0 : decide (1 ≤ ds) = false := by simp; omega
  go_enter Try.func9, Try.ntmps9
  go_wp2_with fail
  refine (nilRead _ d n).mono ?_
  rintro e w1 ⟨rfl, rfl⟩
  go_wp2_with fail
  refine (nilStop _ n).mono ?_
  rintro e w1 ⟨rfl, rfl⟩
  go_wp2_with fail
  refine (nilCrash _ A m c).mono ?_
  rintro e w1 ⟨rfl, rfl⟩
  go_wp2_with fail
  refine (nilSize _).mono ?_
  rintro e w1 ⟨rfl, rfl⟩
  go_wp2_with fail
  refine (new_no ds ss _ (.inl h)).mono ?_
  rintro e w2 ⟨rfl, rfl⟩
  have L1 := HL
  have hb1 := Lib.hid (Below.refl (w.alloc (.cells #[.int .i64 k, .int .i64 d, .int .i64 n, .int .i64 a, .int .u8 (x : Int), .slice A m c] 33)).heap.size (w.alloc (.cells #[.int .i64 k, .int .i64 d, .int .i64 n, .int .i64 a, .int .u8 (x : Int), .slice A m c] 33)))
  clear g1 g2 g5
  go_wp2_with fail
  refine (lives_true _).mono ?_
  rintro e w3 ⟨rfl, hb⟩
  have M := L1.out.below hb
  have HD := Lib.hid (below_two HB.out hb1.out hb)
  have g1 := M.c1
  have g2 := M.c2
  have g3 := M.c3
  have g4 := M.c4
  clear M hb L1 hb1 HB HL
  go_wp2_with fail
  refine (nilWrite _ d n none 0 0).mono ?_
  rintro e w4 ⟨rfl, rfl⟩
  go_wp2_with fail
  refine (nilFlush _ d).mono ?_
  rintro e w4 ⟨rfl, rfl⟩
  go_wp2_with fail
  refine (nilKill _ d).mono ?_
  rintro e w4 ⟨rfl, rfl⟩
  go_wp2_with fail
  refine (nilDead _ d).mono ?_
  rintro e w4 ⟨rfl, rfl⟩
  go_wp2_with fail
  refine (nilCorrupt _ d n a x).mono ?_
  rintro e w4 ⟨rfl, rfl⟩
  go_wp2_with fail
  refine (nilOff _).mono ?_
  rintro e w4 ⟨rfl, rfl⟩
  go_wp2_with fail
  refine (nilWaits _ d).mono ?_
  rintro e w4 ⟨rfl, rfl⟩
  go_wp2_with fail
  refine (nilCount _).mono ?_
  rintro e w4 ⟨rfl, rfl⟩
  go_wp2_with fail
  refine (nilFork _).mono ?_
  rintro e w4 ⟨rfl, rfl⟩
  go_wp2_with fail
  go_ret
  exact ⟨rfl, HD.out⟩
set_option maxRecDepth 100000 in
set_option maxHeartbeats 4000000 in
theorem no1 {w : World} (k d n a : Int) (x : Nat) (A : Option Addr) (m c : Nat) (ds ss : Int) (h : 1 ≤ ds ∧ 17 < ds) :
    Calls Try.prog 9 #[.agg #[.int .i64 k, .int .i64 d, .int .i64 n, .int .i64 a, .int .u8 (x : Int), .slice A m c], .int .i64 ds, .int .i64 ss] w fun e w' => e = .returned (.bool true) ∧ Below w.heap.size w w' := by
  have L := Laid.boxed w k d n a x A m c
  have hB : Below w.heap.size w (w.alloc (.cells #[.int .i64 k, .int .i64 d, .int .i64 n, .int .i64 a, .int .u8 (x : Int), .slice A m c] 33)) := (Below.refl _ _).alloc (Nat.le_refl _) _
  have g1 := L.c1
  have g2 := L.c2
  have g5 := L.c5
  have HL := Lib.hid L
  have HB := Lib.hid hB
  clear L hB
  have q0 : 1 ≤ ds := by omega
  have q1 : decide (ds ≤ 17) = false := by simp; omega
  go_enter Try.func9, Try.ntmps9
  go_wp2_with fail
  refine (nilRead _ d n).mono ?_
  rintro e w1 ⟨rfl, rfl⟩
  go_wp2_with fail
  refine (nilStop _ n).mono ?_
  rintro e w1 ⟨rfl, rfl⟩
  go_wp2_with fail
  refine (nilCrash _ A m c).mono ?_
  rintro e w1 ⟨rfl, rfl⟩
  go_wp2_with fail
  refine (nilSize _).mono ?_
  rintro e w1 ⟨rfl, rfl⟩
  go_wp2_with fail
  refine (new_no ds ss _ (.inr (.inl h))).mono ?_
  rintro e w2 ⟨rfl, rfl⟩
  have L1 := HL
  have hb1 := Lib.hid (Below.refl (w.alloc (.cells #[.int .i64 k, .int .i64 d, .int .i64 n, .int .i64 a, .int .u8 (x : Int), .slice A m c] 33)).heap.size (w.alloc (.cells #[.int .i64 k, .int .i64 d, .int .i64 n, .int .i64 a, .int .u8 (x : Int), .slice A m c] 33)))
  clear g1 g2 g5
  go_wp2_with fail
  refine (lives_true _).mono ?_
  rintro e w3 ⟨rfl, hb⟩
  have M := L1.out.below hb
  have HD := Lib.hid (below_two HB.out hb1.out hb)
  have g1 := M.c1
  have g2 := M.c2
  have g3 := M.c3
  have g4 := M.c4
  clear M hb L1 hb1 HB HL
  go_wp2_with fail
  refine (nilWrite _ d n none 0 0).mono ?_
  rintro e w4 ⟨rfl, rfl⟩
  go_wp2_with fail
  refine (nilFlush _ d).mono ?_
  rintro e w4 ⟨rfl, rfl⟩
  go_wp2_with fail
  refine (nilKill _ d).mono ?_
  rintro e w4 ⟨rfl, rfl⟩
  go_wp2_with fail
  refine (nilDead _ d).mono ?_
  rintro e w4 ⟨rfl, rfl⟩
  go_wp2_with fail
  refine (nilCorrupt _ d n a x).mono ?_
  rintro e w4 ⟨rfl, rfl⟩
  go_wp2_with fail
  refine (nilOff _).mono ?_
  rintro e w4 ⟨rfl, rfl⟩
  go_wp2_with fail
  refine (nilWaits _ d).mono ?_
  rintro e w4 ⟨rfl, rfl⟩
  go_wp2_with fail
  refine (nilCount _).mono ?_
  rintro e w4 ⟨rfl, rfl⟩
  go_wp2_with fail
  refine (nilFork _).mono ?_
  rintro e w4 ⟨rfl, rfl⟩
  go_wp2_with fail
  go_ret
  exact ⟨rfl, HD.out⟩
set_option maxRecDepth 100000 in
set_option maxHeartbeats 4000000 in
theorem no2 {w : World} (k d n a : Int) (x : Nat) (A : Option Addr) (m c : Nat) (ds ss : Int) (h : 1 ≤ ds ∧ ds ≤ 17 ∧ ss < 1) :
    Calls Try.prog 9 #[.agg #[.int .i64 k, .int .i64 d, .int .i64 n, .int .i64 a, .int .u8 (x : Int), .slice A m c], .int .i64 ds, .int .i64 ss] w fun e w' => e = .returned (.bool true) ∧ Below w.heap.size w w' := by
  have L := Laid.boxed w k d n a x A m c
  have hB : Below w.heap.size w (w.alloc (.cells #[.int .i64 k, .int .i64 d, .int .i64 n, .int .i64 a, .int .u8 (x : Int), .slice A m c] 33)) := (Below.refl _ _).alloc (Nat.le_refl _) _
  have g1 := L.c1
  have g2 := L.c2
  have g5 := L.c5
  have HL := Lib.hid L
  have HB := Lib.hid hB
  clear L hB
  have q0 : 1 ≤ ds := by omega
  have q1 : ds ≤ 17 := by omega
  have q2 : decide (1 ≤ ss) = false := by simp; omega
  go_enter Try.func9, Try.ntmps9
  go_wp2_with fail
  refine (nilRead _ d n).mono ?_
  rintro e w1 ⟨rfl, rfl⟩
  go_wp2_with fail
  refine (nilStop _ n).mono ?_
  rintro e w1 ⟨rfl, rfl⟩
  go_wp2_with fail
  refine (nilCrash _ A m c).mono ?_
  rintro e w1 ⟨rfl, rfl⟩
  go_wp2_with fail
  refine (nilSize _).mono ?_
  rintro e w1 ⟨rfl, rfl⟩
  go_wp2_with fail
  refine (new_no ds ss _ (.inr (.inr (.inl h)))).mono ?_
  rintro e w2 ⟨rfl, rfl⟩
  have L1 := HL
  have hb1 := Lib.hid (Below.refl (w.alloc (.cells #[.int .i64 k, .int .i64 d, .int .i64 n, .int .i64 a, .int .u8 (x : Int), .slice A m c] 33)).heap.size (w.alloc (.cells #[.int .i64 k, .int .i64 d, .int .i64 n, .int .i64 a, .int .u8 (x : Int), .slice A m c] 33)))
  clear g1 g2 g5
  go_wp2_with fail
  refine (lives_true _).mono ?_
  rintro e w3 ⟨rfl, hb⟩
  have M := L1.out.below hb
  have HD := Lib.hid (below_two HB.out hb1.out hb)
  have g1 := M.c1
  have g2 := M.c2
  have g3 := M.c3
  have g4 := M.c4
  clear M hb L1 hb1 HB HL
  go_wp2_with fail
  refine (nilWrite _ d n none 0 0).mono ?_
  rintro e w4 ⟨rfl, rfl⟩
  go_wp2_with fail
  refine (nilFlush _ d).mono ?_
  rintro e w4 ⟨rfl, rfl⟩
  go_wp2_with fail
  refine (nilKill _ d).mono ?_
  rintro e w4 ⟨rfl, rfl⟩
  go_wp2_with fail
  refine (nilDead _ d).mono ?_
  rintro e w4 ⟨rfl, rfl⟩
  go_wp2_with fail
  refine (nilCorrupt _ d n a x).mono ?_
  rintro e w4 ⟨rfl, rfl⟩
  go_wp2_with fail
  refine (nilOff _).mono ?_
  rintro e w4 ⟨rfl, rfl⟩
  go_wp2_with fail
  refine (nilWaits _ d).mono ?_
  rintro e w4 ⟨rfl, rfl⟩
  go_wp2_with fail
  refine (nilCount _).mono ?_
  rintro e w4 ⟨rfl, rfl⟩
  go_wp2_with fail
  refine (nilFork _).mono ?_
  rintro e w4 ⟨rfl, rfl⟩
  go_wp2_with fail
  go_ret
  exact ⟨rfl, HD.out⟩
set_option maxRecDepth 100000 in
set_option maxHeartbeats 4000000 in
theorem no3 {w : World} (k d n a : Int) (x : Nat) (A : Option Addr) (m c : Nat) (ds ss : Int) (h : 1 ≤ ds ∧ ds ≤ 17 ∧ 1 ≤ ss ∧ 4096 < ss) :
    Calls Try.prog 9 #[.agg #[.int .i64 k, .int .i64 d, .int .i64 n, .int .i64 a, .int .u8 (x : Int), .slice A m c], .int .i64 ds, .int .i64 ss] w fun e w' => e = .returned (.bool true) ∧ Below w.heap.size w w' := by
  have L := Laid.boxed w k d n a x A m c
  have hB : Below w.heap.size w (w.alloc (.cells #[.int .i64 k, .int .i64 d, .int .i64 n, .int .i64 a, .int .u8 (x : Int), .slice A m c] 33)) := (Below.refl _ _).alloc (Nat.le_refl _) _
  have g1 := L.c1
  have g2 := L.c2
  have g5 := L.c5
  have HL := Lib.hid L
  have HB := Lib.hid hB
  clear L hB
  have q0 : 1 ≤ ds := by omega
  have q1 : ds ≤ 17 := by omega
  have q2 : 1 ≤ ss := by omega
  have q3 : decide (ss ≤ 4096) = false := by simp; omega
  go_enter Try.func9, Try.ntmps9
  go_wp2_with fail
  refine (nilRead _ d n).mono ?_
  rintro e w1 ⟨rfl, rfl⟩
  go_wp2_with fail
  refine (nilStop _ n).mono ?_
  rintro e w1 ⟨rfl, rfl⟩
  go_wp2_with fail
  refine (nilCrash _ A m c).mono ?_
  rintro e w1 ⟨rfl, rfl⟩
  go_wp2_with fail
  refine (nilSize _).mono ?_
  rintro e w1 ⟨rfl, rfl⟩
  go_wp2_with fail
  refine (new_no ds ss _ (.inr (.inr (.inr h)))).mono ?_
  rintro e w2 ⟨rfl, rfl⟩
  have L1 := HL
  have hb1 := Lib.hid (Below.refl (w.alloc (.cells #[.int .i64 k, .int .i64 d, .int .i64 n, .int .i64 a, .int .u8 (x : Int), .slice A m c] 33)).heap.size (w.alloc (.cells #[.int .i64 k, .int .i64 d, .int .i64 n, .int .i64 a, .int .u8 (x : Int), .slice A m c] 33)))
  clear g1 g2 g5
  go_wp2_with fail
  refine (lives_true _).mono ?_
  rintro e w3 ⟨rfl, hb⟩
  have M := L1.out.below hb
  have HD := Lib.hid (below_two HB.out hb1.out hb)
  have g1 := M.c1
  have g2 := M.c2
  have g3 := M.c3
  have g4 := M.c4
  clear M hb L1 hb1 HB HL
  go_wp2_with fail
  refine (nilWrite _ d n none 0 0).mono ?_
  rintro e w4 ⟨rfl, rfl⟩
  go_wp2_with fail
  refine (nilFlush _ d).mono ?_
  rintro e w4 ⟨rfl, rfl⟩
  go_wp2_with fail
  refine (nilKill _ d).mono ?_
  rintro e w4 ⟨rfl, rfl⟩
  go_wp2_with fail
  refine (nilDead _ d).mono ?_
  rintro e w4 ⟨rfl, rfl⟩
  go_wp2_with fail
  refine (nilCorrupt _ d n a x).mono ?_
  rintro e w4 ⟨rfl, rfl⟩
  go_wp2_with fail
  refine (nilOff _).mono ?_
  rintro e w4 ⟨rfl, rfl⟩
  go_wp2_with fail
  refine (nilWaits _ d).mono ?_
  rintro e w4 ⟨rfl, rfl⟩
  go_wp2_with fail
  refine (nilCount _).mono ?_
  rintro e w4 ⟨rfl, rfl⟩
  go_wp2_with fail
  refine (nilFork _).mono ?_
  rintro e w4 ⟨rfl, rfl⟩
  go_wp2_with fail
  go_ret
  exact ⟨rfl, HD.out⟩
set_option maxRecDepth 100000 in
set_option maxHeartbeats 4000000 in
theorem yes {w : World} (k d n a : Int) (x : Nat) (A : Option Addr) (m c : Nat) (ds ss : Nat) (h0 : 1 ≤ ds) (h1 : ds ≤ 17) (h2 : 1 ≤ ss) (h3 : ss ≤ 4096) :
    Calls Try.prog 9 #[.agg #[.int .i64 k, .int .i64 d, .int .i64 n, .int .i64 a, .int .u8 (x : Int), .slice A m c], .int .i64 ds, .int .i64 ss] w fun e w' => e = .returned (.bool true) ∧ Below w.heap.size w w' := by
  have L := Laid.boxed w k d n a x A m c
  have hB : Below w.heap.size w (w.alloc (.cells #[.int .i64 k, .int .i64 d, .int .i64 n, .int .i64 a, .int .u8 (x : Int), .slice A m c] 33)) := (Below.refl _ _).alloc (Nat.le_refl _) _
  have g1 := L.c1
  have g2 := L.c2
  have g5 := L.c5
  have HL := Lib.hid L
  have HB := Lib.hid hB
  clear L hB
  have q0 : (1 : Int) ≤ (ds : Int) := by omega
  have q1 : (ds : Int) ≤ 17 := by omega
  have q2 : (1 : Int) ≤ (ss : Int) := by omega
  have q3 : (ss : Int) ≤ 4096 := by omega
  go_enter Try.func9, Try.ntmps9
  go_wp2_with fail
  refine (nilRead _ d n).mono ?_
  rintro e w1 ⟨rfl, rfl⟩
  go_wp2_with fail
  refine (nilStop _ n).mono ?_
  rintro e w1 ⟨rfl, rfl⟩
  go_wp2_with fail
  refine (nilCrash _ A m c).mono ?_
  rintro e w1 ⟨rfl, rfl⟩
  go_wp2_with fail
  refine (nilSize _).mono ?_
  rintro e w1 ⟨rfl, rfl⟩
  go_wp2_with fail
  refine (new_ok ds ss _ h0 h1 h2 h3).mono ?_
  rintro e w2 ⟨p, F1, rfl, _, _, hb⟩
  have L1 := Lib.hid (HL.out.below hb)
  have hb1 := Lib.hid hb
  clear hb
  clear g1 g2 g5
  go_wp2_with fail
  refine (lives_true _).mono ?_
  rintro e w3 ⟨rfl, hb⟩
  have M := L1.out.below hb
  have HD := Lib.hid (below_two HB.out hb1.out hb)
  have g1 := M.c1
  have g2 := M.c2
  have g3 := M.c3
  have g4 := M.c4
  clear M hb L1 hb1 HB HL
  go_wp2_with fail
  refine (nilWrite _ d n none 0 0).mono ?_
  rintro e w4 ⟨rfl, rfl⟩
  go_wp2_with fail
  refine (nilFlush _ d).mono ?_
  rintro e w4 ⟨rfl, rfl⟩
  go_wp2_with fail
  refine (nilKill _ d).mono ?_
  rintro e w4 ⟨rfl, rfl⟩
  go_wp2_with fail
  refine (nilDead _ d).mono ?_
  rintro e w4 ⟨rfl, rfl⟩
  go_wp2_with fail
  refine (nilCorrupt _ d n a x).mono ?_
  rintro e w4 ⟨rfl, rfl⟩
  go_wp2_with fail
  refine (nilOff _).mono ?_
  rintro e w4 ⟨rfl, rfl⟩
  go_wp2_with fail
  refine (nilWaits _ d).mono ?_
  rintro e w4 ⟨rfl, rfl⟩
  go_wp2_with fail
  refine (nilCount _).mono ?_
  rintro e w4 ⟨rfl, rfl⟩
  go_wp2_with fail
  refine (nilFork _).mono ?_
  rintro e w4 ⟨rfl, rfl⟩
  go_wp2_with fail
  go_ret
  exact ⟨rfl, HD.out⟩
theorem walk {w : World} (k d n a : Int) (x : Nat) (A : Option Addr) (m c : Nat) (ds : Int) (_ : -9223372036854775808 ≤ ds) (_ : ds ≤ 9223372036854775807) (ss : Int) (_ : -9223372036854775808 ≤ ss) (_ : ss ≤ 9223372036854775807) :
    Calls Try.prog 9 #[.agg #[.int .i64 k, .int .i64 d, .int .i64 n, .int .i64 a, .int .u8 (x : Int), .slice A m c], .int .i64 ds, .int .i64 ss] w fun e w' => e = .returned (.bool true) ∧ Below w.heap.size w w' := by
  by_cases h0 : ds < 1
  · exact no0 k d n a x A m c ds ss h0
  · by_cases h1 : 17 < ds
    · exact no1 k d n a x A m c ds ss ⟨by omega, h1⟩
    · by_cases h2 : ss < 1
      · exact no2 k d n a x A m c ds ss ⟨by omega, by omega, h2⟩
      · by_cases h3 : 4096 < ss
        · exact no3 k d n a x A m c ds ss ⟨by omega, by omega, by omega, h3⟩
        · obtain ⟨ds, rfl⟩ : ∃ m : Nat, ds = (m : Int) := ⟨ds.toNat, by omega⟩
          obtain ⟨ss, rfl⟩ : ∃ m : Nat, ss = (m : Int) := ⟨ss.toNat, by omega⟩
          exact yes k d n a x A m c ds ss (by omega) (by omega) (by omega) (by omega)
end Go.Proofs.Ytaejlkkdljpghaa.Sh.shelfNobody
