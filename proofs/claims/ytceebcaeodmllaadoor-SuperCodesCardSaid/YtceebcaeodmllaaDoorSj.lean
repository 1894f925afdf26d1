/-
  The contract of the definition's Right.
  Conditions: none.
-/
import Derived.Test.YtceebcaeodmllaaDoorSi
namespace Go.Proofs.YtceebcaeodmllaaDoor.S
open Go.RowKit

theorem rr_no0 (x0 x1 x2 x3 x4 x5 x6 x7 : Int) (h0 : x0 < 1) (w : World) :
    Calls Tryd.prog 15 #[.agg #[.int .i64 x0, .int .i64 x1, .int .i64 x2, .int .i64 x3, .int .i64 x4, .int .i64 x5, .int .i64 x6, .int .i64 x7]] w fun e w' => e = .returned (.bool false) ∧ Below w.heap.size w w' := by
  have hb0 : Below w.heap.size w (w.alloc (.cells #[.int .i64 x0, .int .i64 x1, .int .i64 x2, .int .i64 x3, .int .i64 x4, .int .i64 x5, .int .i64 x6, .int .i64 x7] 23)) := (Below.refl _ _).alloc (Nat.le_refl _) _
  have d0 : decide (x0 < 1) = true := by simpa using h0
  clear h0
  go_enter Tryd.func15, Tryd.ntmps15
  go_wp2_with fail
  go_ret
  exact ⟨rfl, hb0⟩
theorem rr_no1 (x0 x1 x2 x3 x4 x5 x6 x7 : Int) (h0 : ¬ (x0 < 1)) (h1 : x0 > 4611686018427387904) (w : World) :
    Calls Tryd.prog 15 #[.agg #[.int .i64 x0, .int .i64 x1, .int .i64 x2, .int .i64 x3, .int .i64 x4, .int .i64 x5, .int .i64 x6, .int .i64 x7]] w fun e w' => e = .returned (.bool false) ∧ Below w.heap.size w w' := by
  have hb0 : Below w.heap.size w (w.alloc (.cells #[.int .i64 x0, .int .i64 x1, .int .i64 x2, .int .i64 x3, .int .i64 x4, .int .i64 x5, .int .i64 x6, .int .i64 x7] 23)) := (Below.refl _ _).alloc (Nat.le_refl _) _
  have d0 : decide (x0 < 1) = false := by simpa using h0
  have d1 : decide (x0 > 4611686018427387904) = true := by simpa using h1
  clear h0 h1
  go_enter Tryd.func15, Tryd.ntmps15
  go_wp2_with fail
  go_ret
  exact ⟨rfl, hb0⟩
theorem rr_no2 (x0 x1 x2 x3 x4 x5 x6 x7 : Int) (h0 : ¬ (x0 < 1)) (h1 : ¬ (x0 > 4611686018427387904)) (h2 : x1 < 3) (w : World) :
    Calls Tryd.prog 15 #[.agg #[.int .i64 x0, .int .i64 x1, .int .i64 x2, .int .i64 x3, .int .i64 x4, .int .i64 x5, .int .i64 x6, .int .i64 x7]] w fun e w' => e = .returned (.bool false) ∧ Below w.heap.size w w' := by
  have hb0 : Below w.heap.size w (w.alloc (.cells #[.int .i64 x0, .int .i64 x1, .int .i64 x2, .int .i64 x3, .int .i64 x4, .int .i64 x5, .int .i64 x6, .int .i64 x7] 23)) := (Below.refl _ _).alloc (Nat.le_refl _) _
  have d0 : decide (x0 < 1) = false := by simpa using h0
  have d1 : decide (x0 > 4611686018427387904) = false := by simpa using h1
  have d2 : decide (x1 < 3) = true := by simpa using h2
  clear h0 h1 h2
  go_enter Tryd.func15, Tryd.ntmps15
  go_wp2_with fail
  go_ret
  exact ⟨rfl, hb0⟩
theorem rr_no3 (x0 x1 x2 x3 x4 x5 x6 x7 : Int) (h0 : ¬ (x0 < 1)) (h1 : ¬ (x0 > 4611686018427387904)) (h2 : ¬ (x1 < 3)) (h3 : x1 > 16) (w : World) :
    Calls Tryd.prog 15 #[.agg #[.int .i64 x0, .int .i64 x1, .int .i64 x2, .int .i64 x3, .int .i64 x4, .int .i64 x5, .int .i64 x6, .int .i64 x7]] w fun e w' => e = .returned (.bool false) ∧ Below w.heap.size w w' := by
  have hb0 : Below w.heap.size w (w.alloc (.cells #[.int .i64 x0, .int .i64 x1, .int .i64 x2, .int .i64 x3, .int .i64 x4, .int .i64 x5, .int .i64 x6, .int .i64 x7] 23)) := (Below.refl _ _).alloc (Nat.le_refl _) _
  have d0 : decide (x0 < 1) = false := by simpa using h0
  have d1 : decide (x0 > 4611686018427387904) = false := by simpa using h1
  have d2 : decide (x1 < 3) = false := by simpa using h2
  have d3 : decide (x1 > 16) = true := by simpa using h3
  clear h0 h1 h2 h3
  go_enter Tryd.func15, Tryd.ntmps15
  go_wp2_with fail
  go_ret
  exact ⟨rfl, hb0⟩
theorem rr_no4 (x0 x1 x2 x3 x4 x5 x6 x7 : Int) (h0 : ¬ (x0 < 1)) (h1 : ¬ (x0 > 4611686018427387904)) (h2 : ¬ (x1 < 3)) (h3 : ¬ (x1 > 16)) (h4 : x2 < 0) (w : World) :
    Calls Tryd.prog 15 #[.agg #[.int .i64 x0, .int .i64 x1, .int .i64 x2, .int .i64 x3, .int .i64 x4, .int .i64 x5, .int .i64 x6, .int .i64 x7]] w fun e w' => e = .returned (.bool false) ∧ Below w.heap.size w w' := by
  have hb0 : Below w.heap.size w (w.alloc (.cells #[.int .i64 x0, .int .i64 x1, .int .i64 x2, .int .i64 x3, .int .i64 x4, .int .i64 x5, .int .i64 x6, .int .i64 x7] 23)) := (Below.refl _ _).alloc (Nat.le_refl _) _
  have d0 : decide (x0 < 1) = false := by simpa using h0
  have d1 : decide (x0 > 4611686018427387904) = false := by simpa using h1
  have d2 : decide (x1 < 3) = false := by simpa using h2
  have d3 : decide (x1 > 16) = false := by simpa using h3
  have d4 : decide (x2 < 0) = true := by simpa using h4
  clear h0 h1 h2 h3 h4
  go_enter Tryd.func15, Tryd.ntmps15
  go_wp2_with fail
  go_ret
  exact ⟨rfl, hb0⟩
theorem rr_no5 (x0 x1 x2 x3 x4 x5 x6 x7 : Int) (h0 : ¬ (x0 < 1)) (h1 : ¬ (x0 > 4611686018427387904)) (h2 : ¬ (x1 < 3)) (h3 : ¬ (x1 > 16)) (h4 : ¬ (x2 < 0)) (h5 : x2 > x1) (w : World) :
    Calls Tryd.prog 15 #[.agg #[.int .i64 x0, .int .i64 x1, .int .i64 x2, .int .i64 x3, .int .i64 x4, .int .i64 x5, .int .i64 x6, .int .i64 x7]] w fun e w' => e = .returned (.bool false) ∧ Below w.heap.size w w' := by
  have hb0 : Below w.heap.size w (w.alloc (.cells #[.int .i64 x0, .int .i64 x1, .int .i64 x2, .int .i64 x3, .int .i64 x4, .int .i64 x5, .int .i64 x6, .int .i64 x7] 23)) := (Below.refl _ _).alloc (Nat.le_refl _) _
  have d0 : decide (x0 < 1) = false := by simpa using h0
  have d1 : decide (x0 > 4611686018427387904) = false := by simpa using h1
  have d2 : decide (x1 < 3) = false := by simpa using h2
  have d3 : decide (x1 > 16) = false := by simpa using h3
  have d4 : decide (x2 < 0) = false := by simpa using h4
  have d5 : decide (x2 > x1) = true := by simpa using h5
  clear h0 h1 h2 h3 h4 h5
  go_enter Tryd.func15, Tryd.ntmps15
  go_wp2_with fail
  go_ret
  exact ⟨rfl, hb0⟩
theorem rr_no6 (x0 x1 x2 x3 x4 x5 x6 x7 : Int) (h0 : ¬ (x0 < 1)) (h1 : ¬ (x0 > 4611686018427387904)) (h2 : ¬ (x1 < 3)) (h3 : ¬ (x1 > 16)) (h4 : ¬ (x2 < 0)) (h5 : ¬ (x2 > x1)) (h6 : x3 < 1) (w : World) :
    Calls Tryd.prog 15 #[.agg #[.int .i64 x0, .int .i64 x1, .int .i64 x2, .int .i64 x3, .int .i64 x4, .int .i64 x5, .int .i64 x6, .int .i64 x7]] w fun e w' => e = .returned (.bool false) ∧ Below w.heap.size w w' := by
  have hb0 : Below w.heap.size w (w.alloc (.cells #[.int .i64 x0, .int .i64 x1, .int .i64 x2, .int .i64 x3, .int .i64 x4, .int .i64 x5, .int .i64 x6, .int .i64 x7] 23)) := (Below.refl _ _).alloc (Nat.le_refl _) _
  have d0 : decide (x0 < 1) = false := by simpa using h0
  have d1 : decide (x0 > 4611686018427387904) = false := by simpa using h1
  have d2 : decide (x1 < 3) = false := by simpa using h2
  have d3 : decide (x1 > 16) = false := by simpa using h3
  have d4 : decide (x2 < 0) = false := by simpa using h4
  have d5 : decide (x2 > x1) = false := by simpa using h5
  have d6 : decide (x3 < 1) = true := by simpa using h6
  clear h0 h1 h2 h3 h4 h5 h6
  go_enter Tryd.func15, Tryd.ntmps15
  go_wp2_with fail
  go_ret
  exact ⟨rfl, hb0⟩
theorem rr_no7 (x0 x1 x2 x3 x4 x5 x6 x7 : Int) (h0 : ¬ (x0 < 1)) (h1 : ¬ (x0 > 4611686018427387904)) (h2 : ¬ (x1 < 3)) (h3 : ¬ (x1 > 16)) (h4 : ¬ (x2 < 0)) (h5 : ¬ (x2 > x1)) (h6 : ¬ (x3 < 1)) (h7 : x3 > 1024) (w : World) :
    Calls Tryd.prog 15 #[.agg #[.int .i64 x0, .int .i64 x1, .int .i64 x2, .int .i64 x3, .int .i64 x4, .int .i64 x5, .int .i64 x6, .int .i64 x7]] w fun e w' => e = .returned (.bool false) ∧ Below w.heap.size w w' := by
  have hb0 : Below w.heap.size w (w.alloc (.cells #[.int .i64 x0, .int .i64 x1, .int .i64 x2, .int .i64 x3, .int .i64 x4, .int .i64 x5, .int .i64 x6, .int .i64 x7] 23)) := (Below.refl _ _).alloc (Nat.le_refl _) _
  have d0 : decide (x0 < 1) = false := by simpa using h0
  have d1 : decide (x0 > 4611686018427387904) = false := by simpa using h1
  have d2 : decide (x1 < 3) = false := by simpa using h2
  have d3 : decide (x1 > 16) = false := by simpa using h3
  have d4 : decide (x2 < 0) = false := by simpa using h4
  have d5 : decide (x2 > x1) = false := by simpa using h5
  have d6 : decide (x3 < 1) = false := by simpa using h6
  have d7 : decide (x3 > 1024) = true := by simpa using h7
  clear h0 h1 h2 h3 h4 h5 h6 h7
  go_enter Tryd.func15, Tryd.ntmps15
  go_wp2_with fail
  go_ret
  exact ⟨rfl, hb0⟩
theorem rr_no8 (x0 x1 x2 x3 x4 x5 x6 x7 : Int) (h0 : ¬ (x0 < 1)) (h1 : ¬ (x0 > 4611686018427387904)) (h2 : ¬ (x1 < 3)) (h3 : ¬ (x1 > 16)) (h4 : ¬ (x2 < 0)) (h5 : ¬ (x2 > x1)) (h6 : ¬ (x3 < 1)) (h7 : ¬ (x3 > 1024)) (h8 : x4 < 1) (w : World) :
    Calls Tryd.prog 15 #[.agg #[.int .i64 x0, .int .i64 x1, .int .i64 x2, .int .i64 x3, .int .i64 x4, .int .i64 x5, .int .i64 x6, .int .i64 x7]] w fun e w' => e = .returned (.bool false) ∧ Below w.heap.size w w' := by
  have hb0 : Below w.heap.size w (w.alloc (.cells #[.int .i64 x0, .int .i64 x1, .int .i64 x2, .int .i64 x3, .int .i64 x4, .int .i64 x5, .int .i64 x6, .int .i64 x7] 23)) := (Below.refl _ _).alloc (Nat.le_refl _) _
  have d0 : decide (x0 < 1) = false := by simpa using h0
  have d1 : decide (x0 > 4611686018427387904) = false := by simpa using h1
  have d2 : decide (x1 < 3) = false := by simpa using h2
  have d3 : decide (x1 > 16) = false := by simpa using h3
  have d4 : decide (x2 < 0) = false := by simpa using h4
  have d5 : decide (x2 > x1) = false := by simpa using h5
  have d6 : decide (x3 < 1) = false := by simpa using h6
  have d7 : decide (x3 > 1024) = false := by simpa using h7
  have d8 : decide (x4 < 1) = true := by simpa using h8
  clear h0 h1 h2 h3 h4 h5 h6 h7 h8
  go_enter Tryd.func15, Tryd.ntmps15
  go_wp2_with fail
  go_ret
  exact ⟨rfl, hb0⟩
theorem rr_no9 (x0 x1 x2 x3 x4 x5 x6 x7 : Int) (h0 : ¬ (x0 < 1)) (h1 : ¬ (x0 > 4611686018427387904)) (h2 : ¬ (x1 < 3)) (h3 : ¬ (x1 > 16)) (h4 : ¬ (x2 < 0)) (h5 : ¬ (x2 > x1)) (h6 : ¬ (x3 < 1)) (h7 : ¬ (x3 > 1024)) (h8 : ¬ (x4 < 1)) (h9 : x4 > 8) (w : World) :
    Calls Tryd.prog 15 #[.agg #[.int .i64 x0, .int .i64 x1, .int .i64 x2, .int .i64 x3, .int .i64 x4, .int .i64 x5, .int .i64 x6, .int .i64 x7]] w fun e w' => e = .returned (.bool false) ∧ Below w.heap.size w w' := by
  have hb0 : Below w.heap.size w (w.alloc (.cells #[.int .i64 x0, .int .i64 x1, .int .i64 x2, .int .i64 x3, .int .i64 x4, .int .i64 x5, .int .i64 x6, .int .i64 x7] 23)) := (Below.refl _ _).alloc (Nat.le_refl _) _
  have d0 : decide (x0 < 1) = false := by simpa using h0
  have d1 : decide (x0 > 4611686018427387904) = false := by simpa using h1
  have d2 : decide (x1 < 3) = false := by simpa using h2
  have d3 : decide (x1 > 16) = false := by simpa using h3
  have d4 : decide (x2 < 0) = false := by simpa using h4
  have d5 : decide (x2 > x1) = false := by simpa using h5
  have d6 : decide (x3 < 1) = false := by simpa using h6
  have d7 : decide (x3 > 1024) = false := by simpa using h7
  have d8 : decide (x4 < 1) = false := by simpa using h8
  have d9 : decide (x4 > 8) = true := by simpa using h9
  clear h0 h1 h2 h3 h4 h5 h6 h7 h8 h9
  go_enter Tryd.func15, Tryd.ntmps15
  go_wp2_with fail
  go_ret
  exact ⟨rfl, hb0⟩
theorem rr_no10 (x0 x1 x2 x3 x4 x5 x6 x7 : Int) (h0 : ¬ (x0 < 1)) (h1 : ¬ (x0 > 4611686018427387904)) (h2 : ¬ (x1 < 3)) (h3 : ¬ (x1 > 16)) (h4 : ¬ (x2 < 0)) (h5 : ¬ (x2 > x1)) (h6 : ¬ (x3 < 1)) (h7 : ¬ (x3 > 1024)) (h8 : ¬ (x4 < 1)) (h9 : ¬ (x4 > 8)) (h10 : x5 < -1) (w : World) :
    Calls Tryd.prog 15 #[.agg #[.int .i64 x0, .int .i64 x1, .int .i64 x2, .int .i64 x3, .int .i64 x4, .int .i64 x5, .int .i64 x6, .int .i64 x7]] w fun e w' => e = .returned (.bool false) ∧ Below w.heap.size w w' := by
  have hb0 : Below w.heap.size w (w.alloc (.cells #[.int .i64 x0, .int .i64 x1, .int .i64 x2, .int .i64 x3, .int .i64 x4, .int .i64 x5, .int .i64 x6, .int .i64 x7] 23)) := (Below.refl _ _).alloc (Nat.le_refl _) _
  have d0 : decide (x0 < 1) = false := by simpa using h0
  have d1 : decide (x0 > 4611686018427387904) = false := by simpa using h1
  have d2 : decide (x1 < 3) = false := by simpa using h2
  have d3 : decide (x1 > 16) = false := by simpa using h3
  have d4 : decide (x2 < 0) = false := by simpa using h4
  have d5 : decide (x2 > x1) = false := by simpa using h5
  have d6 : decide (x3 < 1) = false := by simpa using h6
  have d7 : decide (x3 > 1024) = false := by simpa using h7
  have d8 : decide (x4 < 1) = false := by simpa using h8
  have d9 : decide (x4 > 8) = false := by simpa using h9
  have d10 : decide (x5 < -1) = true := by simpa using h10
  clear h0 h1 h2 h3 h4 h5 h6 h7 h8 h9 h10
  go_enter Tryd.func15, Tryd.ntmps15
  go_wp2_with fail
  go_ret
  exact ⟨rfl, hb0⟩
theorem rr_no11 (x0 x1 x2 x3 x4 x5 x6 x7 : Int) (h0 : ¬ (x0 < 1)) (h1 : ¬ (x0 > 4611686018427387904)) (h2 : ¬ (x1 < 3)) (h3 : ¬ (x1 > 16)) (h4 : ¬ (x2 < 0)) (h5 : ¬ (x2 > x1)) (h6 : ¬ (x3 < 1)) (h7 : ¬ (x3 > 1024)) (h8 : ¬ (x4 < 1)) (h9 : ¬ (x4 > 8)) (h10 : ¬ (x5 < -1)) (h11 : x5 ≥ x1) (w : World) :
    Calls Tryd.prog 15 #[.agg #[.int .i64 x0, .int .i64 x1, .int .i64 x2, .int .i64 x3, .int .i64 x4, .int .i64 x5, .int .i64 x6, .int .i64 x7]] w fun e w' => e = .returned (.bool false) ∧ Below w.heap.size w w' := by
  have hb0 : Below w.heap.size w (w.alloc (.cells #[.int .i64 x0, .int .i64 x1, .int .i64 x2, .int .i64 x3, .int .i64 x4, .int .i64 x5, .int .i64 x6, .int .i64 x7] 23)) := (Below.refl _ _).alloc (Nat.le_refl _) _
  have d0 : decide (x0 < 1) = false := by simpa using h0
  have d1 : decide (x0 > 4611686018427387904) = false := by simpa using h1
  have d2 : decide (x1 < 3) = false := by simpa using h2
  have d3 : decide (x1 > 16) = false := by simpa using h3
  have d4 : decide (x2 < 0) = false := by simpa using h4
  have d5 : decide (x2 > x1) = false := by simpa using h5
  have d6 : decide (x3 < 1) = false := by simpa using h6
  have d7 : decide (x3 > 1024) = false := by simpa using h7
  have d8 : decide (x4 < 1) = false := by simpa using h8
  have d9 : decide (x4 > 8) = false := by simpa using h9
  have d10 : decide (x5 < -1) = false := by simpa using h10
  have d11 : decide (x5 ≥ x1) = true := by simpa using h11
  clear h0 h1 h2 h3 h4 h5 h6 h7 h8 h9 h10 h11
  go_enter Tryd.func15, Tryd.ntmps15
  go_wp2_with fail
  go_ret
  exact ⟨rfl, hb0⟩
theorem rr_no12 (x0 x1 x2 x3 x4 x5 x6 x7 : Int) (h0 : ¬ (x0 < 1)) (h1 : ¬ (x0 > 4611686018427387904)) (h2 : ¬ (x1 < 3)) (h3 : ¬ (x1 > 16)) (h4 : ¬ (x2 < 0)) (h5 : ¬ (x2 > x1)) (h6 : ¬ (x3 < 1)) (h7 : ¬ (x3 > 1024)) (h8 : ¬ (x4 < 1)) (h9 : ¬ (x4 > 8)) (h10 : ¬ (x5 < -1)) (h11 : ¬ (x5 ≥ x1)) (h12 : x6 < 0) (w : World) :
    Calls Tryd.prog 15 #[.agg #[.int .i64 x0, .int .i64 x1, .int .i64 x2, .int .i64 x3, .int .i64 x4, .int .i64 x5, .int .i64 x6, .int .i64 x7]] w fun e w' => e = .returned (.bool false) ∧ Below w.heap.size w w' := by
  have hb0 : Below w.heap.size w (w.alloc (.cells #[.int .i64 x0, .int .i64 x1, .int .i64 x2, .int .i64 x3, .int .i64 x4, .int .i64 x5, .int .i64 x6, .int .i64 x7] 23)) := (Below.refl _ _).alloc (Nat.le_refl _) _
  have d0 : decide (x0 < 1) = false := by simpa using h0
  have d1 : decide (x0 > 4611686018427387904) = false := by simpa using h1
  have d2 : decide (x1 < 3) = false := by simpa using h2
  have d3 : decide (x1 > 16) = false := by simpa using h3
  have d4 : decide (x2 < 0) = false := by simpa using h4
  have d5 : decide (x2 > x1) = false := by simpa using h5
  have d6 : decide (x3 < 1) = false := by simpa using h6
  have d7 : decide (x3 > 1024) = false := by simpa using h7
  have d8 : decide (x4 < 1) = false := by simpa using h8
  have d9 : decide (x4 > 8) = false := by simpa using h9
  have d10 : decide (x5 < -1) = false := by simpa using h10
  have d11 : decide (x5 ≥ x1) = false := by simpa using h11
  have d12 : decide (x6 < 0) = true := by simpa using h12
  clear h0 h1 h2 h3 h4 h5 h6 h7 h8 h9 h10 h11 h12
  go_enter Tryd.func15, Tryd.ntmps15
  go_wp2_with fail
  go_ret
  exact ⟨rfl, hb0⟩
theorem rr_no13 (x0 x1 x2 x3 x4 x5 x6 x7 : Int) (h0 : ¬ (x0 < 1)) (h1 : ¬ (x0 > 4611686018427387904)) (h2 : ¬ (x1 < 3)) (h3 : ¬ (x1 > 16)) (h4 : ¬ (x2 < 0)) (h5 : ¬ (x2 > x1)) (h6 : ¬ (x3 < 1)) (h7 : ¬ (x3 > 1024)) (h8 : ¬ (x4 < 1)) (h9 : ¬ (x4 > 8)) (h10 : ¬ (x5 < -1)) (h11 : ¬ (x5 ≥ x1)) (h12 : ¬ (x6 < 0)) (h13 : x6 > x3) (w : World) :
    Calls Tryd.prog 15 #[.agg #[.int .i64 x0, .int .i64 x1, .int .i64 x2, .int .i64 x3, .int .i64 x4, .int .i64 x5, .int .i64 x6, .int .i64 x7]] w fun e w' => e = .returned (.bool false) ∧ Below w.heap.size w w' := by
  have hb0 : Below w.heap.size w (w.alloc (.cells #[.int .i64 x0, .int .i64 x1, .int .i64 x2, .int .i64 x3, .int .i64 x4, .int .i64 x5, .int .i64 x6, .int .i64 x7] 23)) := (Below.refl _ _).alloc (Nat.le_refl _) _
  have d0 : decide (x0 < 1) = false := by simpa using h0
  have d1 : decide (x0 > 4611686018427387904) = false := by simpa using h1
  have d2 : decide (x1 < 3) = false := by simpa using h2
  have d3 : decide (x1 > 16) = false := by simpa using h3
  have d4 : decide (x2 < 0) = false := by simpa using h4
  have d5 : decide (x2 > x1) = false := by simpa using h5
  have d6 : decide (x3 < 1) = false := by simpa using h6
  have d7 : decide (x3 > 1024) = false := by simpa using h7
  have d8 : decide (x4 < 1) = false := by simpa using h8
  have d9 : decide (x4 > 8) = false := by simpa using h9
  have d10 : decide (x5 < -1) = false := by simpa using h10
  have d11 : decide (x5 ≥ x1) = false := by simpa using h11
  have d12 : decide (x6 < 0) = false := by simpa using h12
  have d13 : decide (x6 > x3) = true := by simpa using h13
  clear h0 h1 h2 h3 h4 h5 h6 h7 h8 h9 h10 h11 h12 h13
  go_enter Tryd.func15, Tryd.ntmps15
  go_wp2_with fail
  go_ret
  exact ⟨rfl, hb0⟩
theorem rr_no14 (x0 x1 x2 x3 x4 x5 x6 x7 : Int) (h0 : ¬ (x0 < 1)) (h1 : ¬ (x0 > 4611686018427387904)) (h2 : ¬ (x1 < 3)) (h3 : ¬ (x1 > 16)) (h4 : ¬ (x2 < 0)) (h5 : ¬ (x2 > x1)) (h6 : ¬ (x3 < 1)) (h7 : ¬ (x3 > 1024)) (h8 : ¬ (x4 < 1)) (h9 : ¬ (x4 > 8)) (h10 : ¬ (x5 < -1)) (h11 : ¬ (x5 ≥ x1)) (h12 : ¬ (x6 < 0)) (h13 : ¬ (x6 > x3)) (h14 : x7 < 0) (w : World) :
    Calls Tryd.prog 15 #[.agg #[.int .i64 x0, .int .i64 x1, .int .i64 x2, .int .i64 x3, .int .i64 x4, .int .i64 x5, .int .i64 x6, .int .i64 x7]] w fun e w' => e = .returned (.bool false) ∧ Below w.heap.size w w' := by
  have hb0 : Below w.heap.size w (w.alloc (.cells #[.int .i64 x0, .int .i64 x1, .int .i64 x2, .int .i64 x3, .int .i64 x4, .int .i64 x5, .int .i64 x6, .int .i64 x7] 23)) := (Below.refl _ _).alloc (Nat.le_refl _) _
  have d0 : decide (x0 < 1) = false := by simpa using h0
  have d1 : decide (x0 > 4611686018427387904) = false := by simpa using h1
  have d2 : decide (x1 < 3) = false := by simpa using h2
  have d3 : decide (x1 > 16) = false := by simpa using h3
  have d4 : decide (x2 < 0) = false := by simpa using h4
  have d5 : decide (x2 > x1) = false := by simpa using h5
  have d6 : decide (x3 < 1) = false := by simpa using h6
  have d7 : decide (x3 > 1024) = false := by simpa using h7
  have d8 : decide (x4 < 1) = false := by simpa using h8
  have d9 : decide (x4 > 8) = false := by simpa using h9
  have d10 : decide (x5 < -1) = false := by simpa using h10
  have d11 : decide (x5 ≥ x1) = false := by simpa using h11
  have d12 : decide (x6 < 0) = false := by simpa using h12
  have d13 : decide (x6 > x3) = false := by simpa using h13
  have d14 : decide (x7 < 0) = true := by simpa using h14
  clear h0 h1 h2 h3 h4 h5 h6 h7 h8 h9 h10 h11 h12 h13 h14
  go_enter Tryd.func15, Tryd.ntmps15
  go_wp2_with fail
  go_ret
  exact ⟨rfl, hb0⟩
theorem rr_no15 (x0 x1 x2 x3 x4 x5 x6 x7 : Int) (h0 : ¬ (x0 < 1)) (h1 : ¬ (x0 > 4611686018427387904)) (h2 : ¬ (x1 < 3)) (h3 : ¬ (x1 > 16)) (h4 : ¬ (x2 < 0)) (h5 : ¬ (x2 > x1)) (h6 : ¬ (x3 < 1)) (h7 : ¬ (x3 > 1024)) (h8 : ¬ (x4 < 1)) (h9 : ¬ (x4 > 8)) (h10 : ¬ (x5 < -1)) (h11 : ¬ (x5 ≥ x1)) (h12 : ¬ (x6 < 0)) (h13 : ¬ (x6 > x3)) (h14 : ¬ (x7 < 0)) (h15 : x7 ≥ x3) (w : World) :
    Calls Tryd.prog 15 #[.agg #[.int .i64 x0, .int .i64 x1, .int .i64 x2, .int .i64 x3, .int .i64 x4, .int .i64 x5, .int .i64 x6, .int .i64 x7]] w fun e w' => e = .returned (.bool false) ∧ Below w.heap.size w w' := by
  have hb0 : Below w.heap.size w (w.alloc (.cells #[.int .i64 x0, .int .i64 x1, .int .i64 x2, .int .i64 x3, .int .i64 x4, .int .i64 x5, .int .i64 x6, .int .i64 x7] 23)) := (Below.refl _ _).alloc (Nat.le_refl _) _
  have d0 : decide (x0 < 1) = false := by simpa using h0
  have d1 : decide (x0 > 4611686018427387904) = false := by simpa using h1
  have d2 : decide (x1 < 3) = false := by simpa using h2
  have d3 : decide (x1 > 16) = false := by simpa using h3
  have d4 : decide (x2 < 0) = false := by simpa using h4
  have d5 : decide (x2 > x1) = false := by simpa using h5
  have d6 : decide (x3 < 1) = false := by simpa using h6
  have d7 : decide (x3 > 1024) = false := by simpa using h7
  have d8 : decide (x4 < 1) = false := by simpa using h8
  have d9 : decide (x4 > 8) = false := by simpa using h9
  have d10 : decide (x5 < -1) = false := by simpa using h10
  have d11 : decide (x5 ≥ x1) = false := by simpa using h11
  have d12 : decide (x6 < 0) = false := by simpa using h12
  have d13 : decide (x6 > x3) = false := by simpa using h13
  have d14 : decide (x7 < 0) = false := by simpa using h14
  have d15 : decide (x7 ≥ x3) = true := by simpa using h15
  clear h0 h1 h2 h3 h4 h5 h6 h7 h8 h9 h10 h11 h12 h13 h14 h15
  go_enter Tryd.func15, Tryd.ntmps15
  go_wp2_with fail
  go_ret
  exact ⟨rfl, hb0⟩
theorem rr_spare (x0 x1 x2 x3 x4 x5 x6 x7 : Int) (h0 : ¬ (x0 < 1)) (h1 : ¬ (x0 > 4611686018427387904)) (h2 : ¬ (x1 < 3)) (h3 : ¬ (x1 > 16)) (h4 : ¬ (x2 < 0)) (h5 : ¬ (x2 > x1)) (h6 : ¬ (x3 < 1)) (h7 : ¬ (x3 > 1024)) (h8 : ¬ (x4 < 1)) (h9 : ¬ (x4 > 8)) (h10 : ¬ (x5 < -1)) (h11 : ¬ (x5 ≥ x1)) (h12 : ¬ (x6 < 0)) (h13 : ¬ (x6 > x3)) (h14 : ¬ (x7 < 0)) (h15 : ¬ (x7 ≥ x3)) (h16 : x5 ≥ 0) (w : World) :
    Calls Tryd.prog 15 #[.agg #[.int .i64 x0, .int .i64 x1, .int .i64 x2, .int .i64 x3, .int .i64 x4, .int .i64 x5, .int .i64 x6, .int .i64 x7]] w fun e w' => e = .returned (.bool true) ∧ Below w.heap.size w w' := by
  have hb0 : Below w.heap.size w (w.alloc (.cells #[.int .i64 x0, .int .i64 x1, .int .i64 x2, .int .i64 x3, .int .i64 x4, .int .i64 x5, .int .i64 x6, .int .i64 x7] 23)) := (Below.refl _ _).alloc (Nat.le_refl _) _
  have d0 : decide (x0 < 1) = false := by simpa using h0
  have d1 : decide (x0 > 4611686018427387904) = false := by simpa using h1
  have d2 : decide (x1 < 3) = false := by simpa using h2
  have d3 : decide (x1 > 16) = false := by simpa using h3
  have d4 : decide (x2 < 0) = false := by simpa using h4
  have d5 : decide (x2 > x1) = false := by simpa using h5
  have d6 : decide (x3 < 1) = false := by simpa using h6
  have d7 : decide (x3 > 1024) = false := by simpa using h7
  have d8 : decide (x4 < 1) = false := by simpa using h8
  have d9 : decide (x4 > 8) = false := by simpa using h9
  have d10 : decide (x5 < -1) = false := by simpa using h10
  have d11 : decide (x5 ≥ x1) = false := by simpa using h11
  have d12 : decide (x6 < 0) = false := by simpa using h12
  have d13 : decide (x6 > x3) = false := by simpa using h13
  have d14 : decide (x7 < 0) = false := by simpa using h14
  have d15 : decide (x7 ≥ x3) = false := by simpa using h15
  have d16 : decide (x5 ≥ 0) = true := by simpa using h16
  clear h0 h1 h2 h3 h4 h5 h6 h7 h8 h9 h10 h11 h12 h13 h14 h15 h16
  go_enter Tryd.func15, Tryd.ntmps15
  go_wp2_with fail
  go_ret
  exact ⟨rfl, hb0⟩
theorem rr_none (x0 x1 x2 x3 x4 x5 x6 x7 : Int) (h0 : ¬ (x0 < 1)) (h1 : ¬ (x0 > 4611686018427387904)) (h2 : ¬ (x1 < 3)) (h3 : ¬ (x1 > 16)) (h4 : ¬ (x2 < 0)) (h5 : ¬ (x2 > x1)) (h6 : ¬ (x3 < 1)) (h7 : ¬ (x3 > 1024)) (h8 : ¬ (x4 < 1)) (h9 : ¬ (x4 > 8)) (h10 : ¬ (x5 < -1)) (h11 : ¬ (x5 ≥ x1)) (h12 : ¬ (x6 < 0)) (h13 : ¬ (x6 > x3)) (h14 : ¬ (x7 < 0)) (h15 : ¬ (x7 ≥ x3)) (h16 : ¬ (x5 ≥ 0)) (h17 : x6 = 0) (w : World) :
    Calls Tryd.prog 15 #[.agg #[.int .i64 x0, .int .i64 x1, .int .i64 x2, .int .i64 x3, .int .i64 x4, .int .i64 x5, .int .i64 x6, .int .i64 x7]] w fun e w' => e = .returned (.bool true) ∧ Below w.heap.size w w' := by
  have hb0 : Below w.heap.size w (w.alloc (.cells #[.int .i64 x0, .int .i64 x1, .int .i64 x2, .int .i64 x3, .int .i64 x4, .int .i64 x5, .int .i64 x6, .int .i64 x7] 23)) := (Below.refl _ _).alloc (Nat.le_refl _) _
  have d0 : decide (x0 < 1) = false := by simpa using h0
  have d1 : decide (x0 > 4611686018427387904) = false := by simpa using h1
  have d2 : decide (x1 < 3) = false := by simpa using h2
  have d3 : decide (x1 > 16) = false := by simpa using h3
  have d4 : decide (x2 < 0) = false := by simpa using h4
  have d5 : decide (x2 > x1) = false := by simpa using h5
  have d6 : decide (x3 < 1) = false := by simpa using h6
  have d7 : decide (x3 > 1024) = false := by simpa using h7
  have d8 : decide (x4 < 1) = false := by simpa using h8
  have d9 : decide (x4 > 8) = false := by simpa using h9
  have d10 : decide (x5 < -1) = false := by simpa using h10
  have d11 : decide (x5 ≥ x1) = false := by simpa using h11
  have d12 : decide (x6 < 0) = false := by simpa using h12
  have d13 : decide (x6 > x3) = false := by simpa using h13
  have d14 : decide (x7 < 0) = false := by simpa using h14
  have d15 : decide (x7 ≥ x3) = false := by simpa using h15
  have d16 : decide (x5 ≥ 0) = false := by simpa using h16
  have d17 : (x6 == 0) = true := by simpa using h17
  clear h0 h1 h2 h3 h4 h5 h6 h7 h8 h9 h10 h11 h12 h13 h14 h15 h16 h17
  go_enter Tryd.func15, Tryd.ntmps15
  go_wp2_with fail
  go_ret
  exact ⟨rfl, hb0⟩
theorem rr_mark (x0 x1 x2 x3 x4 x5 x6 x7 : Int) (h0 : ¬ (x0 < 1)) (h1 : ¬ (x0 > 4611686018427387904)) (h2 : ¬ (x1 < 3)) (h3 : ¬ (x1 > 16)) (h4 : ¬ (x2 < 0)) (h5 : ¬ (x2 > x1)) (h6 : ¬ (x3 < 1)) (h7 : ¬ (x3 > 1024)) (h8 : ¬ (x4 < 1)) (h9 : ¬ (x4 > 8)) (h10 : ¬ (x5 < -1)) (h11 : ¬ (x5 ≥ x1)) (h12 : ¬ (x6 < 0)) (h13 : ¬ (x6 > x3)) (h14 : ¬ (x7 < 0)) (h15 : ¬ (x7 ≥ x3)) (h16 : ¬ (x5 ≥ 0)) (h17 : ¬ (x6 = 0)) (w : World) :
    Calls Tryd.prog 15 #[.agg #[.int .i64 x0, .int .i64 x1, .int .i64 x2, .int .i64 x3, .int .i64 x4, .int .i64 x5, .int .i64 x6, .int .i64 x7]] w fun e w' => e = .returned (.bool false) ∧ Below w.heap.size w w' := by
  have hb0 : Below w.heap.size w (w.alloc (.cells #[.int .i64 x0, .int .i64 x1, .int .i64 x2, .int .i64 x3, .int .i64 x4, .int .i64 x5, .int .i64 x6, .int .i64 x7] 23)) := (Below.refl _ _).alloc (Nat.le_refl _) _
  have d0 : decide (x0 < 1) = false := by simpa using h0
  have d1 : decide (x0 > 4611686018427387904) = false := by simpa using h1
  have d2 : decide (x1 < 3) = false := by simpa using h2
  have d3 : decide (x1 > 16) = false := by simpa using h3
  have d4 : decide (x2 < 0) = false := by simpa using h4
  have d5 : decide (x2 > x1) = false := by simpa using h5
  have d6 : decide (x3 < 1) = false := by simpa using h6
  have d7 : decide (x3 > 1024) = false := by simpa using h7
  have d8 : decide (x4 < 1) = false := by simpa using h8
  have d9 : decide (x4 > 8) = false := by simpa using h9
  have d10 : decide (x5 < -1) = false := by simpa using h10
  have d11 : decide (x5 ≥ x1) = false := by simpa using h11
  have d12 : decide (x6 < 0) = false := by simpa using h12
  have d13 : decide (x6 > x3) = false := by simpa using h13
  have d14 : decide (x7 < 0) = false := by simpa using h14
  have d15 : decide (x7 ≥ x3) = false := by simpa using h15
  have d16 : decide (x5 ≥ 0) = false := by simpa using h16
  have d17 : (x6 == 0) = false := by simpa using h17
  clear h0 h1 h2 h3 h4 h5 h6 h7 h8 h9 h10 h11 h12 h13 h14 h15 h16 h17
  go_enter Tryd.func15, Tryd.ntmps15
  go_wp2_with fail
  go_ret
  exact ⟨rfl, hb0⟩
theorem refRight_any (s : Sup) (w : World) :
    Calls Tryd.prog 15 #[s.val] w fun e w' => e = .returned (.bool s.right) ∧ Below w.heap.size w w' := by
  obtain ⟨x0, x1, x2, x3, x4, x5, x6, x7⟩ := s
  have no : ∀ (h : ¬ ((1 ≤ x0 ∧ x0 ≤ 4611686018427387904) ∧ (3 ≤ x1 ∧ x1 ≤ 16) ∧ (0 ≤ x2 ∧ x2 ≤ x1) ∧ (1 ≤ x3 ∧ x3 ≤ 1024) ∧ (1 ≤ x4 ∧ x4 ≤ 8) ∧ (-1 ≤ x5 ∧ x5 ≤ x1 - 1) ∧ (0 ≤ x6 ∧ x6 ≤ Sup.most ⟨x0, x1, x2, x3, x4, x5, x6, x7⟩) ∧ (0 ≤ x7 ∧ x7 ≤ x3 - 1))), Sup.right ⟨x0, x1, x2, x3, x4, x5, x6, x7⟩ = false := fun h => by
    cases hr : Sup.right ⟨x0, x1, x2, x3, x4, x5, x6, x7⟩
    · rfl
    · exact absurd (right_parts hr) h
  have yes : ∀ (h : ((1 ≤ x0 ∧ x0 ≤ 4611686018427387904) ∧ (3 ≤ x1 ∧ x1 ≤ 16) ∧ (0 ≤ x2 ∧ x2 ≤ x1) ∧ (1 ≤ x3 ∧ x3 ≤ 1024) ∧ (1 ≤ x4 ∧ x4 ≤ 8) ∧ (-1 ≤ x5 ∧ x5 ≤ x1 - 1) ∧ (0 ≤ x6 ∧ x6 ≤ Sup.most ⟨x0, x1, x2, x3, x4, x5, x6, x7⟩) ∧ (0 ≤ x7 ∧ x7 ≤ x3 - 1))), Sup.right ⟨x0, x1, x2, x3, x4, x5, x6, x7⟩ = true := fun ⟨h1, h2, h3, h4, h5, h6, h7, h8⟩ => by
    unfold Sup.right
    rw [decide_eq_true h1, decide_eq_true h2, decide_eq_true h3, decide_eq_true h4, decide_eq_true h5, decide_eq_true h6, decide_eq_true h7, decide_eq_true h8]
    rfl
  have m1 : x5 = -1 → Sup.most ⟨x0, x1, x2, x3, x4, x5, x6, x7⟩ = 0 := fun h => if_pos h
  have m2 : x5 ≠ -1 → Sup.most ⟨x0, x1, x2, x3, x4, x5, x6, x7⟩ = x3 := fun h => if_neg h
  have m3 : Sup.most ⟨x0, x1, x2, x3, x4, x5, x6, x7⟩ ≤ max 0 x3 := by
    by_cases h : x5 = -1
    · rw [m1 h]; omega
    · rw [m2 h]; omega
  simp only [Sup.val, Sup.cells]
  by_cases h0 : x0 < 1
  · rw [no (by omega)]; exact rr_no0 x0 x1 x2 x3 x4 x5 x6 x7 h0 w
  by_cases h1 : x0 > 4611686018427387904
  · rw [no (by omega)]; exact rr_no1 x0 x1 x2 x3 x4 x5 x6 x7 h0 h1 w
  by_cases h2 : x1 < 3
  · rw [no (by omega)]; exact rr_no2 x0 x1 x2 x3 x4 x5 x6 x7 h0 h1 h2 w
  by_cases h3 : x1 > 16
  · rw [no (by omega)]; exact rr_no3 x0 x1 x2 x3 x4 x5 x6 x7 h0 h1 h2 h3 w
  by_cases h4 : x2 < 0
  · rw [no (by omega)]; exact rr_no4 x0 x1 x2 x3 x4 x5 x6 x7 h0 h1 h2 h3 h4 w
  by_cases h5 : x2 > x1
  · rw [no (by omega)]; exact rr_no5 x0 x1 x2 x3 x4 x5 x6 x7 h0 h1 h2 h3 h4 h5 w
  by_cases h6 : x3 < 1
  · rw [no (by omega)]; exact rr_no6 x0 x1 x2 x3 x4 x5 x6 x7 h0 h1 h2 h3 h4 h5 h6 w
  by_cases h7 : x3 > 1024
  · rw [no (by omega)]; exact rr_no7 x0 x1 x2 x3 x4 x5 x6 x7 h0 h1 h2 h3 h4 h5 h6 h7 w
  by_cases h8 : x4 < 1
  · rw [no (by omega)]; exact rr_no8 x0 x1 x2 x3 x4 x5 x6 x7 h0 h1 h2 h3 h4 h5 h6 h7 h8 w
  by_cases h9 : x4 > 8
  · rw [no (by omega)]; exact rr_no9 x0 x1 x2 x3 x4 x5 x6 x7 h0 h1 h2 h3 h4 h5 h6 h7 h8 h9 w
  by_cases h10 : x5 < -1
  · rw [no (by omega)]; exact rr_no10 x0 x1 x2 x3 x4 x5 x6 x7 h0 h1 h2 h3 h4 h5 h6 h7 h8 h9 h10 w
  by_cases h11 : x5 ≥ x1
  · rw [no (by omega)]; exact rr_no11 x0 x1 x2 x3 x4 x5 x6 x7 h0 h1 h2 h3 h4 h5 h6 h7 h8 h9 h10 h11 w
  by_cases h12 : x6 < 0
  · rw [no (by omega)]; exact rr_no12 x0 x1 x2 x3 x4 x5 x6 x7 h0 h1 h2 h3 h4 h5 h6 h7 h8 h9 h10 h11 h12 w
  by_cases h13 : x6 > x3
  · rw [no (by omega)]; exact rr_no13 x0 x1 x2 x3 x4 x5 x6 x7 h0 h1 h2 h3 h4 h5 h6 h7 h8 h9 h10 h11 h12 h13 w
  by_cases h14 : x7 < 0
  · rw [no (by omega)]; exact rr_no14 x0 x1 x2 x3 x4 x5 x6 x7 h0 h1 h2 h3 h4 h5 h6 h7 h8 h9 h10 h11 h12 h13 h14 w
  by_cases h15 : x7 ≥ x3
  · rw [no (by omega)]; exact rr_no15 x0 x1 x2 x3 x4 x5 x6 x7 h0 h1 h2 h3 h4 h5 h6 h7 h8 h9 h10 h11 h12 h13 h14 h15 w
  by_cases h16 : x5 ≥ 0
  · rw [yes (by have := m2 (by omega); omega)]; exact rr_spare x0 x1 x2 x3 x4 x5 x6 x7 h0 h1 h2 h3 h4 h5 h6 h7 h8 h9 h10 h11 h12 h13 h14 h15 h16 w
  by_cases h17 : x6 = 0
  · rw [yes (by have := m1 (by omega); omega)]; exact rr_none x0 x1 x2 x3 x4 x5 x6 x7 h0 h1 h2 h3 h4 h5 h6 h7 h8 h9 h10 h11 h12 h13 h14 h15 h16 h17 w
  rw [no (by have := m1 (by omega); omega)]; exact rr_mark x0 x1 x2 x3 x4 x5 x6 x7 h0 h1 h2 h3 h4 h5 h6 h7 h8 h9 h10 h11 h12 h13 h14 h15 h16 h17 w
end Go.Proofs.YtceebcaeodmllaaDoor.S
