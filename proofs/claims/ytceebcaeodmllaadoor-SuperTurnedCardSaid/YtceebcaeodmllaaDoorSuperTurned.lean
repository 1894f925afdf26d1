/-
  SuperTurned is true for every array, every place and every byte: a block of which one byte is another one says nothing.
  Conditions: none of its own; the tables hold what the program's text lays (the card ties that).
-/
import Derived.Test.YtceebcaeodmllaaDoorSy
namespace Go.Proofs.YtceebcaeodmllaaDoor.S.superTurned
open Go.ChangeShapes Go.WideShapes Go.ChangeAt Go.RowKit

theorem own_at {w : World} {base g j : Nat} {l : List Nat} (h : w.ownsRow base 5 1 (.slice (some ⟨g, 0, none⟩) 128 128) 128 (bts l)) (hj : j < 128) (hl : l.length = 128) : w.cell? ⟨g, j, none⟩ = some (.int .u8 ((l.getD j 0 : Nat) : Int)) ∧ w.frozen? ⟨g, j, none⟩ = false := by
  have hw := own_whole h
  refine ⟨?_, frozen_of_row _ _ _ _ _ hw⟩
  rw [cell_of_row _ _ j _ _ _ hw, List.getElem?_toArray]
  exact bts_get l j (by omega)
theorem bts_setA (l : List Nat) (i x : Nat) : (bts l).toArray.setIfInBounds i (.int .u8 (x : Int)) = (bts (l.set i x)).toArray := by
  rw [List.setIfInBounds_toArray]
  simp [bts, List.map_set]
theorem code_turned {s : Sup} (j x : Nat) (hj : j < 128) (hx : x < 256) (h0 : x ≠ 0) : codeD ((encL s.nums).set j ((encL s.nums).getD j 0 ^^^ x)) = 8 := by
  have hv : (encL s.nums).getD j 0 ^^^ x < 256 := Nums.xor_lt_256 ((encL_small s.nums).get j) hx
  have hne : (encL s.nums).getD j 0 ^^^ x ≠ (encL s.nums).getD j 0 := by
    intro e
    apply h0
    have e2 : (encL s.nums).getD j 0 ^^^ x = (encL s.nums).getD j 0 ^^^ 0 := by rw [e, Nat.xor_zero]
    exact Nums.xor_cancel_left e2
  have h : okD ((encL s.nums).set j ((encL s.nums).getD j 0 ^^^ x)) = false := by
    unfold okD
    have := enc_turned s.nums (supOf ((encL s.nums).set j ((encL s.nums).getD j 0 ^^^ x))).nums j _ hj hv hne
    rw [beq_eq_false_iff_ne.2 this, Bool.and_false]
  unfold codeD
  rw [h]
  rfl
theorem walk_no {w : World} (s : Sup) (i : Int) (x : Nat) (hA : All w) (hr : s.right = false) :
    Calls Tryd.prog 6 #[s.val, .int .i64 i, .int .u8 x] w fun e w' => e = .returned (.bool true) ∧ Below w.heap.size w w' := by
  have QE := Lib.hid (fun w => encode_no s w hr)
  clear hr
  obtain ⟨x0, x1, x2, x3, x4, x5, x6, x7⟩ := s
  simp only [Sup.val, Sup.cells] at *
  have hb0 : Below w.heap.size w (w.alloc (.cells #[.int .i64 x0, .int .i64 x1, .int .i64 x2, .int .i64 x3, .int .i64 x4, .int .i64 x5, .int .i64 x6, .int .i64 x7] 23)) := (Below.refl _ _).alloc (Nat.le_refl _) _
  have r0 : (w.alloc (.cells #[.int .i64 x0, .int .i64 x1, .int .i64 x2, .int .i64 x3, .int .i64 x4, .int .i64 x5, .int .i64 x6, .int .i64 x7] 23)).heap[w.heap.size]? = some (.cells #[.int .i64 x0, .int .i64 x1, .int .i64 x2, .int .i64 x3, .int .i64 x4, .int .i64 x5, .int .i64 x6, .int .i64 x7] 23 (0, 0)) := heap_alloc_last _ _
  have z0 : w.heap.size < (w.alloc (.cells #[.int .i64 x0, .int .i64 x1, .int .i64 x2, .int .i64 x3, .int .i64 x4, .int .i64 x5, .int .i64 x6, .int .i64 x7] 23)).heap.size := by simp
  have A0 := hA.over hb0
  obtain ⟨k0, k1, k2, k3, k4, k5, k6, k7, _⟩ := cells8_of r0
  go_enter Tryd.func6, Tryd.ntmps6
  go_wp2_with fail
  generalize w.alloc (.cells #[.int .i64 x0, .int .i64 x1, .int .i64 x2, .int .i64 x3, .int .i64 x4, .int .i64 x5, .int .i64 x6, .int .i64 x7] 23) = W0 at *
  refine (QE.out W0).mono ?_
  rintro e w1 ⟨rfl, b1⟩
  have r1 := (b1.block _ z0).trans r0
  have z1 : w.heap.size < w1.heap.size := Nat.lt_of_lt_of_le z0 b1.size
  have A1 := A0.over b1
  have hb1 := hb0.trans (b1.mono (Nat.le_of_lt z0))
  clear k0 k1 k2 k3 k4 k5 k6 k7
  obtain ⟨k0, k1, k2, k3, k4, k5, k6, k7, _⟩ := cells8_of r1
  clear r0 A0 hb0 z0
  go_wp2_with fail
  refine (lives_true w1 A1).mono ?_
  rintro e w2 ⟨rfl, b2⟩
  have r2 := (b2.block _ z1).trans r1
  have z2 : w.heap.size < w2.heap.size := Nat.lt_of_lt_of_le z1 b2.size
  have A2 := A1.over b2
  have hb2 := hb1.trans (b2.mono (Nat.le_of_lt z1))
  clear k0 k1 k2 k3 k4 k5 k6 k7
  obtain ⟨k0, k1, k2, k3, k4, k5, k6, k7, _⟩ := cells8_of r2
  clear r1 A1 hb1 z1
  go_wp2_with fail
  go_ret
  exact ⟨rfl, hb2⟩
theorem walk_same {w : World} (s : Sup) (i : Int) (x : Nat) (hA : All w) (hr : s.right = true) (h0 : x = 0) :
    Calls Tryd.prog 6 #[s.val, .int .i64 i, .int .u8 x] w fun e w' => e = .returned (.bool true) ∧ Below w.heap.size w w' := by
  have QE := Lib.hid (fun w => encode_ok s w hr)
  have hl := encL_length s.nums
  generalize encL s.nums = l at *
  clear hr
  obtain ⟨x0, x1, x2, x3, x4, x5, x6, x7⟩ := s
  simp only [Sup.val, Sup.cells] at *
  have t0 : ((x : Int) == 0) = true := by rw [beq_iff_eq]; omega
  clear hl h0
  have hb0 : Below w.heap.size w (w.alloc (.cells #[.int .i64 x0, .int .i64 x1, .int .i64 x2, .int .i64 x3, .int .i64 x4, .int .i64 x5, .int .i64 x6, .int .i64 x7] 23)) := (Below.refl _ _).alloc (Nat.le_refl _) _
  have r0 : (w.alloc (.cells #[.int .i64 x0, .int .i64 x1, .int .i64 x2, .int .i64 x3, .int .i64 x4, .int .i64 x5, .int .i64 x6, .int .i64 x7] 23)).heap[w.heap.size]? = some (.cells #[.int .i64 x0, .int .i64 x1, .int .i64 x2, .int .i64 x3, .int .i64 x4, .int .i64 x5, .int .i64 x6, .int .i64 x7] 23 (0, 0)) := heap_alloc_last _ _
  have z0 : w.heap.size < (w.alloc (.cells #[.int .i64 x0, .int .i64 x1, .int .i64 x2, .int .i64 x3, .int .i64 x4, .int .i64 x5, .int .i64 x6, .int .i64 x7] 23)).heap.size := by simp
  have A0 := hA.over hb0
  obtain ⟨k0, k1, k2, k3, k4, k5, k6, k7, _⟩ := cells8_of r0
  go_enter Tryd.func6, Tryd.ntmps6
  go_wp2_with fail
  generalize w.alloc (.cells #[.int .i64 x0, .int .i64 x1, .int .i64 x2, .int .i64 x3, .int .i64 x4, .int .i64 x5, .int .i64 x6, .int .i64 x7] 23) = W0 at *
  refine (QE.out W0 A0.tabs A0.wid).mono ?_
  rintro e w1 ⟨g, rfl, hown, b1⟩
  clear hown
  have r1 := (b1.block _ z0).trans r0
  have z1 : w.heap.size < w1.heap.size := Nat.lt_of_lt_of_le z0 b1.size
  have A1 := A0.over b1
  have hb1 := hb0.trans (b1.mono (Nat.le_of_lt z0))
  clear k0 k1 k2 k3 k4 k5 k6 k7
  obtain ⟨k0, k1, k2, k3, k4, k5, k6, k7, _⟩ := cells8_of r1
  clear r0 A0 hb0 z0
  go_wp2_with fail
  refine (lives_true w1 A1).mono ?_
  rintro e w2 ⟨rfl, b2⟩
  have r2 := (b2.block _ z1).trans r1
  have z2 : w.heap.size < w2.heap.size := Nat.lt_of_lt_of_le z1 b2.size
  have A2 := A1.over b2
  have hb2 := hb1.trans (b2.mono (Nat.le_of_lt z1))
  clear k0 k1 k2 k3 k4 k5 k6 k7
  obtain ⟨k0, k1, k2, k3, k4, k5, k6, k7, _⟩ := cells8_of r2
  clear r1 A1 hb1 z1
  go_wp2_with fail
  go_ret
  exact ⟨rfl, hb2⟩
theorem walk_low {w : World} (s : Sup) (i : Int) (x : Nat) (hA : All w) (hr : s.right = true) (h0 : x ≠ 0) (hi : i < 0) :
    Calls Tryd.prog 6 #[s.val, .int .i64 i, .int .u8 x] w fun e w' => e = .returned (.bool true) ∧ Below w.heap.size w w' := by
  have QE := Lib.hid (fun w => encode_ok s w hr)
  have hl := encL_length s.nums
  generalize encL s.nums = l at *
  clear hr
  obtain ⟨x0, x1, x2, x3, x4, x5, x6, x7⟩ := s
  simp only [Sup.val, Sup.cells] at *
  have t0 : ((x : Int) == 0) = false := by rw [beq_eq_false_iff_ne]; omega
  clear hl h0
  have hb0 : Below w.heap.size w (w.alloc (.cells #[.int .i64 x0, .int .i64 x1, .int .i64 x2, .int .i64 x3, .int .i64 x4, .int .i64 x5, .int .i64 x6, .int .i64 x7] 23)) := (Below.refl _ _).alloc (Nat.le_refl _) _
  have r0 : (w.alloc (.cells #[.int .i64 x0, .int .i64 x1, .int .i64 x2, .int .i64 x3, .int .i64 x4, .int .i64 x5, .int .i64 x6, .int .i64 x7] 23)).heap[w.heap.size]? = some (.cells #[.int .i64 x0, .int .i64 x1, .int .i64 x2, .int .i64 x3, .int .i64 x4, .int .i64 x5, .int .i64 x6, .int .i64 x7] 23 (0, 0)) := heap_alloc_last _ _
  have z0 : w.heap.size < (w.alloc (.cells #[.int .i64 x0, .int .i64 x1, .int .i64 x2, .int .i64 x3, .int .i64 x4, .int .i64 x5, .int .i64 x6, .int .i64 x7] 23)).heap.size := by simp
  have A0 := hA.over hb0
  obtain ⟨k0, k1, k2, k3, k4, k5, k6, k7, _⟩ := cells8_of r0
  go_enter Tryd.func6, Tryd.ntmps6
  go_wp2_with fail
  generalize w.alloc (.cells #[.int .i64 x0, .int .i64 x1, .int .i64 x2, .int .i64 x3, .int .i64 x4, .int .i64 x5, .int .i64 x6, .int .i64 x7] 23) = W0 at *
  refine (QE.out W0 A0.tabs A0.wid).mono ?_
  rintro e w1 ⟨g, rfl, hown, b1⟩
  clear hown
  have r1 := (b1.block _ z0).trans r0
  have z1 : w.heap.size < w1.heap.size := Nat.lt_of_lt_of_le z0 b1.size
  have A1 := A0.over b1
  have hb1 := hb0.trans (b1.mono (Nat.le_of_lt z0))
  clear k0 k1 k2 k3 k4 k5 k6 k7
  obtain ⟨k0, k1, k2, k3, k4, k5, k6, k7, _⟩ := cells8_of r1
  clear r0 A0 hb0 z0
  go_wp2_with fail
  refine (lives_true w1 A1).mono ?_
  rintro e w2 ⟨rfl, b2⟩
  have r2 := (b2.block _ z1).trans r1
  have z2 : w.heap.size < w2.heap.size := Nat.lt_of_lt_of_le z1 b2.size
  have A2 := A1.over b2
  have hb2 := hb1.trans (b2.mono (Nat.le_of_lt z1))
  clear k0 k1 k2 k3 k4 k5 k6 k7
  obtain ⟨k0, k1, k2, k3, k4, k5, k6, k7, _⟩ := cells8_of r2
  clear r1 A1 hb1 z1
  go_wp2_with fail
  go_ret
  exact ⟨rfl, hb2⟩
theorem walk_high {w : World} (s : Sup) (i : Int) (x : Nat) (hA : All w) (hr : s.right = true) (h0 : x ≠ 0) (hi0 : 0 ≤ i) (hi : 128 ≤ i) :
    Calls Tryd.prog 6 #[s.val, .int .i64 i, .int .u8 x] w fun e w' => e = .returned (.bool true) ∧ Below w.heap.size w w' := by
  have QE := Lib.hid (fun w => encode_ok s w hr)
  have hl := encL_length s.nums
  generalize encL s.nums = l at *
  clear hr
  obtain ⟨x0, x1, x2, x3, x4, x5, x6, x7⟩ := s
  simp only [Sup.val, Sup.cells] at *
  have t0 : ((x : Int) == 0) = false := by rw [beq_eq_false_iff_ne]; omega
  have t1 : decide (i < 0) = false := by simpa using hi0
  clear hl h0
  have hb0 : Below w.heap.size w (w.alloc (.cells #[.int .i64 x0, .int .i64 x1, .int .i64 x2, .int .i64 x3, .int .i64 x4, .int .i64 x5, .int .i64 x6, .int .i64 x7] 23)) := (Below.refl _ _).alloc (Nat.le_refl _) _
  have r0 : (w.alloc (.cells #[.int .i64 x0, .int .i64 x1, .int .i64 x2, .int .i64 x3, .int .i64 x4, .int .i64 x5, .int .i64 x6, .int .i64 x7] 23)).heap[w.heap.size]? = some (.cells #[.int .i64 x0, .int .i64 x1, .int .i64 x2, .int .i64 x3, .int .i64 x4, .int .i64 x5, .int .i64 x6, .int .i64 x7] 23 (0, 0)) := heap_alloc_last _ _
  have z0 : w.heap.size < (w.alloc (.cells #[.int .i64 x0, .int .i64 x1, .int .i64 x2, .int .i64 x3, .int .i64 x4, .int .i64 x5, .int .i64 x6, .int .i64 x7] 23)).heap.size := by simp
  have A0 := hA.over hb0
  obtain ⟨k0, k1, k2, k3, k4, k5, k6, k7, _⟩ := cells8_of r0
  go_enter Tryd.func6, Tryd.ntmps6
  go_wp2_with fail
  generalize w.alloc (.cells #[.int .i64 x0, .int .i64 x1, .int .i64 x2, .int .i64 x3, .int .i64 x4, .int .i64 x5, .int .i64 x6, .int .i64 x7] 23) = W0 at *
  refine (QE.out W0 A0.tabs A0.wid).mono ?_
  rintro e w1 ⟨g, rfl, hown, b1⟩
  clear hown
  have r1 := (b1.block _ z0).trans r0
  have z1 : w.heap.size < w1.heap.size := Nat.lt_of_lt_of_le z0 b1.size
  have A1 := A0.over b1
  have hb1 := hb0.trans (b1.mono (Nat.le_of_lt z0))
  clear k0 k1 k2 k3 k4 k5 k6 k7
  obtain ⟨k0, k1, k2, k3, k4, k5, k6, k7, _⟩ := cells8_of r1
  clear r0 A0 hb0 z0
  go_wp2_with fail
  refine (lives_true w1 A1).mono ?_
  rintro e w2 ⟨rfl, b2⟩
  have r2 := (b2.block _ z1).trans r1
  have z2 : w.heap.size < w2.heap.size := Nat.lt_of_lt_of_le z1 b2.size
  have A2 := A1.over b2
  have hb2 := hb1.trans (b2.mono (Nat.le_of_lt z1))
  clear k0 k1 k2 k3 k4 k5 k6 k7
  obtain ⟨k0, k1, k2, k3, k4, k5, k6, k7, _⟩ := cells8_of r2
  clear r1 A1 hb1 z1
  go_wp2_with fail
  go_ret
  exact ⟨rfl, hb2⟩
set_option maxRecDepth 20000 in
set_option maxHeartbeats 2000000 in
theorem walk_yes {w : World} (s : Sup) (j : Nat) (x : Nat) (hx : x < 256) (hA : All w) (hr : s.right = true) (h0 : x ≠ 0) (hj : j < 128) :
    Calls Tryd.prog 6 #[s.val, .int .i64 j, .int .u8 x] w fun e w' => e = .returned (.bool true) ∧ Below w.heap.size w w' := by
  have QE := Lib.hid (fun w => encode_ok s w hr)
  have hl := encL_length s.nums
  have hsm := encL_small s.nums
  have hcode := code_turned (s := s) j x hj hx h0
  generalize encL s.nums = l at *
  have hy := hsm.get j
  have hv : l.getD j 0 ^^^ x < 256 := Nums.xor_lt_256 hy hx
  have hsm2 : Small (l.set j (l.getD j 0 ^^^ x)) := fun y hy2 => by
    rcases List.mem_or_eq_of_mem_set hy2 with h | rfl
    · exact hsm y h
    · exact hv
  have QD := Lib.hid (fun A c => decode_is A c (l.set j (l.getD j 0 ^^^ x)) hsm2)
  rw [hcode] at QD
  have hxor : bits .xor .u8 ((l.getD j 0 : Nat) : Int) (x : Int) = ((l.getD j 0 ^^^ x : Nat) : Int) := u8_xor_nat _ _ hy hx
  have hl2 : (l.set j (l.getD j 0 ^^^ x)).length = 128 := by rw [List.length_set]; exact hl
  have t0 : ((x : Int) == 0) = false := by rw [beq_eq_false_iff_ne]; omega
  have t1 : decide ((j : Int) < 0) = false := by simp
  have t2 : decide ((j : Int) ≥ 128) = false := by simp; omega
  have t3 : (j : Int) < 128 := by omega
  generalize toldOf (l.set j (l.getD j 0 ^^^ x)) = tt at *
  obtain ⟨y0, y1, y2, y3, y4, y5, y6, y7⟩ := tt
  clear hr hcode hsm hsm2 h0
  obtain ⟨x0, x1, x2, x3, x4, x5, x6, x7⟩ := s
  simp only [Sup.val, Sup.cells] at *
  have hb0 : Below w.heap.size w (w.alloc (.cells #[.int .i64 x0, .int .i64 x1, .int .i64 x2, .int .i64 x3, .int .i64 x4, .int .i64 x5, .int .i64 x6, .int .i64 x7] 23)) := (Below.refl _ _).alloc (Nat.le_refl _) _
  have r0 : (w.alloc (.cells #[.int .i64 x0, .int .i64 x1, .int .i64 x2, .int .i64 x3, .int .i64 x4, .int .i64 x5, .int .i64 x6, .int .i64 x7] 23)).heap[w.heap.size]? = some (.cells #[.int .i64 x0, .int .i64 x1, .int .i64 x2, .int .i64 x3, .int .i64 x4, .int .i64 x5, .int .i64 x6, .int .i64 x7] 23 (0, 0)) := heap_alloc_last _ _
  have z0 : w.heap.size < (w.alloc (.cells #[.int .i64 x0, .int .i64 x1, .int .i64 x2, .int .i64 x3, .int .i64 x4, .int .i64 x5, .int .i64 x6, .int .i64 x7] 23)).heap.size := by simp
  have A0 := hA.over hb0
  obtain ⟨k0, k1, k2, k3, k4, k5, k6, k7, _⟩ := cells8_of r0
  go_enter Tryd.func6, Tryd.ntmps6
  go_wp2_with fail
  generalize w.alloc (.cells #[.int .i64 x0, .int .i64 x1, .int .i64 x2, .int .i64 x3, .int .i64 x4, .int .i64 x5, .int .i64 x6, .int .i64 x7] 23) = W0 at *
  refine (QE.out W0 A0.tabs A0.wid).mono ?_
  rintro e w1 ⟨g, rfl, hown, b1⟩
  have hgg : W0.heap.size ≤ g ∧ g < w1.heap.size := by
    rcases hown.2 with ⟨h, _⟩ | ⟨g', _, _, h, h2, h3, _⟩
    · cases h
    · injection h with h _ _
      injection h with h
      injection h with h
      subst h
      refine ⟨h2, ?_⟩
      rcases Nat.lt_or_ge g w1.heap.size with h | h
      · exact h
      · rw [Array.getElem?_eq_none h] at h3; cases h3
  have hwg : w.heap.size ≤ g := by omega
  have n1 := own_whole hown
  clear hown
  have r1 := (b1.block _ z0).trans r0
  have z1 : w.heap.size < w1.heap.size := Nat.lt_of_lt_of_le z0 b1.size
  have A1 := A0.over b1
  have hb1 := hb0.trans (b1.mono (Nat.le_of_lt z0))
  clear k0 k1 k2 k3 k4 k5 k6 k7
  obtain ⟨k0, k1, k2, k3, k4, k5, k6, k7, _⟩ := cells8_of r1
  clear r0 A0 hb0 z0
  go_wp2_with fail
  refine (lives_true w1 A1).mono ?_
  rintro e w2 ⟨rfl, b2⟩
  have n2 := (b2.block g hgg.2).trans n1
  have r2 := (b2.block _ z1).trans r1
  have z2 : w.heap.size < w2.heap.size := Nat.lt_of_lt_of_le z1 b2.size
  have A2 := A1.over b2
  have hb2 := hb1.trans (b2.mono (Nat.le_of_lt z1))
  clear k0 k1 k2 k3 k4 k5 k6 k7
  obtain ⟨k0, k1, k2, k3, k4, k5, k6, k7, _⟩ := cells8_of r2
  clear r1 A1 hb1 z1
  have hg2 : g < w2.heap.size := Nat.lt_of_lt_of_le hgg.2 b2.size
  have c0 : w2.cell? ⟨g, j, none⟩ = some (.int .u8 ((l.getD j 0 : Nat) : Int)) := by
    rw [cell_of_row _ _ j _ _ _ n2, List.getElem?_toArray]
    exact bts_get l j (by omega)
  have f0 : w2.frozen? ⟨g, j, none⟩ = false := frozen_of_row _ _ _ _ _ n2
  have n3 := cells_set (i := j) (.int .u8 ((l.getD j 0 ^^^ x : Nat) : Int)) n2
  rw [bts_setA] at n3
  have b3 : Below w.heap.size w (w2.setCell ⟨g, j, none⟩ (.int .u8 ((l.getD j 0 ^^^ x : Nat) : Int))) := hb2.setCell (p := ⟨g, j, none⟩) hwg _
  have A3 := hA.over b3
  have d3 := reads_row n3 (by simpa using hg2) hl2
  have HB3 := Lib.hid b3
  clear n1 n2 b1 b2 r2 z2 A2 hb2 k0 k1 k2 k3 k4 k5 k6 k7 hgg b3 n3
  generalize l.getD j 0 ^^^ x = v at *
  generalize l.getD j 0 = u at *
  go_wp2_with fail
  refine (QD.out (some ⟨g, 0, none⟩) 128 _ d3 A3.tabs A3.wid).mono ?_
  rintro e w4 ⟨rfl, b4⟩
  simp only [Sup.val, Sup.cells]
  have b5 : Below w4.heap.size w4 (w4.alloc (.cells #[.int .i64 y0, .int .i64 y1, .int .i64 y2, .int .i64 y3, .int .i64 y4, .int .i64 y5, .int .i64 y6, .int .i64 y7] 23)) := (Below.refl _ _).alloc (Nat.le_refl _) _
  have hb5 := below_on (below_on HB3.out b4) b5
  clear d3 A3 b4 b5 c0 f0
  go_wp2_with fail
  go_ret
  exact ⟨rfl, hb5⟩
theorem walk {w : World} (s : Sup) (_ : s.fits) (i : Int) (_ : -9223372036854775808 ≤ i) (_ : i ≤ 9223372036854775807) (x : Nat) (hx : x < 256) (hA : All w) :
    Calls Tryd.prog 6 #[s.val, .int .i64 i, .int .u8 x] w fun e w' => e = .returned (.bool true) ∧ Below w.heap.size w w' := by
  cases hr : s.right
  · exact walk_no s i x hA hr
  · by_cases h0 : x = 0
    · exact walk_same s i x hA hr h0
    · by_cases h1 : i < 0
      · exact walk_low s i x hA hr h0 h1
      · by_cases h2 : 128 ≤ i
        · exact walk_high s i x hA hr h0 (by omega) h2
        · obtain ⟨j, rfl⟩ : ∃ j : Nat, i = (j : Int) := ⟨i.toNat, by omega⟩
          exact walk_yes s j x hx hA hr h0 (by omega)
set_option maxRecDepth 100000 in
/-- WHAT THE WALK GIVES, FOR EVERY ARGUMENT AND EVERY WORLD THAT HOLDS THE TABLES. -/
theorem contract (H : Type) (enc : TypeId × Value → H) (W : World) (base : Nat) (args : Array Value) (ds gs : List (DataW H)) (before : List MemPlace)
    (hval : ∀ (j : Nat) t v, Tryd.f6.params[j]? = some t → args[j]? = some v → Value.okWide Tryd.prog W .any base t v)
    (hW : DataW.Whole enc Tryd.prog Tryd.f6.params.toList Rows.superTurnedSpec.vars false W args.toList ds gs before)
    (hsz : (DataW.weightsEach Tryd.prog (Tryd.f6.params.toList ++ (OpenSpec.ofChange Rows.superTurnedSpec).bare.plain.varTypes Tryd.prog) (ds ++ gs)).all (· ≤ reachBytes) = true) (hL : laidMetH Tryd.prog laidBoth W) :
    Calls Tryd.prog 6 args W fun e W' => ∃ v, e = .returned v ∧ Rows.superTurnedSpec.post enc Tryd.prog Tryd.f6 false true false false W args v W' := by
  have hW' := hW
  obtain ⟨p, q, hA0, hV, rfl, hfz, hnd⟩ := hW
  have hA : DataW.TrodAll enc Tryd.prog W 0 (fun _ => true) true Tryd.f6.params.toList args.toList ds p := hA0
  have hsz2 : (DataW.weightsEach Tryd.prog (Tryd.f6.params.toList ++ []) (ds ++ gs)).all (· ≤ reachBytes) = true := hsz
  rw [Tryd.params6] at hA hval hsz2
  obtain ⟨v0, vs0, d0, ds0, p0, q0, hargs, rfl, rfl, h0, r0⟩ := trodAll_cons hA
  obtain ⟨v1, vs1, d1, ds1, p1, q1, rfl, rfl, rfl, h1, r1⟩ := trodAll_cons r0
  obtain ⟨v2, vs2, d2, ds2, p2, q2, rfl, rfl, rfl, h2, r2⟩ := trodAll_cons r1
  obtain ⟨rfl, rfl, rfl⟩ := trodAll_nil r2
  obtain rfl : args = #[v0, v1, v2] := by cases args; simp_all
  obtain ⟨rfl, rfl⟩ := trodVars_none hV
  have k0 := h0
  have lt0 : ∀ x ∈ p0, x.block < W.heap.size := by obtain ⟨m, hm⟩ := k0; exact DataW.trod_lt m _ _ _ hm
  obtain ⟨z0, rfl, zf0⟩ := sup_came (hval 0 23 v0 rfl rfl) h0
  obtain ⟨a1, rfl, rfl, rfl, w1⟩ := open_int Tryd.underlying3 (hval 1 3 v1 rfl rfl) h1
  have bd1 := bounds_i64 w1
  obtain ⟨a2, rfl, rfl, rfl, w2⟩ := open_int Tryd.underlying5 (hval 2 5 v2 rfl rfl) h2
  have bd2 := bounds_u8 w2
  obtain ⟨m2, hm2⟩ : ∃ m : Nat, a2 = (m : Int) := ⟨a2.toNat, by omega⟩
  have hT := tabs_of_laid hL
  subst hm2
  refine (walk z0 zf0 a1 bd1.1 bd1.2 m2 (by omega) hT).mono fun e W' ⟨he, bel⟩ => ?_
  subst he
  exact ⟨_, rfl, _, _, _, [], _, [], hW', trodAll_mk1 (shut_bool Tryd.underlying4 _), (trodAll_cons_mk (Below.trod laidOut (by kernel_rfl) (of_decide_eq_true (by kernel_rfl)) k0 bel lt0) (trodAll_cons_mk (shut_int Tryd.underlying3 w1) (trodAll_cons_mk (shut_int Tryd.underlying5 w2) trodAll_mk0))), rfl, bel.frame _, fun h => by cases h⟩

theorem laid_met (os : Os) : laidMetH Tryd.prog laidBoth ((laidWorld os).forCall (fun _ _ => 0) ⟨#[], #[.agg #[.int .i64 0, .int .i64 0, .int .i64 0, .int .i64 0, .int .i64 0, .int .i64 0, .int .i64 0, .int .i64 0], .int .i64 0, .int .u8 0], []⟩).memory :=
  laidMetH_of_parts3 (fuel := 8) (laidMet_of_run' 8 (by kernel_rfl) (by kernel_rfl)) (by kernel_rfl) (by kernel_rfl)
theorem reads (os : Os) {H : Type} (enc : TypeId × Value → H) : ∃ places, DataW.whole enc Tryd.prog ((laidWorld os).forCall (fun _ _ => 0) ⟨#[], #[.agg #[.int .i64 0, .int .i64 0, .int .i64 0, .int .i64 0, .int .i64 0, .int .i64 0, .int .i64 0, .int .i64 0], .int .i64 0, .int .u8 0], []⟩).memory Tryd.f6.params.toList Rows.superTurnedSpec.vars false (#[.agg #[.int .i64 0, .int .i64 0, .int .i64 0, .int .i64 0, .int .i64 0, .int .i64 0, .int .i64 0, .int .i64 0], .int .i64 0, .int .u8 0] : Array Value).toList 8 = some ([.agg [.lit (.int .i64 0), .lit (.int .i64 0), .lit (.int .i64 0), .lit (.int .i64 0), .lit (.int .i64 0), .lit (.int .i64 0), .lit (.int .i64 0), .lit (.int .i64 0)], .lit (.int .i64 0), .lit (.int .u8 0)], [], places) :=
  ⟨[], by kernel_rfl⟩
set_option maxRecDepth 100000 in
theorem lifted (os : Os) (started : os.Started) (H : Type) (enc : TypeId × Value → H) (F : Stop.Interp) :
    ReturnsInHanded {} Tryd.checked os 6 .any ((OpenSpec.ofChange Rows.superTurnedSpec).preRow enc Tryd.prog Tryd.f6 Rows.superTurnedRow.domain false Rows.superTurnedRow.laid) (((OpenSpec.ofChange Rows.superTurnedSpec).at F).post enc Tryd.prog Tryd.f6 false true false false) := by
  obtain ⟨places, hx⟩ := reads os enc
  refine returnsInHanded_of_row (C := Tryd.checked) (s := (OpenSpec.ofChange Rows.superTurnedSpec)) own started (by kernel_rfl) Tryd.func6
    (witness_row_at (enc := enc) (C := Tryd.checked) false (laidWorld os) #[.agg #[.int .i64 0, .int .i64 0, .int .i64 0, .int .i64 0, .int .i64 0, .int .i64 0, .int .i64 0, .int .i64 0], .int .i64 0, .int .u8 0] rfl (by kernel_rfl) (by kernel_rfl) (by kernel_rfl)
      (OpenSpec.preRow_of_cond 8 hx (by kernel_rfl) (fun k hk => by cases hk) (by kernel_rfl) (laid_met os))) ?_
  intro W base args ds gs before hval hW _ hcond hsz hL _ _
  exact contract H enc W base args ds gs before hval hW hsz hL
theorem said : Rows.SuperTurnedSaid :=
  OpenClaim.holds_of_cond 6 Tryd.f6 rfl rfl rfl rfl rfl rfl rfl ⟨rfl, rfl, rfl, rfl, rfl⟩ rfl rfl rfl rfl rfl (by kernel_rfl) Tryd.func6 (by kernel_rfl)
    (of_decide_eq_true (by kernel_rfl)) (by unfold Func.isWrapper; first | (rw [if_pos (by decide +kernel)]; kernel_rfl) | (rw [if_neg (by decide +kernel)]; exact ⟨rfl, rfl⟩))
    (fun os started H enc _ F => by rw [OpenClaim.pre_eq_preRow]; exact lifted os started H enc F)
theorem plain (f : FuncId) (fn : Func) (hf : Tryd.pinned.checked.prog.funcNamed "ashlar/ashlarlaw04.SuperTurned" = some f) (hfn : Tryd.pinned.checked.prog.funcs[f]? = some fn) :
    false = Tryd.pinned.checked.prog.looks [] ∧ ∀ (j : Nat) t, fn.params[j]? = some t → Tryd.pinned.checked.prog.wantsStandIn t = false := by
  obtain rfl : f = 6 := Option.some.inj ((show Tryd.prog.funcNamed "ashlar/ashlarlaw04.SuperTurned" = some 6 by kernel_rfl).symm.trans hf) |>.symm
  obtain rfl : fn = Tryd.f6 := (Option.some.inj (Tryd.func6.symm.trans hfn)).symm
  refine ⟨by kernel_rfl, fun j t ht => ?_⟩
  rw [Tryd.params6] at ht
  have hm : t ∈ [23, 3, 5] := by simpa using Array.mem_of_getElem? ht
  have hall : ([23, 3, 5].all fun u => !Tryd.prog.wantsStandIn u) = true := by kernel_rfl
  exact (show Tryd.prog.wantsStandIn t = false by simpa using List.all_eq_true.1 hall t hm)

/-- ████ THE CARD ████ -/
theorem card : Rows.SuperTurnedCardSaid :=
  Claim7.holds_tied_plain_at .later [] _ _ _ _ said (fun _ h => by cases h) (by kernel_rfl) (fun _ h => by cases h) superTurned_row_tie rfl ⟨rfl, rfl⟩ (by kernel_rfl) rfl plain (by kernel_rfl)
end Go.Proofs.YtceebcaeodmllaaDoor.S.superTurned
