/-
  SuperNewest is true for every list of what disks say, every generation, every array and every disk.
  Conditions: none of its own; the tables hold what the program's text lays (the card ties that).
-/
import Derived.Test.YtceebcaeodmllaaDoorSi
namespace Go.Proofs.YtceebcaeodmllaaDoor.S.superNewest
open Go.ChangeShapes Go.WideShapes Go.ChangeAt Go.RowKit

theorem tmod_even {g : Int} (h : g % 2 = 0) : g.tmod 2 = 0 := by
  have := Int.tmod_eq_emod (a := g) (b := 2)
  rw [this, h]
  rw [if_pos (.inr (by omega))]
  rfl
theorem tmod_odd {g : Int} (h : g % 2 = 1) : g.tmod 2 ≠ 0 := by
  have := Int.tmod_eq_emod (a := g) (b := 2)
  rw [this, h]
  split
  · decide
  · decide
theorem info_sup8 : (Tryd.prog.info? 23).map (fun i => (i.zero, i.size, i.bytes)) = some (some (.agg #[.int .i64 0, .int .i64 0, .int .i64 0, .int .i64 0, .int .i64 0, .int .i64 0, .int .i64 0, .int .i64 0]), 8, 64) := by kernel_rfl
theorem walk_many {w : World} (A : Option Addr) (n c : Nat) (g : Int) (s : Sup) (d : Int) (hA : All w) (hn : 1000 < n) :
    Calls Tryd.prog 7 #[.slice A n c, .int .i64 g, s.val, .int .i64 d] w fun e w' => e = .returned (.bool true) ∧ Below w.heap.size w w' := by
  have hq : decide ((n : Int) > 1000) = true := by simp; omega
  clear hn
  obtain ⟨x0, x1, x2, x3, x4, x5, x6, x7⟩ := s
  simp only [Sup.val, Sup.cells]
  have hb0 : Below w.heap.size w (w.alloc (.cells #[.int .i64 x0, .int .i64 x1, .int .i64 x2, .int .i64 x3, .int .i64 x4, .int .i64 x5, .int .i64 x6, .int .i64 x7] 23)) := (Below.refl _ _).alloc (Nat.le_refl _) _
  have r0 : (w.alloc (.cells #[.int .i64 x0, .int .i64 x1, .int .i64 x2, .int .i64 x3, .int .i64 x4, .int .i64 x5, .int .i64 x6, .int .i64 x7] 23)).heap[w.heap.size]? = some (.cells #[.int .i64 x0, .int .i64 x1, .int .i64 x2, .int .i64 x3, .int .i64 x4, .int .i64 x5, .int .i64 x6, .int .i64 x7] 23 (0, 0)) := heap_alloc_last _ _
  have z0 : w.heap.size < (w.alloc (.cells #[.int .i64 x0, .int .i64 x1, .int .i64 x2, .int .i64 x3, .int .i64 x4, .int .i64 x5, .int .i64 x6, .int .i64 x7] 23)).heap.size := by simp
  have A0 := hA.over hb0
  obtain ⟨k0, k1, k2, k3, k4, k5, k6, k7, _⟩ := cells8_of r0
  go_enter Tryd.func7, Tryd.ntmps7
  go_wp2_with fail
  generalize w.alloc (.cells #[.int .i64 x0, .int .i64 x1, .int .i64 x2, .int .i64 x3, .int .i64 x4, .int .i64 x5, .int .i64 x6, .int .i64 x7] 23) = W0 at *
  refine (lives_true W0 A0).mono ?_
  rintro e w1 ⟨rfl, b1⟩
  have hb1 := hb0.trans (b1.mono (Nat.le_of_lt z0))
  go_wp2_with fail
  go_ret
  exact ⟨rfl, hb1⟩
set_option maxRecDepth 20000 in
set_option maxHeartbeats 4000000 in
theorem walk_few {w : World} (A : Option Addr) (n c : Nat) (ss : List Sup) (hr : SupsAre w w.heap.size A n ss) (g : Int) (g1 : -9223372036854775808 ≤ g) (g2 : g ≤ 9223372036854775807) (s : Sup) (hf : s.fits) (d : Int) (hA : All w) (hn : n ≤ 1000) :
    Calls Tryd.prog 7 #[.slice A n c, .int .i64 g, s.val, .int .i64 d] w fun e w' => e = .returned (.bool true) ∧ Below w.heap.size w w' := by
  have hq : decide ((n : Int) > 1000) = false := by simp; omega
  have hlen := hr.1
  have hx6 := hf s.mark (by simp)
  obtain ⟨x0, x1, x2, x3, x4, x5, x6, x7⟩ := s
  simp only [Sup.val, Sup.cells] at *
  have hne := xor1_ne x6 hx6.1 hx6.2
  generalize hm : bits .xor .i64 x6 1 = m at *
  obtain ⟨i1, ki, kz0, kz1, kz2⟩ := info_parts info_sup8
  clear hf hx6
  have hb0 : Below w.heap.size w (w.alloc (.cells #[.int .i64 x0, .int .i64 x1, .int .i64 x2, .int .i64 x3, .int .i64 x4, .int .i64 x5, .int .i64 x6, .int .i64 x7] 23)) := (Below.refl _ _).alloc (Nat.le_refl _) _
  have r0 : (w.alloc (.cells #[.int .i64 x0, .int .i64 x1, .int .i64 x2, .int .i64 x3, .int .i64 x4, .int .i64 x5, .int .i64 x6, .int .i64 x7] 23)).heap[w.heap.size]? = some (.cells #[.int .i64 x0, .int .i64 x1, .int .i64 x2, .int .i64 x3, .int .i64 x4, .int .i64 x5, .int .i64 x6, .int .i64 x7] 23 (0, 0)) := heap_alloc_last _ _
  have z0 : w.heap.size < (w.alloc (.cells #[.int .i64 x0, .int .i64 x1, .int .i64 x2, .int .i64 x3, .int .i64 x4, .int .i64 x5, .int .i64 x6, .int .i64 x7] 23)).heap.size := by simp
  have A0 := hA.over hb0
  obtain ⟨k0, k1, k2, k3, k4, k5, k6, k7, _⟩ := cells8_of r0
  have h0 := hr.below hb0
  have HN := Lib.hid hne
  have hz0 : (w.alloc (.cells #[.int .i64 x0, .int .i64 x1, .int .i64 x2, .int .i64 x3, .int .i64 x4, .int .i64 x5, .int .i64 x6, .int .i64 x7] 23)).heap.size = w.heap.size + 1 := by simp
  have o0 : ((w.alloc (.cells #[.int .i64 x0, .int .i64 x1, .int .i64 x2, .int .i64 x3, .int .i64 x4, .int .i64 x5, .int .i64 x6, .int .i64 x7] 23)).alloc (.cells #[] 23)).ownsRow (w.heap.size + 1) 23 8 (.slice (some ⟨w.heap.size + 1, 0, none⟩) 0 0) 0 [] := by
    have h := World.ownsRow_made (e := 23) (size := 8) (base := w.heap.size + 1) (w.alloc (.cells #[.int .i64 x0, .int .i64 x1, .int .i64 x2, .int .i64 x3, .int .i64 x4, .int .i64 x5, .int .i64 x6, .int .i64 x7] 23)) #[] 0 (by rw [hz0]; exact Nat.le_refl _) (by decide) rfl
    rw [hz0] at h
    exact h
  have h1 := h0.below ((Below.refl _ (w.alloc (.cells #[.int .i64 x0, .int .i64 x1, .int .i64 x2, .int .i64 x3, .int .i64 x4, .int .i64 x5, .int .i64 x6, .int .i64 x7] 23))).alloc (B := w.heap.size) (by omega) (.cells #[] 23))
  have bb : Below (w.heap.size + 1) (w.alloc (.cells #[.int .i64 x0, .int .i64 x1, .int .i64 x2, .int .i64 x3, .int .i64 x4, .int .i64 x5, .int .i64 x6, .int .i64 x7] 23)) ((w.alloc (.cells #[.int .i64 x0, .int .i64 x1, .int .i64 x2, .int .i64 x3, .int .i64 x4, .int .i64 x5, .int .i64 x6, .int .i64 x7] 23)).alloc (.cells #[] 23)) := (Below.refl _ _).alloc (by omega) _
  clear hne hr
  go_enter Tryd.func7, Tryd.ntmps7
  go_wp2_with (at_builtin; go_must (refine appendSups _ rfl (.tmp 21) (.tmp 22) rfl _ i1 _ ki kz0 kz1 kz2 rfl (.slice (some ⟨w.heap.size + 1, 0, none⟩) 0 0) rfl o0 w.heap.size A n c ss rfl h1 hn (w.alloc (.cells #[.int .i64 x0, .int .i64 x1, .int .i64 x2, .int .i64 x3, .int .i64 x4, .int .i64 x5, .int .i64 x6, .int .i64 x7] 23)) bb (by simp) ?_; intro v2 w2 hown2 b2))
  obtain ⟨A2, c2, rfl, hs2⟩ := sups_of_own hown2 hlen
  have hsw2 : w.heap.size + 1 ≤ w2.heap.size := by have := b2.size; omega
  have bw2 := hb0.trans (b2.mono (by omega))
  have r2 := (b2.block w.heap.size (by omega)).trans r0
  have h2 := h0.below (b2.mono (by omega : w.heap.size ≤ w.heap.size + 1))
  clear hown2 bb h1 o0 kz0 kz1 kz2 ki r0 A0 h0
  clear k0 k1 k2 k3 k4 k5 k6 k7
  go_wp2_with fail
  refine (newest_any A2 n c2 _ ss w2 hs2 (Nat.le_refl _) (by omega)).mono ?_
  rintro e w3 ⟨rfl, b3⟩
  have h3 := h2.below (b3.mono (by omega : w.heap.size ≤ w2.heap.size))
  have r3 := (b3.block w.heap.size (by omega)).trans r2
  have bw3 := bw2.trans (b3.mono (by omega))
  have hsw3 : w.heap.size + 1 ≤ w3.heap.size := by have := b3.size; omega
  clear hs2 h2 r2 bw2 b2 b3
  go_wp2_with fail
  refine (refNewest_any A n c w.heap.size ss w3 h3 (by omega) (by omega)).mono ?_
  rintro e w4 ⟨rfl, b4⟩
  have r4 := (b4.block w.heap.size (by omega)).trans r3
  have bw4 := bw3.trans (b4.mono (by omega))
  have hsw4 : w.heap.size + 1 ≤ w4.heap.size := by have := b4.size; omega
  clear h3 r3 bw3 b4
  obtain ⟨k0, k1, k2, k3, k4, k5, k6, k7, _⟩ := cells8_of r4
  have s5 : (w4.alloc (.cells #[.int .i64 x0, .int .i64 x1, .int .i64 d, .int .i64 x3, .int .i64 x4, .int .i64 x5, .int .i64 x6, .int .i64 x7] 23)).heap.size = w4.heap.size + 1 := by simp
  have b5 : Below w4.heap.size w4 (w4.alloc (.cells #[.int .i64 x0, .int .i64 x1, .int .i64 d, .int .i64 x3, .int .i64 x4, .int .i64 x5, .int .i64 x6, .int .i64 x7] 23)) := (Below.refl _ _).alloc (Nat.le_refl _) _
  have r5 := (b5.block w.heap.size (by omega)).trans r4
  have t5 : (w4.alloc (.cells #[.int .i64 x0, .int .i64 x1, .int .i64 d, .int .i64 x3, .int .i64 x4, .int .i64 x5, .int .i64 x6, .int .i64 x7] 23)).heap[w4.heap.size]? = some (.cells #[.int .i64 x0, .int .i64 x1, .int .i64 d, .int .i64 x3, .int .i64 x4, .int .i64 x5, .int .i64 x6, .int .i64 x7] 23 (0, 0)) := heap_alloc_last _ _
  obtain ⟨j0, j1, j2, j3, j4, j5, j6, j7, _⟩ := cells8_of r5
  have b6 : Below (w4.heap.size + 1) (w4.alloc (.cells #[.int .i64 x0, .int .i64 x1, .int .i64 d, .int .i64 x3, .int .i64 x4, .int .i64 x5, .int .i64 x6, .int .i64 x7] 23)) ((w4.alloc (.cells #[.int .i64 x0, .int .i64 x1, .int .i64 d, .int .i64 x3, .int .i64 x4, .int .i64 x5, .int .i64 x6, .int .i64 x7] 23)).alloc (.cells #[.int .i64 x0, .int .i64 x1, .int .i64 x2, .int .i64 x3, .int .i64 x4, .int .i64 x5, .int .i64 m, .int .i64 x7] 23)) := (Below.refl _ _).alloc (by omega) _
  have r6 := (b6.block w.heap.size (by omega)).trans r5
  have t6 := (b6.block w4.heap.size (by omega)).trans t5
  have u6 : ((w4.alloc (.cells #[.int .i64 x0, .int .i64 x1, .int .i64 d, .int .i64 x3, .int .i64 x4, .int .i64 x5, .int .i64 x6, .int .i64 x7] 23)).alloc (.cells #[.int .i64 x0, .int .i64 x1, .int .i64 x2, .int .i64 x3, .int .i64 x4, .int .i64 x5, .int .i64 m, .int .i64 x7] 23)).heap[w4.heap.size + 1]? = some (.cells #[.int .i64 x0, .int .i64 x1, .int .i64 x2, .int .i64 x3, .int .i64 x4, .int .i64 x5, .int .i64 m, .int .i64 x7] 23 (0, 0)) := by rw [← s5]; exact heap_alloc_last _ _
  have s6 : ((w4.alloc (.cells #[.int .i64 x0, .int .i64 x1, .int .i64 d, .int .i64 x3, .int .i64 x4, .int .i64 x5, .int .i64 x6, .int .i64 x7] 23)).alloc (.cells #[.int .i64 x0, .int .i64 x1, .int .i64 x2, .int .i64 x3, .int .i64 x4, .int .i64 x5, .int .i64 m, .int .i64 x7] 23)).heap.size = w4.heap.size + 1 + 1 := by simp
  have bw6 := (bw4.trans (b5.mono (by omega))).trans (b6.mono (by omega : w.heap.size ≤ w4.heap.size + 1))
  have A6 := hA.over bw6
  generalize nwst ss n = best at *
  generalize decide (0 < n) = some_ at *
  clear r4 r5 t5 b5 b6 bw4 s5 hA
  go_wp2_with fail
  refine (lives_true _ A6).mono ?_
  rintro e w7 ⟨rfl, b7⟩
  have hb7 := bw6.trans (b7.mono (by omega))
  have r7 := (b7.block w.heap.size (by omega)).trans r6
  have t7 := (b7.block w4.heap.size (by omega)).trans t6
  have u7 := (b7.block (w4.heap.size + 1) (by omega)).trans u6
  have s7 := b7.size
  have hlt7 : w.heap.size < w7.heap.size := by omega
  have hlt8 : w4.heap.size < w7.heap.size := by omega
  have hlt9 : w4.heap.size + 1 < w7.heap.size := by omega
  clear k0 k1 k2 k3 k4 k5 k6 k7 j0 j1 j2 j3 j4 j5 j6 j7 r6 t6 u6 b7 bw6 A6 s6 s7
  obtain ⟨k0, k1, k2, k3, k4, k5, k6, k7, _⟩ := cells8_of r7
  obtain ⟨j0, j1, j2, j3, j4, j5, j6, j7, _⟩ := cells8_of t7
  obtain ⟨l0, l1, l2, l3, l4, l5, l6, l7, _⟩ := cells8_of u7
  rcases (show g % 2 = 0 ∨ g % 2 = 1 by omega) with hev | hev
  · have e0 : (g.tmod 2 == 0) = true := by rw [beq_iff_eq]; exact tmod_even hev
    have e1 : (g % 2 == 0) = true := by rw [beq_iff_eq]; exact hev
    clear hev
    go_wp2_with (go_at_call 18; refine (slot_any g _ g1 g2).mono ?_; rintro e w' ⟨rfl, rfl⟩)
    refine (alike_yes x0 x1 x2 x3 x4 x5 x6 x7 d w7).mono ?_
    rintro e w8 ⟨rfl, b8⟩
    clear k0 k1 k2 k3 k4 k5 k6 k7 j0 j1 j2 j3 j4 j5 j6 j7 l0 l1 l2 l3 l4 l5 l6 l7
    obtain ⟨k0, k1, k2, k3, k4, k5, k6, k7, _⟩ := cells8_of ((b8.block w.heap.size hlt7).trans r7)
    obtain ⟨l0, l1, l2, l3, l4, l5, l6, l7, _⟩ := cells8_of ((b8.block (w4.heap.size + 1) hlt9).trans u7)
    have hb8 := hb7.trans (b8.mono (Nat.le_of_lt hlt7))
    have hlt10 : w.heap.size ≤ w8.heap.size := by have := b8.size; omega
    clear r7 t7 u7 hb7 b8
    go_wp2_with fail
    refine (alike_no x0 x1 x2 x3 x4 x5 x6 x7 m HN.out w8).mono ?_
    rintro e w9 ⟨rfl, b9⟩
    have hb9 := hb8.trans (b9.mono hlt10)
    clear k0 k1 k2 k3 k4 k5 k6 k7 l0 l1 l2 l3 l4 l5 l6 l7 hb8 b9
    go_wp2_with fail
    go_ret
    exact ⟨rfl, hb9⟩
  · have e0 : (g.tmod 2 == 0) = false := by rw [beq_eq_false_iff_ne]; exact tmod_odd hev
    have e1 : (g % 2 == 0) = false := by rw [beq_eq_false_iff_ne]; omega
    have e2 : (g % 2 == 1) = true := by rw [beq_iff_eq]; exact hev
    clear hev
    go_wp2_with (go_at_call 18; refine (slot_any g _ g1 g2).mono ?_; rintro e w' ⟨rfl, rfl⟩)
    refine (alike_yes x0 x1 x2 x3 x4 x5 x6 x7 d w7).mono ?_
    rintro e w8 ⟨rfl, b8⟩
    clear k0 k1 k2 k3 k4 k5 k6 k7 j0 j1 j2 j3 j4 j5 j6 j7 l0 l1 l2 l3 l4 l5 l6 l7
    obtain ⟨k0, k1, k2, k3, k4, k5, k6, k7, _⟩ := cells8_of ((b8.block w.heap.size hlt7).trans r7)
    obtain ⟨l0, l1, l2, l3, l4, l5, l6, l7, _⟩ := cells8_of ((b8.block (w4.heap.size + 1) hlt9).trans u7)
    have hb8 := hb7.trans (b8.mono (Nat.le_of_lt hlt7))
    have hlt10 : w.heap.size ≤ w8.heap.size := by have := b8.size; omega
    clear r7 t7 u7 hb7 b8
    go_wp2_with fail
    refine (alike_no x0 x1 x2 x3 x4 x5 x6 x7 m HN.out w8).mono ?_
    rintro e w9 ⟨rfl, b9⟩
    have hb9 := hb8.trans (b9.mono hlt10)
    clear k0 k1 k2 k3 k4 k5 k6 k7 l0 l1 l2 l3 l4 l5 l6 l7 hb8 b9
    go_wp2_with fail
    go_ret
    exact ⟨rfl, hb9⟩
theorem walk {w : World} (A : Option Addr) (n c : Nat) (ss : List Sup) (hr : SupsAre w w.heap.size A n ss) (_ : n * 64 ≤ 140737488351232) (g : Int) (g1 : -9223372036854775808 ≤ g) (g2 : g ≤ 9223372036854775807) (s : Sup) (hf : s.fits) (d : Int) (_ : -9223372036854775808 ≤ d) (_ : d ≤ 9223372036854775807) (hA : All w) :
    Calls Tryd.prog 7 #[.slice A n c, .int .i64 g, s.val, .int .i64 d] w fun e w' => e = .returned (.bool true) ∧ Below w.heap.size w w' := by
  by_cases hn : 1000 < n
  · exact walk_many A n c g s d hA hn
  · exact walk_few A n c ss hr g g1 g2 s hf d hA (by omega)
set_option maxRecDepth 100000 in
/-- WHAT THE WALK GIVES, FOR EVERY ARGUMENT AND EVERY WORLD THAT HOLDS THE TABLES. -/
theorem contract (H : Type) (enc : TypeId × Value → H) (W : World) (base : Nat) (args : Array Value) (ds gs : List (DataW H)) (before : List MemPlace)
    (hval : ∀ (j : Nat) t v, Tryd.f7.params[j]? = some t → args[j]? = some v → Value.okWide Tryd.prog W .any base t v)
    (hW : DataW.Whole enc Tryd.prog Tryd.f7.params.toList Rows.superNewestSpec.vars false W args.toList ds gs before)
    (hsz : (DataW.weightsEach Tryd.prog (Tryd.f7.params.toList ++ (OpenSpec.ofChange Rows.superNewestSpec).bare.plain.varTypes Tryd.prog) (ds ++ gs)).all (· ≤ reachBytes) = true) (hL : laidMetH Tryd.prog laidBoth W) :
    Calls Tryd.prog 7 args W fun e W' => ∃ v, e = .returned v ∧ Rows.superNewestSpec.post enc Tryd.prog Tryd.f7 false true false false W args v W' := by
  have hW' := hW
  obtain ⟨p, q, hA0, hV, rfl, hfz, hnd⟩ := hW
  have hA : DataW.TrodAll enc Tryd.prog W 0 (fun _ => true) true Tryd.f7.params.toList args.toList ds p := hA0
  have hsz2 : (DataW.weightsEach Tryd.prog (Tryd.f7.params.toList ++ []) (ds ++ gs)).all (· ≤ reachBytes) = true := hsz
  rw [Tryd.params7] at hA hval hsz2
  obtain ⟨v0, vs0, d0, ds0, p0, q0, hargs, rfl, rfl, h0, r0⟩ := trodAll_cons hA
  obtain ⟨v1, vs1, d1, ds1, p1, q1, rfl, rfl, rfl, h1, r1⟩ := trodAll_cons r0
  obtain ⟨v2, vs2, d2, ds2, p2, q2, rfl, rfl, rfl, h2, r2⟩ := trodAll_cons r1
  obtain ⟨v3, vs3, d3, ds3, p3, q3, rfl, rfl, rfl, h3, r3⟩ := trodAll_cons r2
  obtain ⟨rfl, rfl, rfl⟩ := trodAll_nil r3
  obtain rfl : args = #[v0, v1, v2, v3] := by cases args; simp_all
  obtain ⟨rfl, rfl⟩ := trodVars_none hV
  obtain ⟨A0, n0, c0, rfl⟩ := okWide_slice Tryd.underlying35 (hval 0 35 v0 rfl rfl)
  have k0 := h0
  have lt0 : ∀ x ∈ p0, x.block < W.heap.size := by obtain ⟨m, hm⟩ := k0; exact DataW.trod_lt m _ _ _ hm
  have hw0 : ∀ m ∈ d0.weights Tryd.prog 35, m ≤ reachBytes := fun m hm => by simpa using List.all_eq_true.1 hsz2 m (DataW.weights_mem_each (j := 0) (t := 35) rfl rfl m hm)
  obtain ⟨ss0, rd0, b0⟩ : ∃ ss, SupsAre W W.heap.size A0 n0 ss ∧ n0 * 64 ≤ 140737488351232 := by obtain ⟨fuel, hf⟩ := h0; exact sups_in (by simpa [Value.cells] using hf) hw0
  obtain ⟨a1, rfl, rfl, rfl, w1⟩ := open_int Tryd.underlying3 (hval 1 3 v1 rfl rfl) h1
  have bd1 := bounds_i64 w1
  have k2 := h2
  have lt2 : ∀ x ∈ p2, x.block < W.heap.size := by obtain ⟨m, hm⟩ := k2; exact DataW.trod_lt m _ _ _ hm
  obtain ⟨z2, rfl, zf2⟩ := sup_came (hval 2 23 v2 rfl rfl) h2
  obtain ⟨a3, rfl, rfl, rfl, w3⟩ := open_int Tryd.underlying3 (hval 3 3 v3 rfl rfl) h3
  have bd3 := bounds_i64 w3
  have hT := tabs_of_laid hL
  refine (walk A0 n0 c0 ss0 rd0 b0 a1 bd1.1 bd1.2 z2 zf2 a3 bd3.1 bd3.2 hT).mono fun e W' ⟨he, bel⟩ => ?_
  subst he
  exact ⟨_, rfl, _, _, _, [], _, [], hW', trodAll_mk1 (shut_bool Tryd.underlying4 _), (trodAll_cons_mk (Below.trod laidOut (by kernel_rfl) (of_decide_eq_true (by kernel_rfl)) k0 bel lt0) (trodAll_cons_mk (shut_int Tryd.underlying3 w1) (trodAll_cons_mk (Below.trod laidOut (by kernel_rfl) (of_decide_eq_true (by kernel_rfl)) k2 bel lt2) (trodAll_cons_mk (shut_int Tryd.underlying3 w3) trodAll_mk0)))), rfl, bel.frame _, fun h => by cases h⟩

theorem laid_met (os : Os) : laidMetH Tryd.prog laidBoth ((laidWorld os).forCall (fun _ _ => 0) ⟨#[], #[.slice none 0 0, .int .i64 0, .agg #[.int .i64 0, .int .i64 0, .int .i64 0, .int .i64 0, .int .i64 0, .int .i64 0, .int .i64 0, .int .i64 0], .int .i64 0], []⟩).memory :=
  laidMetH_of_parts3 (fuel := 8) (laidMet_of_run' 8 (by kernel_rfl) (by kernel_rfl)) (by kernel_rfl) (by kernel_rfl)
theorem reads (os : Os) {H : Type} (enc : TypeId × Value → H) : ∃ places, DataW.whole enc Tryd.prog ((laidWorld os).forCall (fun _ _ => 0) ⟨#[], #[.slice none 0 0, .int .i64 0, .agg #[.int .i64 0, .int .i64 0, .int .i64 0, .int .i64 0, .int .i64 0, .int .i64 0, .int .i64 0, .int .i64 0], .int .i64 0], []⟩).memory Tryd.f7.params.toList Rows.superNewestSpec.vars false (#[.slice none 0 0, .int .i64 0, .agg #[.int .i64 0, .int .i64 0, .int .i64 0, .int .i64 0, .int .i64 0, .int .i64 0, .int .i64 0, .int .i64 0], .int .i64 0] : Array Value).toList 8 = some ([.nil, .lit (.int .i64 0), .agg [.lit (.int .i64 0), .lit (.int .i64 0), .lit (.int .i64 0), .lit (.int .i64 0), .lit (.int .i64 0), .lit (.int .i64 0), .lit (.int .i64 0), .lit (.int .i64 0)], .lit (.int .i64 0)], [], places) :=
  ⟨[], by kernel_rfl⟩
set_option maxRecDepth 100000 in
theorem lifted (os : Os) (started : os.Started) (H : Type) (enc : TypeId × Value → H) (F : Stop.Interp) :
    ReturnsInHanded {} Tryd.checked os 7 .any ((OpenSpec.ofChange Rows.superNewestSpec).preRow enc Tryd.prog Tryd.f7 Rows.superNewestRow.domain false Rows.superNewestRow.laid) (((OpenSpec.ofChange Rows.superNewestSpec).at F).post enc Tryd.prog Tryd.f7 false true false false) := by
  obtain ⟨places, hx⟩ := reads os enc
  refine returnsInHanded_of_row (C := Tryd.checked) (s := (OpenSpec.ofChange Rows.superNewestSpec)) own started (by kernel_rfl) Tryd.func7
    (witness_row_at (enc := enc) (C := Tryd.checked) false (laidWorld os) #[.slice none 0 0, .int .i64 0, .agg #[.int .i64 0, .int .i64 0, .int .i64 0, .int .i64 0, .int .i64 0, .int .i64 0, .int .i64 0, .int .i64 0], .int .i64 0] rfl (by kernel_rfl) (by kernel_rfl) (by kernel_rfl)
      (OpenSpec.preRow_of_cond 8 hx (by kernel_rfl) (fun k hk => by cases hk) (by kernel_rfl) (laid_met os))) ?_
  intro W base args ds gs before hval hW _ hcond hsz hL _ _
  exact contract H enc W base args ds gs before hval hW hsz hL
theorem said : Rows.SuperNewestSaid :=
  OpenClaim.holds_of_cond 7 Tryd.f7 rfl rfl rfl rfl rfl rfl rfl ⟨rfl, rfl, rfl, rfl, rfl⟩ rfl rfl rfl rfl rfl (by kernel_rfl) Tryd.func7 (by kernel_rfl)
    (of_decide_eq_true (by kernel_rfl)) (by unfold Func.isWrapper; first | (rw [if_pos (by decide +kernel)]; kernel_rfl) | (rw [if_neg (by decide +kernel)]; exact ⟨rfl, rfl⟩))
    (fun os started H enc _ F => by rw [OpenClaim.pre_eq_preRow]; exact lifted os started H enc F)
theorem plain (f : FuncId) (fn : Func) (hf : Tryd.pinned.checked.prog.funcNamed "ashlar/ashlarlaw04.SuperNewest" = some f) (hfn : Tryd.pinned.checked.prog.funcs[f]? = some fn) :
    false = Tryd.pinned.checked.prog.looks [] ∧ ∀ (j : Nat) t, fn.params[j]? = some t → Tryd.pinned.checked.prog.wantsStandIn t = false := by
  obtain rfl : f = 7 := Option.some.inj ((show Tryd.prog.funcNamed "ashlar/ashlarlaw04.SuperNewest" = some 7 by kernel_rfl).symm.trans hf) |>.symm
  obtain rfl : fn = Tryd.f7 := (Option.some.inj (Tryd.func7.symm.trans hfn)).symm
  refine ⟨by kernel_rfl, fun j t ht => ?_⟩
  rw [Tryd.params7] at ht
  have hm : t ∈ [35, 3, 23, 3] := by simpa using Array.mem_of_getElem? ht
  have hall : ([35, 3, 23, 3].all fun u => !Tryd.prog.wantsStandIn u) = true := by kernel_rfl
  exact (show Tryd.prog.wantsStandIn t = false by simpa using List.all_eq_true.1 hall t hm)

/-- ████ THE CARD ████ -/
theorem card : Rows.SuperNewestCardSaid :=
  Claim7.holds_tied_plain_at .later [] _ _ _ _ said (fun _ h => by cases h) (by kernel_rfl) (fun _ h => by cases h) superNewest_row_tie rfl ⟨rfl, rfl⟩ (by kernel_rfl) rfl plain (by kernel_rfl)
end Go.Proofs.YtceebcaeodmllaaDoor.S.superNewest
