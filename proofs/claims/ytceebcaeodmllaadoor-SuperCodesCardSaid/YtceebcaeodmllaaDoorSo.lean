/-
  The contract of the definition's Encode.
  Conditions: none.
-/
import Derived.Test.YtceebcaeodmllaaDoorSj
import Derived.Test.YtceebcaeodmllaaDoorSq
namespace Go.Proofs.YtceebcaeodmllaaDoor.S
open Go.RowKit

set_option maxRecDepth 20000 in
theorem refEncode_no (s : Sup) (w : World) (hr : s.right = false) :
    Calls Tryd.prog 10 #[s.val] w fun e w' => e = .returned (.tuple #[.slice none 0 0, .int .i64 1]) ∧ Below w.heap.size w w' := by
  have q := Lib.hid (fun w => refRight_any s w)
  rw [hr] at q
  clear hr
  have hblk := heap_alloc_last w (.cells s.cells 23)
  obtain ⟨c0, c1, c2, c3, c4, c5, c6, c7⟩ := row8 hblk
  clear hblk
  obtain ⟨x0, x1, x2, x3, x4, x5, x6, x7⟩ := s
  simp only [Sup.val, Sup.cells] at *
  go_enter Tryd.func10, Tryd.ntmps10
  have hbW : Below w.heap.size w (w.alloc (.cells #[.int .i64 x0, .int .i64 x1, .int .i64 x2, .int .i64 x3, .int .i64 x4, .int .i64 x5, .int .i64 x6, .int .i64 x7] 23)) := (Below.refl _ _).alloc (Nat.le_refl _) _
  go_wp2_with fail
  refine (q.out _).mono ?_
  rintro e w1 ⟨rfl, hb1⟩
  have hb := hbW.trans (hb1.mono (by simp))
  clear c0 c1 c2 c3 c4 c5 c6 c7 hbW hb1
  go_wp2_with fail
  go_ret2
  exact ⟨rfl, hb⟩
def lenV (v : Value) : Nat := match v with | .slice _ n _ => n | _ => 0
theorem own_mono {w : World} {base base' n : Nat} {v : Value} {xs : List Value} (h : w.ownsRow base 5 1 v n xs) (hb : base' ≤ base) : w.ownsRow base' 5 1 v n xs :=
  ⟨h.1, h.2.imp id fun ⟨g, cap, cur, hv, hg, r⟩ => ⟨g, cap, cur, hv, Nat.le_trans hb hg, r⟩⟩
theorem box_on {w w' : World} {g : Nat} {o : Obj} (h : w.heap[g]? = some o) (hb : Below (g + 1) w w') : w'.heap[g]? = some o := by
  have hlt : g < w.heap.size := by
    rcases Nat.lt_or_ge g w.heap.size with h2 | h2
    · exact h2
    · rw [Array.getElem?_eq_none h2] at h; cases h
  exact (hb.block g (Nat.lt_succ_self g)).trans h
set_option maxRecDepth 100000 in
set_option maxHeartbeats 8000000 in
theorem refEncode_ok (s : Sup) (w : World) (hr : s.right = true) :
    Calls Tryd.prog 10 #[s.val] w fun e w' => ∃ v, e = .returned (.tuple #[v, .int .i64 0]) ∧ w'.ownsRow w.heap.size 5 1 v 128 (bts (encL s.nums)) ∧ Below w.heap.size w w' := by
  have q := Lib.hid (fun w => refRight_any s w)
  rw [hr] at q
  obtain ⟨i0, hi, hz0, hz1, hz2⟩ := info_parts info_u8
  obtain ⟨h1, h2, h3, h4, h5, h6, h7, h8⟩ := right_parts hr
  have hmost : s.most ≤ 1024 := by unfold Sup.most; split <;> omega
  have HN := Lib.hid (show encL s.nums = (encTo s.nums 8).take 124 ++ putL (Nums.sum 0 ((encTo s.nums 8).take 124)) 4 from rfl)
  have HP := Lib.hid (encTo_take s.nums)
  have HQ := Lib.hid (show preTo s.nums 8 = ((((((([65, 83, 72, 76] ++ putL s.gen.toNat 8) ++ putL s.mem.toNat 1) ++ putL s.disk.toNat 1) ++ putL s.logs.toNat 1) ++ putL (s.spare % 256).toNat 1) ++ putL s.str.toNat 4) ++ putL s.mark.toNat 4) ++ putL s.cur.toNat 4 from rfl)
  have HS := Lib.hid (show Small ((encTo s.nums 8).take 124) from (encTo_small s.nums 8).take 124)
  generalize encL s.nums = le at *
  generalize (encTo s.nums 8).take 124 = lt at *
  generalize preTo s.nums 8 = lp at *
  obtain ⟨x0, x1, x2, x3, x4, x5, x6, x7⟩ := s
  simp only [Sup.val, Sup.cells] at *
  obtain ⟨n0, rfl⟩ : ∃ n : Nat, x0 = (n : Int) := ⟨x0.toNat, by omega⟩
  obtain ⟨n1, rfl⟩ : ∃ n : Nat, x1 = (n : Int) := ⟨x1.toNat, by omega⟩
  obtain ⟨n2, rfl⟩ : ∃ n : Nat, x2 = (n : Int) := ⟨x2.toNat, by omega⟩
  obtain ⟨n3, rfl⟩ : ∃ n : Nat, x3 = (n : Int) := ⟨x3.toNat, by omega⟩
  obtain ⟨n4, rfl⟩ : ∃ n : Nat, x4 = (n : Int) := ⟨x4.toNat, by omega⟩
  obtain ⟨n6, rfl⟩ : ∃ n : Nat, x6 = (n : Int) := ⟨x6.toNat, by omega⟩
  obtain ⟨n7, rfl⟩ : ∃ n : Nat, x7 = (n : Int) := ⟨x7.toNat, by omega⟩
  obtain ⟨n5, hn5⟩ : ∃ n : Nat, n = (x5 % 256).toNat := ⟨_, rfl⟩
  rw [← hn5] at HQ
  simp only [Int.toNat_natCast] at HQ
  have d0 : n0 < 2 ^ (8 * 8) := by show n0 < 2 ^ 64; omega
  have d1 : n1 < 2 ^ (8 * 1) := by show n1 < 2 ^ 8; omega
  have d2 : n2 < 2 ^ (8 * 1) := by show n2 < 2 ^ 8; omega
  have d3 : n3 < 2 ^ (8 * 4) := by show n3 < 2 ^ 32; omega
  have d4 : n4 < 2 ^ (8 * 1) := by show n4 < 2 ^ 8; omega
  have d5 : n5 < 2 ^ (8 * 1) := by show n5 < 2 ^ 8; omega
  have d6 : n6 < 2 ^ (8 * 4) := by show n6 < 2 ^ 32; omega
  have d7 : n7 < 2 ^ (8 * 4) := by show n7 < 2 ^ 32; omega
  have f0 : n0 < 9223372036854775808 := by omega
  have f1 : n1 < 9223372036854775808 := by omega
  have f2 : n2 < 9223372036854775808 := by omega
  have f3 : n3 < 9223372036854775808 := by omega
  have f4 : n4 < 9223372036854775808 := by omega
  have f5 : n5 < 9223372036854775808 := by omega
  have f6 : n6 < 9223372036854775808 := by omega
  have f7 : n7 < 9223372036854775808 := by omega
  have hsp : (x5 = -1 ∧ n5 = 255) ∨ x5 = (n5 : Int) := by omega
  clear h1 h2 h3 h4 h5 h6 h7 h8 hmost hr hn5
  have r0 : (w.alloc (.cells #[.int .i64 (n0 : Int), .int .i64 (n1 : Int), .int .i64 (n2 : Int), .int .i64 (n3 : Int), .int .i64 (n4 : Int), .int .i64 x5, .int .i64 (n6 : Int), .int .i64 (n7 : Int)] 23)).heap[w.heap.size]? = some (.cells #[.int .i64 (n0 : Int), .int .i64 (n1 : Int), .int .i64 (n2 : Int), .int .i64 (n3 : Int), .int .i64 (n4 : Int), .int .i64 x5, .int .i64 (n6 : Int), .int .i64 (n7 : Int)] 23 (0, 0)) := heap_alloc_last _ _
  have b0 : Below w.heap.size w (w.alloc (.cells #[.int .i64 (n0 : Int), .int .i64 (n1 : Int), .int .i64 (n2 : Int), .int .i64 (n3 : Int), .int .i64 (n4 : Int), .int .i64 x5, .int .i64 (n6 : Int), .int .i64 (n7 : Int)] 23)) := (Below.refl _ _).alloc (Nat.le_refl _) _
  have s0 : (w.alloc (.cells #[.int .i64 (n0 : Int), .int .i64 (n1 : Int), .int .i64 (n2 : Int), .int .i64 (n3 : Int), .int .i64 (n4 : Int), .int .i64 x5, .int .i64 (n6 : Int), .int .i64 (n7 : Int)] 23)).heap.size = w.heap.size + 1 := by simp
  obtain ⟨k0, k1, k2, k3, k4, k5, k6, k7, _⟩ := cells8_of r0
  go_enter Tryd.func10, Tryd.ntmps10
  go_wp2_with fail
  generalize w.alloc (.cells #[.int .i64 (n0 : Int), .int .i64 (n1 : Int), .int .i64 (n2 : Int), .int .i64 (n3 : Int), .int .i64 (n4 : Int), .int .i64 x5, .int .i64 (n6 : Int), .int .i64 (n7 : Int)] 23) = W0 at *
  generalize hgs : w.heap.size = g at *
  have Hgs := Lib.hid hgs
  clear hgs
  refine (q.out W0).mono ?_
  rintro e w1 ⟨rfl, b1⟩
  rw [s0] at b1
  have r1 := box_on r0 b1
  have z1 : g + 1 ≤ w1.heap.size := by have := b1.size; omega
  clear k0 k1 k2 k3 k4 k5 k6 k7 r0 q
  have kc : (convert 24 24 (.slice (some ⟨w1.heap.size, 0, none⟩) 4 4)).run Tryd.prog (w1.alloc (.cells #[.int .u8 65, .int .u8 83, .int .u8 72, .int .u8 76] 5)) = .ok (.slice (some ⟨w1.heap.size, 0, none⟩) 4 4) (w1.alloc (.cells #[.int .u8 65, .int .u8 83, .int .u8 72, .int .u8 76] 5 (4, 5))) := Lib.run_convert_bytes_const w1 24 5 #[.int .u8 65, .int .u8 83, .int .u8 72, .int .u8 76] 4 4 Tryd.underlying24 Tryd.underlying5
  have hlit0 : (w1.alloc (.cells #[.int .u8 65, .int .u8 83, .int .u8 72, .int .u8 76] 5 (4, 5))).heap[w1.heap.size]? = some (.cells #[.int .u8 65, .int .u8 83, .int .u8 72, .int .u8 76] 5 (4, 5)) := heap_alloc_last _ _
  have hlit : ∀ j v, (bts [65, 83, 72, 76])[j]? = some v → (w1.alloc (.cells #[.int .u8 65, .int .u8 83, .int .u8 72, .int .u8 76] 5 (4, 5))).cell? ⟨w1.heap.size, j, none⟩ = some v := fun j v hv => by
    rw [cell_of_row _ _ j _ _ _ hlit0]
    exact (List.getElem?_toArray (xs := bts [65, 83, 72, 76])).trans hv
  have hltl : w1.heap.size < (w1.alloc (.cells #[.int .u8 65, .int .u8 83, .int .u8 72, .int .u8 76] 5 (4, 5))).heap.size := by simp
  have b2 : Below (g + 1) w1 (w1.alloc (.cells #[.int .u8 65, .int .u8 83, .int .u8 72, .int .u8 76] 5 (4, 5))) := (Below.refl _ _).alloc z1 _
  have r2 := box_on r1 b2
  have z2 : g + 1 ≤ (w1.alloc (.cells #[.int .u8 65, .int .u8 83, .int .u8 72, .int .u8 76] 5 (4, 5))).heap.size := Nat.le_trans z1 b2.size
  have bb2 := b1.trans b2
  obtain ⟨j0, j1, j2, j3, j4, j5, j6, j7, _⟩ := cells8_of r1
  obtain ⟨k0, k1, k2, k3, k4, k5, k6, k7, _⟩ := cells8_of r2
  clear b1 b2 r1 hlit0
  rcases hsp with ⟨rfl, h255⟩ | rfl
  · go_wp2_with fail
    generalize w1.alloc (.cells #[.int .u8 65, .int .u8 83, .int .u8 72, .int .u8 76] 5 (4, 5)) = w2 at *
    clear kc
    clear j0 j1 j2 j3 j4 j5 j6 j7
    refine (refput_first (g + 1) w1.heap.size [65, 83, 72, 76] n0 w2 rfl hlit hltl z2 d0 f0).mono ?_
    rintro e w3 ⟨v3, rfl, o3, b3⟩
    have r3 := box_on r2 b3
    have z3 : g + 1 ≤ w3.heap.size := Nat.le_trans z2 b3.size
    have bb3 := bb2.trans b3
    clear k0 k1 k2 k3 k4 k5 k6 k7
    obtain ⟨k0, k1, k2, k3, k4, k5, k6, k7, _⟩ := cells8_of r3
    clear r2 z2 bb2 b3 hlit hltl
    go_wp2_with fail
    refine (refput_any (g + 1) v3 ([65, 83, 72, 76] ++ putL n0 8) 12 1 n1 w3 o3 z3 (by decide) (by decide) d1 f1 (by decide)).mono ?_
    rintro e w4 ⟨v4, rfl, o4, b4⟩
    have r4 := box_on r3 b4
    have z4 : g + 1 ≤ w4.heap.size := Nat.le_trans z3 b4.size
    have bb4 := bb3.trans b4
    clear k0 k1 k2 k3 k4 k5 k6 k7
    obtain ⟨k0, k1, k2, k3, k4, k5, k6, k7, _⟩ := cells8_of r4
    clear r3 z3 bb3 b4 o3
    go_wp2_with fail
    refine (refput_any (g + 1) v4 (([65, 83, 72, 76] ++ putL n0 8) ++ putL n1 1) 13 1 n2 w4 o4 z4 (by decide) (by decide) d2 f2 (by decide)).mono ?_
    rintro e w5 ⟨v5, rfl, o5, b5⟩
    have r5 := box_on r4 b5
    have z5 : g + 1 ≤ w5.heap.size := Nat.le_trans z4 b5.size
    have bb5 := bb4.trans b5
    clear k0 k1 k2 k3 k4 k5 k6 k7
    obtain ⟨k0, k1, k2, k3, k4, k5, k6, k7, _⟩ := cells8_of r5
    clear r4 z4 bb4 b5 o4
    go_wp2_with fail
    refine (refput_any (g + 1) v5 ((([65, 83, 72, 76] ++ putL n0 8) ++ putL n1 1) ++ putL n2 1) 14 1 n4 w5 o5 z5 (by decide) (by decide) d4 f4 (by decide)).mono ?_
    rintro e w6 ⟨v6, rfl, o6, b6⟩
    have r6 := box_on r5 b6
    have z6 : g + 1 ≤ w6.heap.size := Nat.le_trans z5 b6.size
    have bb6 := bb5.trans b6
    clear k0 k1 k2 k3 k4 k5 k6 k7
    obtain ⟨k0, k1, k2, k3, k4, k5, k6, k7, _⟩ := cells8_of r6
    clear r5 z5 bb5 b6 o5
    go_wp2_with fail
    refine (refput_any (g + 1) v6 (((([65, 83, 72, 76] ++ putL n0 8) ++ putL n1 1) ++ putL n2 1) ++ putL n4 1) 15 1 255 w6 o6 z6 (by decide) (by decide) (by decide) (by decide) (by decide)).mono ?_
    rintro e w7 ⟨v7, rfl, o7, b7⟩
    have r7 := box_on r6 b7
    have z7 : g + 1 ≤ w7.heap.size := Nat.le_trans z6 b7.size
    have bb7 := bb6.trans b7
    clear k0 k1 k2 k3 k4 k5 k6 k7
    obtain ⟨k0, k1, k2, k3, k4, k5, k6, k7, _⟩ := cells8_of r7
    clear r6 z6 bb6 b7 o6
    go_wp2_with fail
    refine (refput_any (g + 1) v7 ((((([65, 83, 72, 76] ++ putL n0 8) ++ putL n1 1) ++ putL n2 1) ++ putL n4 1) ++ putL 255 1) 16 4 n3 w7 o7 z7 (by decide) (by decide) d3 f3 (by decide)).mono ?_
    rintro e w8 ⟨v8, rfl, o8, b8⟩
    have r8 := box_on r7 b8
    have z8 : g + 1 ≤ w8.heap.size := Nat.le_trans z7 b8.size
    have bb8 := bb7.trans b8
    clear k0 k1 k2 k3 k4 k5 k6 k7
    obtain ⟨k0, k1, k2, k3, k4, k5, k6, k7, _⟩ := cells8_of r8
    clear r7 z7 bb7 b8 o7
    go_wp2_with fail
    refine (refput_any (g + 1) v8 (((((([65, 83, 72, 76] ++ putL n0 8) ++ putL n1 1) ++ putL n2 1) ++ putL n4 1) ++ putL 255 1) ++ putL n3 4) 20 4 n6 w8 o8 z8 (by decide) (by decide) d6 f6 (by decide)).mono ?_
    rintro e w9 ⟨v9, rfl, o9, b9⟩
    have r9 := box_on r8 b9
    have z9 : g + 1 ≤ w9.heap.size := Nat.le_trans z8 b9.size
    have bb9 := bb8.trans b9
    clear k0 k1 k2 k3 k4 k5 k6 k7
    obtain ⟨k0, k1, k2, k3, k4, k5, k6, k7, _⟩ := cells8_of r9
    clear r8 z8 bb8 b9 o8
    go_wp2_with fail
    refine (refput_any (g + 1) v9 ((((((([65, 83, 72, 76] ++ putL n0 8) ++ putL n1 1) ++ putL n2 1) ++ putL n4 1) ++ putL 255 1) ++ putL n3 4) ++ putL n6 4) 24 4 n7 w9 o9 z9 (by decide) (by decide) d7 f7 (by decide)).mono ?_
    rintro e w10 ⟨v10, rfl, o10, b10⟩
    have r10 := box_on r9 b10
    have z10 : g + 1 ≤ w10.heap.size := Nat.le_trans z9 b10.size
    have bb10 := bb9.trans b10
    clear k0 k1 k2 k3 k4 k5 k6 k7
    obtain ⟨k0, k1, k2, k3, k4, k5, k6, k7, _⟩ := cells8_of r10
    clear r9 z9 bb9 b10 o9
    have o10 : w10.ownsRow (g + 1) 5 1 v10 28 (bts lp) := by rw [HQ.out, h255]; exact o10
    obtain ⟨A10, c10, rfl, _, _, _⟩ := own_shape o10
    clear r10 k0 k1 k2 k3 k4 k5 k6 k7 d0 d1 d2 d3 d4 d5 d6 d7 f0 f1 f2 f3 f4 f5 f6 f7
    go_wp2_with fail
    go_loopw [5] (fun s5 wr => ∃ k : Nat, 28 ≤ k ∧ k ≤ 124 ∧ wr.ownsRow (g + 1) 5 1 s5 k (bts (lp ++ List.replicate (k - 28) 0)) ∧ Below (g + 1) w10 wr) (fun s5 _ => 124 - lenV s5)
    case atStart => exact ⟨28, by decide, by decide, by simpa using o10, Below.refl _ _⟩
    case round =>
      obtain ⟨k, hk1, hk2, hown, hbr⟩ := hrel
      have hsz : g + 1 ≤ wr.heap.size := Nat.le_trans z10 hbr.size
      obtain ⟨A, c, rfl, hrd, hkc, hcm⟩ := own_shape hown
      by_cases hlt : k < 124
      · have hd : decide ((k : Int) < 124) = true := by simp; omega
        have hrep : bts (lp ++ List.replicate (k - 28) 0) ++ [.int .u8 0] = bts (lp ++ List.replicate (k + 1 - 28) 0) := by
          rw [show k + 1 - 28 = (k - 28) + 1 by omega, List.replicate_succ', ← List.append_assoc, bts_append (lp ++ _)]
          rfl
        have Hrep := Lib.hid hrep
        clear hrep
        go_wp2_with (at_builtin; refine append1 rfl _ _ 24 rfl (g + 1) 5 i0 (.int .u8 0) 1 Tryd.underlying24 hi hz0 hz1 hz2 rfl _ k _ rfl (.int .u8 0) rfl rfl (by exact hown) (by unfold maxLen; omega) (by omega) w10 hbr (by omega) ?_; intro v' w11 hown1 hbel1)
        rw [Hrep.out] at hown1
        obtain ⟨A3, c3, rfl, _, _, _⟩ := own_shape hown1
        go_roundw
        case rel => exact ⟨k + 1, by omega, by omega, hown1, hbel1⟩
        case measure => simp [lenV]; omega
      · obtain rfl : k = 124 := by omega
        have hl : lp ++ List.replicate (124 - 28) 0 = lt := HP.out.symm
        rw [hl] at hown hrd
        have hs32 := sum_lt HS.out
        have qc := refCrc_any A 124 c wr.heap.size lt 0 wr (by decide) HS.out hrd (by decide)
        generalize hS : Nums.sum 0 lt = S at *
        have qp := refput_any (g + 1) (.slice A 124 c) lt 124 4 S wr hown hsz (by decide) (by decide) hs32 (by omega) (by decide)
        have hbb := bb10.trans hbr
        clear hl hrd
        go_wp2_with fail
        refine qc.mono ?_
        rintro e w11 ⟨rfl, rfl⟩
        go_wp2_with fail
        refine qp.mono ?_
        rintro e w12 ⟨v12, rfl, hown12, hb12⟩
        have hle : le = lt ++ putL S 4 := by rw [HN.out]
        go_wp2_with fail
        go_ret2
        exact ⟨_, rfl, by rw [hle, Hgs.out]; exact own_mono hown12 (Nat.le_succ g), by rw [Hgs.out]; exact b0.trans ((hbb.trans hb12).mono (Nat.le_succ g))⟩
  · have hneg : decide ((n5 : Int) < 0) = false := by simp
    go_wp2_with fail
    generalize w1.alloc (.cells #[.int .u8 65, .int .u8 83, .int .u8 72, .int .u8 76] 5 (4, 5)) = w2 at *
    clear kc
    clear j0 j1 j2 j3 j4 j5 j6 j7
    refine (refput_first (g + 1) w1.heap.size [65, 83, 72, 76] n0 w2 rfl hlit hltl z2 d0 f0).mono ?_
    rintro e w3 ⟨v3, rfl, o3, b3⟩
    have r3 := box_on r2 b3
    have z3 : g + 1 ≤ w3.heap.size := Nat.le_trans z2 b3.size
    have bb3 := bb2.trans b3
    clear k0 k1 k2 k3 k4 k5 k6 k7
    obtain ⟨k0, k1, k2, k3, k4, k5, k6, k7, _⟩ := cells8_of r3
    clear r2 z2 bb2 b3 hlit hltl
    go_wp2_with fail
    refine (refput_any (g + 1) v3 ([65, 83, 72, 76] ++ putL n0 8) 12 1 n1 w3 o3 z3 (by decide) (by decide) d1 f1 (by decide)).mono ?_
    rintro e w4 ⟨v4, rfl, o4, b4⟩
    have r4 := box_on r3 b4
    have z4 : g + 1 ≤ w4.heap.size := Nat.le_trans z3 b4.size
    have bb4 := bb3.trans b4
    clear k0 k1 k2 k3 k4 k5 k6 k7
    obtain ⟨k0, k1, k2, k3, k4, k5, k6, k7, _⟩ := cells8_of r4
    clear r3 z3 bb3 b4 o3
    go_wp2_with fail
    refine (refput_any (g + 1) v4 (([65, 83, 72, 76] ++ putL n0 8) ++ putL n1 1) 13 1 n2 w4 o4 z4 (by decide) (by decide) d2 f2 (by decide)).mono ?_
    rintro e w5 ⟨v5, rfl, o5, b5⟩
    have r5 := box_on r4 b5
    have z5 : g + 1 ≤ w5.heap.size := Nat.le_trans z4 b5.size
    have bb5 := bb4.trans b5
    clear k0 k1 k2 k3 k4 k5 k6 k7
    obtain ⟨k0, k1, k2, k3, k4, k5, k6, k7, _⟩ := cells8_of r5
    clear r4 z4 bb4 b5 o4
    go_wp2_with fail
    refine (refput_any (g + 1) v5 ((([65, 83, 72, 76] ++ putL n0 8) ++ putL n1 1) ++ putL n2 1) 14 1 n4 w5 o5 z5 (by decide) (by decide) d4 f4 (by decide)).mono ?_
    rintro e w6 ⟨v6, rfl, o6, b6⟩
    have r6 := box_on r5 b6
    have z6 : g + 1 ≤ w6.heap.size := Nat.le_trans z5 b6.size
    have bb6 := bb5.trans b6
    clear k0 k1 k2 k3 k4 k5 k6 k7
    obtain ⟨k0, k1, k2, k3, k4, k5, k6, k7, _⟩ := cells8_of r6
    clear r5 z5 bb5 b6 o5
    go_wp2_with fail
    refine (refput_any (g + 1) v6 (((([65, 83, 72, 76] ++ putL n0 8) ++ putL n1 1) ++ putL n2 1) ++ putL n4 1) 15 1 n5 w6 o6 z6 (by decide) (by decide) d5 f5 (by decide)).mono ?_
    rintro e w7 ⟨v7, rfl, o7, b7⟩
    have r7 := box_on r6 b7
    have z7 : g + 1 ≤ w7.heap.size := Nat.le_trans z6 b7.size
    have bb7 := bb6.trans b7
    clear k0 k1 k2 k3 k4 k5 k6 k7
    obtain ⟨k0, k1, k2, k3, k4, k5, k6, k7, _⟩ := cells8_of r7
    clear r6 z6 bb6 b7 o6
    go_wp2_with fail
    refine (refput_any (g + 1) v7 ((((([65, 83, 72, 76] ++ putL n0 8) ++ putL n1 1) ++ putL n2 1) ++ putL n4 1) ++ putL n5 1) 16 4 n3 w7 o7 z7 (by decide) (by decide) d3 f3 (by decide)).mono ?_
    rintro e w8 ⟨v8, rfl, o8, b8⟩
    have r8 := box_on r7 b8
    have z8 : g + 1 ≤ w8.heap.size := Nat.le_trans z7 b8.size
    have bb8 := bb7.trans b8
    clear k0 k1 k2 k3 k4 k5 k6 k7
    obtain ⟨k0, k1, k2, k3, k4, k5, k6, k7, _⟩ := cells8_of r8
    clear r7 z7 bb7 b8 o7
    go_wp2_with fail
    refine (refput_any (g + 1) v8 (((((([65, 83, 72, 76] ++ putL n0 8) ++ putL n1 1) ++ putL n2 1) ++ putL n4 1) ++ putL n5 1) ++ putL n3 4) 20 4 n6 w8 o8 z8 (by decide) (by decide) d6 f6 (by decide)).mono ?_
    rintro e w9 ⟨v9, rfl, o9, b9⟩
    have r9 := box_on r8 b9
    have z9 : g + 1 ≤ w9.heap.size := Nat.le_trans z8 b9.size
    have bb9 := bb8.trans b9
    clear k0 k1 k2 k3 k4 k5 k6 k7
    obtain ⟨k0, k1, k2, k3, k4, k5, k6, k7, _⟩ := cells8_of r9
    clear r8 z8 bb8 b9 o8
    go_wp2_with fail
    refine (refput_any (g + 1) v9 ((((((([65, 83, 72, 76] ++ putL n0 8) ++ putL n1 1) ++ putL n2 1) ++ putL n4 1) ++ putL n5 1) ++ putL n3 4) ++ putL n6 4) 24 4 n7 w9 o9 z9 (by decide) (by decide) d7 f7 (by decide)).mono ?_
    rintro e w10 ⟨v10, rfl, o10, b10⟩
    have r10 := box_on r9 b10
    have z10 : g + 1 ≤ w10.heap.size := Nat.le_trans z9 b10.size
    have bb10 := bb9.trans b10
    clear k0 k1 k2 k3 k4 k5 k6 k7
    obtain ⟨k0, k1, k2, k3, k4, k5, k6, k7, _⟩ := cells8_of r10
    clear r9 z9 bb9 b10 o9
    have o10 : w10.ownsRow (g + 1) 5 1 v10 28 (bts lp) := by rw [HQ.out]; exact o10
    obtain ⟨A10, c10, rfl, _, _, _⟩ := own_shape o10
    clear r10 k0 k1 k2 k3 k4 k5 k6 k7 d0 d1 d2 d3 d4 d5 d6 d7 f0 f1 f2 f3 f4 f5 f6 f7
    go_wp2_with fail
    go_loopw [5] (fun s5 wr => ∃ k : Nat, 28 ≤ k ∧ k ≤ 124 ∧ wr.ownsRow (g + 1) 5 1 s5 k (bts (lp ++ List.replicate (k - 28) 0)) ∧ Below (g + 1) w10 wr) (fun s5 _ => 124 - lenV s5)
    case atStart => exact ⟨28, by decide, by decide, by simpa using o10, Below.refl _ _⟩
    case round =>
      obtain ⟨k, hk1, hk2, hown, hbr⟩ := hrel
      have hsz : g + 1 ≤ wr.heap.size := Nat.le_trans z10 hbr.size
      obtain ⟨A, c, rfl, hrd, hkc, hcm⟩ := own_shape hown
      by_cases hlt : k < 124
      · have hd : decide ((k : Int) < 124) = true := by simp; omega
        have hrep : bts (lp ++ List.replicate (k - 28) 0) ++ [.int .u8 0] = bts (lp ++ List.replicate (k + 1 - 28) 0) := by
          rw [show k + 1 - 28 = (k - 28) + 1 by omega, List.replicate_succ', ← List.append_assoc, bts_append (lp ++ _)]
          rfl
        have Hrep := Lib.hid hrep
        clear hrep
        go_wp2_with (at_builtin; refine append1 rfl _ _ 24 rfl (g + 1) 5 i0 (.int .u8 0) 1 Tryd.underlying24 hi hz0 hz1 hz2 rfl _ k _ rfl (.int .u8 0) rfl rfl (by exact hown) (by unfold maxLen; omega) (by omega) w10 hbr (by omega) ?_; intro v' w11 hown1 hbel1)
        rw [Hrep.out] at hown1
        obtain ⟨A3, c3, rfl, _, _, _⟩ := own_shape hown1
        go_roundw
        case rel => exact ⟨k + 1, by omega, by omega, hown1, hbel1⟩
        case measure => simp [lenV]; omega
      · obtain rfl : k = 124 := by omega
        have hl : lp ++ List.replicate (124 - 28) 0 = lt := HP.out.symm
        rw [hl] at hown hrd
        have hs32 := sum_lt HS.out
        have qc := refCrc_any A 124 c wr.heap.size lt 0 wr (by decide) HS.out hrd (by decide)
        generalize hS : Nums.sum 0 lt = S at *
        have qp := refput_any (g + 1) (.slice A 124 c) lt 124 4 S wr hown hsz (by decide) (by decide) hs32 (by omega) (by decide)
        have hbb := bb10.trans hbr
        clear hl hrd
        go_wp2_with fail
        refine qc.mono ?_
        rintro e w11 ⟨rfl, rfl⟩
        go_wp2_with fail
        refine qp.mono ?_
        rintro e w12 ⟨v12, rfl, hown12, hb12⟩
        have hle : le = lt ++ putL S 4 := by rw [HN.out]
        go_wp2_with fail
        go_ret2
        exact ⟨_, rfl, by rw [hle, Hgs.out]; exact own_mono hown12 (Nat.le_succ g), by rw [Hgs.out]; exact b0.trans ((hbb.trans hb12).mono (Nat.le_succ g))⟩
end Go.Proofs.YtceebcaeodmllaaDoor.S
