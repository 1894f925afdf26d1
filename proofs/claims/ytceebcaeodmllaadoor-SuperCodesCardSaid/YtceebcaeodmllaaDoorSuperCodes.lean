/-
  SuperCodes is true for every array and all bytes: its block, and what the bytes say, are those of the definition.
  Conditions: none of its own; the tables hold what the program's text lays (the card ties that).
-/
import Derived.Test.YtceebcaeodmllaaDoorSs
import Derived.OrdersHeld
namespace Go.Proofs.YtceebcaeodmllaaDoor.S.superCodes
open Go.ChangeShapes Go.WideShapes Go.ChangeAt Go.RowKit

def kE (s : Sup) : List Nat := if s.right then encL s.nums else []
def eE (s : Sup) : Int := if s.right then 0 else 1
def Encoded (s : Sup) (w : World) (e : Ending) (w' : World) : Prop := ∃ A m c, e = .returned (.tuple #[.slice A m c, .int .i64 (eE s)]) ∧ Reads w' w'.heap.size A m (bts (kE s)) ∧ Below w.heap.size w w'
theorem encode_both (s : Sup) (w : World) (hA : All w) : Calls Tryd.prog 9 #[s.val] w (Encoded s w) := by
  cases hr : s.right
  · refine (encode_no s w hr).mono ?_
    rintro e w' ⟨rfl, hb⟩
    exact ⟨none, 0, 0, by unfold eE; rw [hr]; rfl, by unfold kE; rw [hr]; exact Reads.none_, hb⟩
  · refine (encode_ok s w hr hA.tabs hA.wid).mono ?_
    rintro e w' ⟨g, rfl, hown, hb⟩
    exact ⟨_, _, _, by unfold eE; rw [hr]; rfl, by unfold kE; rw [hr]; exact Reads.of_own hown, hb⟩
theorem refEncode_both (s : Sup) (w : World) : Calls Tryd.prog 10 #[s.val] w (Encoded s w) := by
  cases hr : s.right
  · refine (refEncode_no s w hr).mono ?_
    rintro e w' ⟨rfl, hb⟩
    exact ⟨none, 0, 0, by unfold eE; rw [hr]; rfl, by unfold kE; rw [hr]; exact Reads.none_, hb⟩
  · refine (refEncode_ok s w hr).mono ?_
    rintro e w' ⟨v, rfl, hown, hb⟩
    obtain ⟨A, c, rfl, hrd, _, _⟩ := own_shape hown
    exact ⟨_, _, _, by unfold eE; rw [hr]; rfl, by unfold kE; rw [hr]; exact hrd, hb⟩
def tD (l : List Nat) : Sup := if l.length = 128 then toldOf l else sup0
def cD (l : List Nat) : Int := if l.length = 128 then codeD l else 8
theorem decode_both (A : Option Addr) (n c : Nat) (l : List Nat) (hs : Small l) (w : World) (hr : Reads w w.heap.size A n (bts l)) (hn : n ≤ 140737488351232) (hA : All w) : Calls Tryd.prog 11 #[.slice A n c] w (Decoded w (tD l) (cD l)) := by
  have hl := hr.len
  unfold tD cD
  by_cases h : n = 128
  · subst h
    rw [if_pos hl, if_pos hl]
    exact decode_is A c l hs w hr hA.tabs hA.wid
  · rw [if_neg (by omega), if_neg (by omega)]
    exact decode_len A n c w h (by omega)
theorem refDecode_both (A : Option Addr) (n c : Nat) (l : List Nat) (hs : Small l) (w : World) (hr : Reads w w.heap.size A n (bts l)) : Calls Tryd.prog 12 #[.slice A n c] w (Decoded w (tD l) (cD l)) := by
  have hl := hr.len
  unfold tD cD
  by_cases h : n = 128
  · subst h
    rw [if_pos hl, if_pos hl]
    exact refDecode_is A c l hs w hr
  · rw [if_neg (by omega), if_neg (by omega)]
    exact refDecode_len A n c w h

set_option maxRecDepth 100000 in
set_option maxHeartbeats 8000000 in
theorem walk {w : World} (s : Sup) (_ : s.fits) (A : Option Addr) (n c : Nat) (l : List Nat) (hs : Small l) (hr : Reads w w.heap.size A n (bts l)) (hn : n ≤ 140737488351232) (hA : All w) :
    Calls Tryd.prog 3 #[s.val, .slice A n c] w fun e w' => e = .returned (.bool true) ∧ Below w.heap.size w w' := by
  have QR := Lib.hid (fun w => right_any s w)
  have QS := Lib.hid (fun w => refRight_any s w)
  have QE := Lib.hid (fun w hA => encode_both s w hA)
  have QF := Lib.hid (fun w => refEncode_both s w)
  have QD := Lib.hid (fun A c w hr hA => decode_both A n c l hs w hr hn hA)
  have QG := Lib.hid (fun A c w hr => refDecode_both A n c l hs w hr)
  obtain ⟨i0, hi, hz0, hz1, hz2⟩ := info_parts info_u8
  generalize hrb : s.right = rb at *
  unfold Encoded at QE QF
  generalize hk : kE s = k at *
  generalize hee : eE s = ee at *
  generalize htd : tD l = td at *
  generalize hcd : cD l = cd at *
  clear hrb hk hee htd hcd
  obtain ⟨x0, x1, x2, x3, x4, x5, x6, x7⟩ := s
  obtain ⟨y0, y1, y2, y3, y4, y5, y6, y7⟩ := td
  simp only [Sup.val, Sup.cells] at *
  have b0 : Below w.heap.size w (w.alloc (.cells #[.int .i64 x0, .int .i64 x1, .int .i64 x2, .int .i64 x3, .int .i64 x4, .int .i64 x5, .int .i64 x6, .int .i64 x7] 23)) := (Below.refl _ _).alloc (Nat.le_refl _) _
  have r0 : (w.alloc (.cells #[.int .i64 x0, .int .i64 x1, .int .i64 x2, .int .i64 x3, .int .i64 x4, .int .i64 x5, .int .i64 x6, .int .i64 x7] 23)).heap[w.heap.size]? = some (.cells #[.int .i64 x0, .int .i64 x1, .int .i64 x2, .int .i64 x3, .int .i64 x4, .int .i64 x5, .int .i64 x6, .int .i64 x7] 23 (0, 0)) := heap_alloc_last _ _
  have s0 : (w.alloc (.cells #[.int .i64 x0, .int .i64 x1, .int .i64 x2, .int .i64 x3, .int .i64 x4, .int .i64 x5, .int .i64 x6, .int .i64 x7] 23)).heap.size = w.heap.size + 1 := by simp
  have o0 : ((w.alloc (.cells #[.int .i64 x0, .int .i64 x1, .int .i64 x2, .int .i64 x3, .int .i64 x4, .int .i64 x5, .int .i64 x6, .int .i64 x7] 23)).alloc (.cells #[] 5)).ownsRow (w.heap.size + 1) 5 1 (.slice (some ⟨w.heap.size + 1, 0, none⟩) 0 0) 0 [] := by
    have h := World.ownsRow_made (e := 5) (size := 1) (base := w.heap.size + 1) (w.alloc (.cells #[.int .i64 x0, .int .i64 x1, .int .i64 x2, .int .i64 x3, .int .i64 x4, .int .i64 x5, .int .i64 x6, .int .i64 x7] 23)) #[] 0 (by rw [s0]; exact Nat.le_refl _) (by decide) rfl
    rw [s0] at h
    exact h
  have bx : Below (w.heap.size + 1) (w.alloc (.cells #[.int .i64 x0, .int .i64 x1, .int .i64 x2, .int .i64 x3, .int .i64 x4, .int .i64 x5, .int .i64 x6, .int .i64 x7] 23)) ((w.alloc (.cells #[.int .i64 x0, .int .i64 x1, .int .i64 x2, .int .i64 x3, .int .i64 x4, .int .i64 x5, .int .i64 x6, .int .i64 x7] 23)).alloc (.cells #[] 5)) := (Below.refl _ _).alloc (by omega) _
  have hr0 := (hr.below b0).below (bx.mono (by omega : w.heap.size ≤ w.heap.size + 1))
  have A0 := hA.over b0
  go_enter Tryd.func3, Tryd.ntmps3
  go_wp2_with (at_builtin; refine appendAll _ rfl (.tmp 14) (.tmp 15) 24 rfl (w.heap.size + 1) 5 i0 (.int .u8 0) 1 Tryd.underlying24 hi hz0 hz1 hz2 rfl (.slice (some ⟨w.heap.size + 1, 0, none⟩) 0 0) 0 [] rfl o0 w.heap.size A n c (bts l) rfl hr0 (bts_one l) (by unfold maxLen; omega) (by omega) (w.alloc (.cells #[.int .i64 x0, .int .i64 x1, .int .i64 x2, .int .i64 x3, .int .i64 x4, .int .i64 x5, .int .i64 x6, .int .i64 x7] 23)) bx (by simp) ?_; intro v1 w1 hown1 hgr1 b1; obtain ⟨k0, k1, k2, k3, k4, k5, k6, k7, _⟩ := cells8_of ((b1.block w.heap.size (Nat.lt_succ_self _)).trans r0); rw [List.nil_append, Nat.zero_add] at hown1; obtain ⟨A2, c2, rfl, d1, _, _⟩ := own_shape hown1)
  have z1 : w.heap.size + 1 ≤ w1.heap.size := by have := b1.size; omega
  have r1 := (b1.block w.heap.size (by omega)).trans r0
  have A1 := A0.over (b1.mono (by omega))
  have bb1 := b0.trans (b1.mono (by omega : w.heap.size ≤ w.heap.size + 1))
  have e1 := (hr.below bb1).more (show w.heap.size ≤ w1.heap.size by omega)
  clear hown1 hgr1 b1 bx o0 r0 s0 A0 b0 hr0 hr hA
  refine (QE.out w1 A1).mono ?_
  rintro e w2 ⟨A3, m3, c3, rfl, f2, b2⟩
  have z2 : w.heap.size + 1 ≤ w2.heap.size := Nat.le_trans z1 b2.size
  have r2 := (b2.block w.heap.size (by omega)).trans r1
  have A2' := A1.over b2
  have bb2 := bb1.trans (b2.mono (by omega))
  clear k0 k1 k2 k3 k4 k5 k6 k7
  obtain ⟨k0, k1, k2, k3, k4, k5, k6, k7, _⟩ := cells8_of r2
  clear r1 A1 bb1 z1
  have d2 := reads_over d1 b2
  have e2 := reads_over e1 b2
  clear d1 e1 b2
  go_wp2_with fail
  refine (QF.out w2).mono ?_
  rintro e w3 ⟨A4, m4, c4, rfl, g3, b3⟩
  have z3 : w.heap.size + 1 ≤ w3.heap.size := Nat.le_trans z2 b3.size
  have r3 := (b3.block w.heap.size (by omega)).trans r2
  have A3' := A2'.over b3
  have bb3 := bb2.trans (b3.mono (by omega))
  clear k0 k1 k2 k3 k4 k5 k6 k7
  obtain ⟨k0, k1, k2, k3, k4, k5, k6, k7, _⟩ := cells8_of r3
  clear r2 A2' bb2 z2
  have d3 := reads_over d2 b3
  have e3 := reads_over e2 b3
  have f3 := reads_over f2 b3
  clear d2 e2 f2 b3
  go_wp2_with fail
  refine (QD.out A2 c2 w3 d3 A3').mono ?_
  rintro e w4 ⟨rfl, b4⟩
  have z4 : w.heap.size + 1 ≤ w4.heap.size := Nat.le_trans z3 b4.size
  have r4 := (b4.block w.heap.size (by omega)).trans r3
  have A4' := A3'.over b4
  have bb4 := bb3.trans (b4.mono (by omega))
  clear k0 k1 k2 k3 k4 k5 k6 k7
  obtain ⟨k0, k1, k2, k3, k4, k5, k6, k7, _⟩ := cells8_of r4
  clear r3 A3' bb3 z3
  simp only [Sup.val, Sup.cells]
  have d4 := reads_over d3 b4
  have e4 := reads_over e3 b4
  have f4 := reads_over f3 b4
  have g4 := reads_over g3 b4
  clear d3 e3 f3 g3 b4
  have b5 : Below w4.heap.size w4 (w4.alloc (.cells #[.int .i64 y0, .int .i64 y1, .int .i64 y2, .int .i64 y3, .int .i64 y4, .int .i64 y5, .int .i64 y6, .int .i64 y7] 23)) := (Below.refl _ _).alloc (Nat.le_refl _) _
  have t5 : (w4.alloc (.cells #[.int .i64 y0, .int .i64 y1, .int .i64 y2, .int .i64 y3, .int .i64 y4, .int .i64 y5, .int .i64 y6, .int .i64 y7] 23)).heap[w4.heap.size]? = some (.cells #[.int .i64 y0, .int .i64 y1, .int .i64 y2, .int .i64 y3, .int .i64 y4, .int .i64 y5, .int .i64 y6, .int .i64 y7] 23 (0, 0)) := heap_alloc_last _ _
  have z5' : w4.heap.size < (w4.alloc (.cells #[.int .i64 y0, .int .i64 y1, .int .i64 y2, .int .i64 y3, .int .i64 y4, .int .i64 y5, .int .i64 y6, .int .i64 y7] 23)).heap.size := by simp
  clear k0 k1 k2 k3 k4 k5 k6 k7
  go_wp2_with fail
  generalize w4.alloc (.cells #[.int .i64 y0, .int .i64 y1, .int .i64 y2, .int .i64 y3, .int .i64 y4, .int .i64 y5, .int .i64 y6, .int .i64 y7] 23) = w5 at *
  have z5 : w.heap.size + 1 ≤ w5.heap.size := Nat.le_trans z4 b5.size
  have r5 := (b5.block w.heap.size (by omega)).trans r4
  have A5' := A4'.over b5
  have bb5 := bb4.trans (b5.mono (by omega))
  have d5 := reads_over d4 b5
  have e5 := reads_over e4 b5
  have f5 := reads_over f4 b5
  have g5 := reads_over g4 b5
  clear d4 e4 f4 g4 r4 A4' bb4 b5
  refine (QG.out A c w5 e5).mono ?_
  rintro e w6 ⟨rfl, b6⟩
  simp only [Sup.val, Sup.cells]
  have z6 : w.heap.size + 1 ≤ w6.heap.size := Nat.le_trans z5 b6.size
  have r6 := (b6.block w.heap.size (by omega)).trans r5
  have t6 := (b6.block w4.heap.size z5').trans t5
  have z6' : w4.heap.size < w6.heap.size := Nat.lt_of_lt_of_le z5' b6.size
  have A6' := A5'.over b6
  have bb6 := bb5.trans (b6.mono (by omega))
  have d6 := reads_over d5 b6
  have e6 := reads_over e5 b6
  have f6 := reads_over f5 b6
  have g6 := reads_over g5 b6
  clear d5 e5 f5 g5 r5 t5 A5' bb5 b6 z5 z5'
  have b7 : Below w6.heap.size w6 (w6.alloc (.cells #[.int .i64 y0, .int .i64 y1, .int .i64 y2, .int .i64 y3, .int .i64 y4, .int .i64 y5, .int .i64 y6, .int .i64 y7] 23)) := (Below.refl _ _).alloc (Nat.le_refl _) _
  have u7 : (w6.alloc (.cells #[.int .i64 y0, .int .i64 y1, .int .i64 y2, .int .i64 y3, .int .i64 y4, .int .i64 y5, .int .i64 y6, .int .i64 y7] 23)).heap[w6.heap.size]? = some (.cells #[.int .i64 y0, .int .i64 y1, .int .i64 y2, .int .i64 y3, .int .i64 y4, .int .i64 y5, .int .i64 y6, .int .i64 y7] 23 (0, 0)) := heap_alloc_last _ _
  have z7'' : w6.heap.size < (w6.alloc (.cells #[.int .i64 y0, .int .i64 y1, .int .i64 y2, .int .i64 y3, .int .i64 y4, .int .i64 y5, .int .i64 y6, .int .i64 y7] 23)).heap.size := by simp
  go_wp2_with fail
  generalize w6.alloc (.cells #[.int .i64 y0, .int .i64 y1, .int .i64 y2, .int .i64 y3, .int .i64 y4, .int .i64 y5, .int .i64 y6, .int .i64 y7] 23) = w7 at *
  have r7 := (b7.block w.heap.size (by omega)).trans r6
  have t7 := (b7.block w4.heap.size z6').trans t6
  have z7 : w.heap.size < w7.heap.size := by have := b7.size; omega
  have z7' : w4.heap.size < w7.heap.size := Nat.lt_of_lt_of_le z6' b7.size
  have HA5 := Lib.hid (show ∀ W', Below w7.heap.size w7 W' → All W' from fun W' h => (A6'.over b7).over h)
  have bb7 := bb6.trans (b7.mono (by omega))
  have d7 := reads_over d6 b7
  have e7 := reads_over e6 b7
  have f7 := reads_over f6 b7
  have g7 := reads_over g6 b7
  clear d6 e6 f6 g6 r6 t6 A6' bb6 b7 z6 z6'
  have c5' := fun W' (h : Below w7.heap.size w7 W') => run_str c2 (d7.below h)
  have c1' := fun W' (h : Below w7.heap.size w7 W') => run_str c (e7.below h)
  have c6' := fun W' (h : Below w7.heap.size w7 W') => run_str c3 (f7.below h)
  have c8' := fun W' (h : Below w7.heap.size w7 W') => run_str c4 (g7.below h)
  have hc1 := cells8_of r7
  have hc2 := cells8_of t7
  have hc3 := cells8_of u7
  have kk : ∀ b, b < w7.heap.size → ∀ i W', Below w7.heap.size w7 W' → W'.cell? ⟨b, i, none⟩ = w7.cell? ⟨b, i, none⟩ := fun b hb' i W' hb => hb.cell (p := ⟨b, i, none⟩) hb'
  have k0 := fun W' (h : Below w7.heap.size w7 W') => (kk w.heap.size z7 0 W' h).trans hc1.1
  have k1 := fun W' (h : Below w7.heap.size w7 W') => (kk w.heap.size z7 1 W' h).trans hc1.2.1
  have k2 := fun W' (h : Below w7.heap.size w7 W') => (kk w.heap.size z7 2 W' h).trans hc1.2.2.1
  have k3 := fun W' (h : Below w7.heap.size w7 W') => (kk w.heap.size z7 3 W' h).trans hc1.2.2.2.1
  have k4 := fun W' (h : Below w7.heap.size w7 W') => (kk w.heap.size z7 4 W' h).trans hc1.2.2.2.2.1
  have k5 := fun W' (h : Below w7.heap.size w7 W') => (kk w.heap.size z7 5 W' h).trans hc1.2.2.2.2.2.1
  have k6 := fun W' (h : Below w7.heap.size w7 W') => (kk w.heap.size z7 6 W' h).trans hc1.2.2.2.2.2.2.1
  have k7 := fun W' (h : Below w7.heap.size w7 W') => (kk w.heap.size z7 7 W' h).trans hc1.2.2.2.2.2.2.2.1
  have j0 := fun W' (h : Below w7.heap.size w7 W') => (kk w4.heap.size z7' 0 W' h).trans hc2.1
  have j1 := fun W' (h : Below w7.heap.size w7 W') => (kk w4.heap.size z7' 1 W' h).trans hc2.2.1
  have j2 := fun W' (h : Below w7.heap.size w7 W') => (kk w4.heap.size z7' 2 W' h).trans hc2.2.2.1
  have j3 := fun W' (h : Below w7.heap.size w7 W') => (kk w4.heap.size z7' 3 W' h).trans hc2.2.2.2.1
  have j4 := fun W' (h : Below w7.heap.size w7 W') => (kk w4.heap.size z7' 4 W' h).trans hc2.2.2.2.2.1
  have j5 := fun W' (h : Below w7.heap.size w7 W') => (kk w4.heap.size z7' 5 W' h).trans hc2.2.2.2.2.2.1
  have j6 := fun W' (h : Below w7.heap.size w7 W') => (kk w4.heap.size z7' 6 W' h).trans hc2.2.2.2.2.2.2.1
  have j7 := fun W' (h : Below w7.heap.size w7 W') => (kk w4.heap.size z7' 7 W' h).trans hc2.2.2.2.2.2.2.2.1
  have p0 := fun W' (h : Below w7.heap.size w7 W') => (kk w6.heap.size z7'' 0 W' h).trans hc3.1
  have p1 := fun W' (h : Below w7.heap.size w7 W') => (kk w6.heap.size z7'' 1 W' h).trans hc3.2.1
  have p2 := fun W' (h : Below w7.heap.size w7 W') => (kk w6.heap.size z7'' 2 W' h).trans hc3.2.2.1
  have p3 := fun W' (h : Below w7.heap.size w7 W') => (kk w6.heap.size z7'' 3 W' h).trans hc3.2.2.2.1
  have p4 := fun W' (h : Below w7.heap.size w7 W') => (kk w6.heap.size z7'' 4 W' h).trans hc3.2.2.2.2.1
  have p5 := fun W' (h : Below w7.heap.size w7 W') => (kk w6.heap.size z7'' 5 W' h).trans hc3.2.2.2.2.2.1
  have p6 := fun W' (h : Below w7.heap.size w7 W') => (kk w6.heap.size z7'' 6 W' h).trans hc3.2.2.2.2.2.2.1
  have p7 := fun W' (h : Below w7.heap.size w7 W') => (kk w6.heap.size z7'' 7 W' h).trans hc3.2.2.2.2.2.2.2.1
  generalize strL l = sl at *
  generalize strL k = sk at *
  have Hbb := Lib.hid bb7
  have Hle := Lib.hid (Nat.le_of_lt z7)
  clear hc1 hc2 hc3 kk r7 t7 u7 bb7 d7 e7 f7 g7 z7 z7' z7'' z4 hi hz0 hz1 hz2 QE QF QD QG hs hn
  refine wp_region_held_drew (S := fun W' => Below w7.heap.size w7 W') (by kernel_rfl) ((Below.refl _ _).drew) (fun hHeld => ?_)
  refine wpAnyH_ready (rs := [0]) (by kernel_rfl) (by simp) ?_
  refine AllReadyH.cons (o := ⟨some 37, _, _, _, _, _⟩) rfl (fun K hK => ?_) AllReadyH.nil
  go_simp
  refine (lives_true _ (HA5.out _ hHeld)).mono ?_
  rintro e w10 ⟨rfl, hb10⟩
  refine hK.out _ _ (below_on hHeld hb10) (fun hHeld => ?_)
  clear hK K
  try simp only [Act.put, List.setIfInBounds_toArray, List.set_cons_zero, List.set_cons_succ]
  refine wpAnyH_take (i := 1) (oi := ⟨some 38, _, _, _, _, _⟩) (v := ?_) rfl (by kernel_rfl) (by kernel_rfl) (by kernel_rfl) (fun _ _ _ h => h) (Or.inl ⟨by rfl, ?_⟩) (by assumption) ?_
  rotate_left
  · (intro w hSw; (try dsimp only at hSw); go_simp; first | done | with_reducible rfl)
  try simp only [Act.put, List.setIfInBounds_toArray, List.set_cons_zero, List.set_cons_succ]
  refine wpAnyH_take (i := 2) (oi := ⟨some 39, _, _, _, _, _⟩) (v := ?_) rfl (by kernel_rfl) (by kernel_rfl) (by kernel_rfl) (fun _ _ _ h => h) (Or.inl ⟨by rfl, ?_⟩) (by assumption) ?_
  rotate_left
  · (intro w hSw; (try dsimp only at hSw); go_simp; first | done | with_reducible rfl)
  try simp only [Act.put, List.setIfInBounds_toArray, List.set_cons_zero, List.set_cons_succ]
  refine wpAnyH_take (i := 4) (oi := ⟨some 41, _, _, _, _, _⟩) (v := ?_) rfl (by kernel_rfl) (by kernel_rfl) (by kernel_rfl) (fun _ _ _ h => h) (Or.inl ⟨by rfl, ?_⟩) (by assumption) ?_
  rotate_left
  · (intro w hSw; (try dsimp only at hSw); go_simp; first | done | with_reducible rfl)
  try simp only [Act.put, List.setIfInBounds_toArray, List.set_cons_zero, List.set_cons_succ]
  refine wpAnyH_ready (rs := [3]) (by kernel_rfl) (by simp) ?_
  refine AllReadyH.cons (o := ⟨some 40, _, _, _, _, _⟩) rfl (fun K hK => ?_) AllReadyH.nil
  go_simp
  refine (QR.out _).mono ?_
  rintro e w11 ⟨rfl, hb11⟩
  refine hK.out _ _ (below_on hHeld hb11) (fun hHeld => ?_)
  clear hK K
  try simp only [Act.put, List.setIfInBounds_toArray, List.set_cons_zero, List.set_cons_succ]
  refine wpAnyH_ready (rs := [5]) (by kernel_rfl) (by simp) ?_
  refine AllReadyH.cons (o := ⟨some 42, _, _, _, _, _⟩) rfl (fun K hK => ?_) AllReadyH.nil
  go_simp
  refine (QS.out _).mono ?_
  rintro e w12 ⟨rfl, hb12⟩
  refine hK.out _ _ (below_on hHeld hb12) (fun hHeld => ?_)
  clear hK K
  try simp only [Act.put, List.setIfInBounds_toArray, List.set_cons_zero, List.set_cons_succ]
  refine wpAnyH_take (i := 6) (oi := ⟨some 43, _, _, _, _, _⟩) (v := ?_) rfl (by kernel_rfl) (by kernel_rfl) (by kernel_rfl) (fun _ _ _ h => h) (Or.inl ⟨by rfl, ?_⟩) (by assumption) ?_
  rotate_left
  · (intro w hSw; (try dsimp only at hSw); go_simp; first | done | with_reducible rfl)
  try simp only [Act.put, List.setIfInBounds_toArray, List.set_cons_zero, List.set_cons_succ]
  refine wpAnyH_take (i := 7) (oi := ⟨some 44, _, _, _, _, _⟩) (v := ?_) rfl (by kernel_rfl) (by kernel_rfl) (by kernel_rfl) (fun _ _ _ h => h) (Or.inl ⟨by rfl, ?_⟩) (by assumption) ?_
  rotate_left
  · (intro w hSw; (try dsimp only at hSw); go_simp; first | done | with_reducible rfl)
  try simp only [Act.put, List.setIfInBounds_toArray, List.set_cons_zero, List.set_cons_succ]
  refine wpAnyH_take (i := 8) (oi := ⟨some 45, _, _, _, _, _⟩) (v := ?_) rfl (by kernel_rfl) (by kernel_rfl) (by kernel_rfl) (fun _ _ _ h => h) (Or.inl ⟨by rfl, ?_⟩) (by assumption) ?_
  rotate_left
  · (intro w hSw; (try dsimp only at hSw); go_simp; first | done | with_reducible rfl)
  try simp only [Act.put, List.setIfInBounds_toArray, List.set_cons_zero, List.set_cons_succ]
  refine wpAnyH_take (i := 9) (oi := ⟨some 46, _, _, _, _, _⟩) (v := ?_) rfl (by kernel_rfl) (by kernel_rfl) (by kernel_rfl) (fun _ _ _ h => h) (Or.inl ⟨by rfl, ?_⟩) (by assumption) ?_
  rotate_left
  · (intro w hSw; (try dsimp only at hSw); go_simp; first | done | with_reducible rfl)
  try simp only [Act.put, List.setIfInBounds_toArray, List.set_cons_zero, List.set_cons_succ]
  refine wpAnyH_take (i := 10) (oi := ⟨some 47, _, _, _, _, _⟩) (v := ?_) rfl (by kernel_rfl) (by kernel_rfl) (by kernel_rfl) (fun _ _ _ h => h) (Or.inl ⟨by rfl, ?_⟩) (by assumption) ?_
  rotate_left
  · (intro w hSw; (try dsimp only at hSw); go_simp; first | done | with_reducible rfl)
  try simp only [Act.put, List.setIfInBounds_toArray, List.set_cons_zero, List.set_cons_succ]
  refine wpAnyH_take (i := 11) (oi := ⟨some 48, _, _, _, _, _⟩) (v := ?_) rfl (by kernel_rfl) (by kernel_rfl) (by kernel_rfl) (fun _ _ _ h => h) (Or.inl ⟨by rfl, ?_⟩) (by assumption) ?_
  rotate_left
  · (intro w hSw; (try dsimp only at hSw); go_simp; first | done | with_reducible rfl)
  try simp only [Act.put, List.setIfInBounds_toArray, List.set_cons_zero, List.set_cons_succ]
  refine wpAnyH_take (i := 12) (oi := ⟨some 49, _, _, _, _, _⟩) (v := ?_) rfl (by kernel_rfl) (by kernel_rfl) (by kernel_rfl) (fun _ _ _ h => h) (Or.inl ⟨by rfl, ?_⟩) (by assumption) ?_
  rotate_left
  · (intro w hSw; (try dsimp only at hSw); go_simp; first | done | with_reducible rfl)
  try simp only [Act.put, List.setIfInBounds_toArray, List.set_cons_zero, List.set_cons_succ]
  refine wpAnyH_take (i := 13) (oi := ⟨some 50, _, _, _, _, _⟩) (v := ?_) rfl (by kernel_rfl) (by kernel_rfl) (by kernel_rfl) (fun _ _ _ h => h) (Or.inl ⟨by rfl, ?_⟩) (by assumption) ?_
  rotate_left
  · (intro w hSw; (try dsimp only at hSw); go_simp; first | done | with_reducible rfl)
  try simp only [Act.put, List.setIfInBounds_toArray, List.set_cons_zero, List.set_cons_succ]
  refine wpAnyH_take (i := 14) (oi := ⟨some 51, _, _, _, _, _⟩) (v := ?_) rfl (by kernel_rfl) (by kernel_rfl) (by kernel_rfl) (fun _ _ _ h => h) (Or.inl ⟨by rfl, ?_⟩) (by assumption) ?_
  rotate_left
  · (intro w hSw; (try dsimp only at hSw); go_simp; first | done | with_reducible rfl)
  try simp only [Act.put, List.setIfInBounds_toArray, List.set_cons_zero, List.set_cons_succ]
  refine wpAnyH_take (i := 15) (oi := ⟨some 52, _, _, _, _, _⟩) (v := ?_) rfl (by kernel_rfl) (by kernel_rfl) (by kernel_rfl) (fun _ _ _ h => h) (Or.inl ⟨by rfl, ?_⟩) (by assumption) ?_
  rotate_left
  · (intro w hSw; (try dsimp only at hSw); go_simp; first | done | with_reducible rfl)
  try simp only [Act.put, List.setIfInBounds_toArray, List.set_cons_zero, List.set_cons_succ]
  refine wpAnyH_take (i := 16) (oi := ⟨some 53, _, _, _, _, _⟩) (v := ?_) rfl (by kernel_rfl) (by kernel_rfl) (by kernel_rfl) (fun _ _ _ h => h) (Or.inl ⟨by rfl, ?_⟩) (by assumption) ?_
  rotate_left
  · (intro w hSw; (try dsimp only at hSw); go_simp; first | done | with_reducible rfl)
  try simp only [Act.put, List.setIfInBounds_toArray, List.set_cons_zero, List.set_cons_succ]
  refine wpAnyH_take (i := 17) (oi := ⟨some 54, _, _, _, _, _⟩) (v := ?_) rfl (by kernel_rfl) (by kernel_rfl) (by kernel_rfl) (fun _ _ _ h => h) (Or.inl ⟨by rfl, ?_⟩) (by assumption) ?_
  rotate_left
  · (intro w hSw; (try dsimp only at hSw); go_simp; first | done | with_reducible rfl)
  try simp only [Act.put, List.setIfInBounds_toArray, List.set_cons_zero, List.set_cons_succ]
  refine wpAnyH_take (i := 18) (oi := ⟨some 55, _, _, _, _, _⟩) (v := ?_) rfl (by kernel_rfl) (by kernel_rfl) (by kernel_rfl) (fun _ _ _ h => h) (Or.inl ⟨by rfl, ?_⟩) (by assumption) ?_
  rotate_left
  · (intro w hSw; (try dsimp only at hSw); go_simp; first | done | with_reducible rfl)
  try simp only [Act.put, List.setIfInBounds_toArray, List.set_cons_zero, List.set_cons_succ]
  refine wpAnyH_take (i := 19) (oi := ⟨some 56, _, _, _, _, _⟩) (v := ?_) rfl (by kernel_rfl) (by kernel_rfl) (by kernel_rfl) (fun _ _ _ h => h) (Or.inl ⟨by rfl, ?_⟩) (by assumption) ?_
  rotate_left
  · (intro w hSw; (try dsimp only at hSw); go_simp; first | done | with_reducible rfl)
  try simp only [Act.put, List.setIfInBounds_toArray, List.set_cons_zero, List.set_cons_succ]
  refine wpAnyH_take (i := 20) (oi := ⟨some 57, _, _, _, _, _⟩) (v := ?_) rfl (by kernel_rfl) (by kernel_rfl) (by kernel_rfl) (fun _ _ _ h => h) (Or.inl ⟨by rfl, ?_⟩) (by assumption) ?_
  rotate_left
  · (intro w hSw; (try dsimp only at hSw); go_simp; first | done | with_reducible rfl)
  try simp only [Act.put, List.setIfInBounds_toArray, List.set_cons_zero, List.set_cons_succ]
  refine wpAnyH_take (i := 21) (oi := ⟨some 58, _, _, _, _, _⟩) (v := ?_) rfl (by kernel_rfl) (by kernel_rfl) (by kernel_rfl) (fun _ _ _ h => h) (Or.inl ⟨by rfl, ?_⟩) (by assumption) ?_
  rotate_left
  · (intro w hSw; (try dsimp only at hSw); go_simp; first | done | with_reducible rfl)
  try simp only [Act.put, List.setIfInBounds_toArray, List.set_cons_zero, List.set_cons_succ]
  refine wpAnyH_take (i := 22) (oi := ⟨some 59, _, _, _, _, _⟩) (v := ?_) rfl (by kernel_rfl) (by kernel_rfl) (by kernel_rfl) (fun _ _ _ h => h) (Or.inl ⟨by rfl, ?_⟩) (by assumption) ?_
  rotate_left
  · (intro w hSw; (try dsimp only at hSw); go_simp; first | done | with_reducible rfl)
  try simp only [Act.put, List.setIfInBounds_toArray, List.set_cons_zero, List.set_cons_succ]
  refine wpAnyH_take (i := 23) (oi := ⟨some 60, _, _, _, _, _⟩) (v := ?_) rfl (by kernel_rfl) (by kernel_rfl) (by kernel_rfl) (fun _ _ _ h => h) (Or.inl ⟨by rfl, ?_⟩) (by assumption) ?_
  rotate_left
  · (intro w hSw; (try dsimp only at hSw); go_simp; first | done | with_reducible rfl)
  try simp only [Act.put, List.setIfInBounds_toArray, List.set_cons_zero, List.set_cons_succ]
  refine wpAnyH_take (i := 24) (oi := ⟨some 61, _, _, _, _, _⟩) (v := ?_) rfl (by kernel_rfl) (by kernel_rfl) (by kernel_rfl) (fun _ _ _ h => h) (Or.inl ⟨by rfl, ?_⟩) (by assumption) ?_
  rotate_left
  · (intro w hSw; (try dsimp only at hSw); go_simp; first | done | with_reducible rfl)
  try simp only [Act.put, List.setIfInBounds_toArray, List.set_cons_zero, List.set_cons_succ]
  refine wpAnyH_take (i := 25) (oi := ⟨some 62, _, _, _, _, _⟩) (v := ?_) rfl (by kernel_rfl) (by kernel_rfl) (by kernel_rfl) (fun _ _ _ h => h) (Or.inl ⟨by rfl, ?_⟩) (by assumption) ?_
  rotate_left
  · (intro w hSw; (try dsimp only at hSw); go_simp; first | done | with_reducible rfl)
  try simp only [Act.put, List.setIfInBounds_toArray, List.set_cons_zero, List.set_cons_succ]
  refine wpAnyH_take (i := 26) (oi := ⟨some 63, _, _, _, _, _⟩) (v := ?_) rfl (by kernel_rfl) (by kernel_rfl) (by kernel_rfl) (fun _ _ _ h => h) (Or.inl ⟨by rfl, ?_⟩) (by assumption) ?_
  rotate_left
  · (intro w hSw; (try dsimp only at hSw); go_simp; first | done | with_reducible rfl)
  try simp only [Act.put, List.setIfInBounds_toArray, List.set_cons_zero, List.set_cons_succ]
  refine wpAnyH_take (i := 27) (oi := ⟨some 64, _, _, _, _, _⟩) (v := ?_) rfl (by kernel_rfl) (by kernel_rfl) (by kernel_rfl) (fun _ _ _ h => h) (Or.inl ⟨by rfl, ?_⟩) (by assumption) ?_
  rotate_left
  · (intro w hSw; (try dsimp only at hSw); go_simp; first | done | with_reducible rfl)
  try simp only [Act.put, List.setIfInBounds_toArray, List.set_cons_zero, List.set_cons_succ]
  refine wpAnyH_take (i := 28) (oi := ⟨some 65, _, _, _, _, _⟩) (v := ?_) rfl (by kernel_rfl) (by kernel_rfl) (by kernel_rfl) (fun _ _ _ h => h) (Or.inl ⟨by rfl, ?_⟩) (by assumption) ?_
  rotate_left
  · (intro w hSw; (try dsimp only at hSw); go_simp; first | done | with_reducible rfl)
  try simp only [Act.put, List.setIfInBounds_toArray, List.set_cons_zero, List.set_cons_succ]
  refine wpAnyH_take (i := 29) (oi := ⟨some 66, _, _, _, _, _⟩) (v := ?_) rfl (by kernel_rfl) (by kernel_rfl) (by kernel_rfl) (fun _ _ _ h => h) (Or.inl ⟨by rfl, ?_⟩) (by assumption) ?_
  rotate_left
  · (intro w hSw; (try dsimp only at hSw); go_simp; first | done | with_reducible rfl)
  try simp only [Act.put, List.setIfInBounds_toArray, List.set_cons_zero, List.set_cons_succ]
  refine wpAnyH_take (i := 30) (oi := ⟨some 67, _, _, _, _, _⟩) (v := ?_) rfl (by kernel_rfl) (by kernel_rfl) (by kernel_rfl) (fun _ _ _ h => h) (Or.inl ⟨by rfl, ?_⟩) (by assumption) ?_
  rotate_left
  · (intro w hSw; (try dsimp only at hSw); go_simp; first | done | with_reducible rfl)
  try simp only [Act.put, List.setIfInBounds_toArray, List.set_cons_zero, List.set_cons_succ]
  refine wpAnyH_take (i := 31) (oi := ⟨some 68, _, _, _, _, _⟩) (v := ?_) rfl (by kernel_rfl) (by kernel_rfl) (by kernel_rfl) (fun _ _ _ h => h) (Or.inl ⟨by rfl, ?_⟩) (by assumption) ?_
  rotate_left
  · (intro w hSw; (try dsimp only at hSw); go_simp; first | done | with_reducible rfl)
  try simp only [Act.put, List.setIfInBounds_toArray, List.set_cons_zero, List.set_cons_succ]
  refine wpAnyH_take (i := 32) (oi := ⟨some 69, _, _, _, _, _⟩) (v := ?_) rfl (by kernel_rfl) (by kernel_rfl) (by kernel_rfl) (fun _ _ _ h => h) (Or.inl ⟨by rfl, ?_⟩) (by assumption) ?_
  rotate_left
  · (intro w hSw; (try dsimp only at hSw); go_simp; first | done | with_reducible rfl)
  try simp only [Act.put, List.setIfInBounds_toArray, List.set_cons_zero, List.set_cons_succ]
  refine wpAnyH_take (i := 33) (oi := ⟨some 70, _, _, _, _, _⟩) (v := ?_) rfl (by kernel_rfl) (by kernel_rfl) (by kernel_rfl) (fun _ _ _ h => h) (Or.inl ⟨by rfl, ?_⟩) (by assumption) ?_
  rotate_left
  · (intro w hSw; (try dsimp only at hSw); go_simp; first | done | with_reducible rfl)
  try simp only [Act.put, List.setIfInBounds_toArray, List.set_cons_zero, List.set_cons_succ]
  refine wpAnyH_take (i := 34) (oi := ⟨some 71, _, _, _, _, _⟩) (v := ?_) rfl (by kernel_rfl) (by kernel_rfl) (by kernel_rfl) (fun _ _ _ h => h) (Or.inl ⟨by rfl, ?_⟩) (by assumption) ?_
  rotate_left
  · (intro w hSw; (try dsimp only at hSw); go_simp; first | done | with_reducible rfl)
  try simp only [Act.put, List.setIfInBounds_toArray, List.set_cons_zero, List.set_cons_succ]
  refine wpAnyH_take (i := 35) (oi := ⟨some 72, _, _, _, _, _⟩) (v := ?_) rfl (by kernel_rfl) (by kernel_rfl) (by kernel_rfl) (fun _ _ _ h => h) (Or.inl ⟨by rfl, ?_⟩) (by assumption) ?_
  rotate_left
  · (intro w hSw; (try dsimp only at hSw); go_simp; first | done | with_reducible rfl)
  try simp only [Act.put, List.setIfInBounds_toArray, List.set_cons_zero, List.set_cons_succ]
  refine wpAnyH_take (i := 36) (oi := ⟨some 73, _, _, _, _, _⟩) (v := ?_) rfl (by kernel_rfl) (by kernel_rfl) (by kernel_rfl) (fun _ _ _ h => h) (Or.inl ⟨by rfl, ?_⟩) (by assumption) ?_
  rotate_left
  · (intro w hSw; (try dsimp only at hSw); go_simp; first | done | with_reducible rfl)
  try simp only [Act.put, List.setIfInBounds_toArray, List.set_cons_zero, List.set_cons_succ]
  refine wpAnyH_take (i := 37) (oi := ⟨some 4, _, _, _, _, _⟩) (v := ?_) rfl (by kernel_rfl) (by kernel_rfl) (by kernel_rfl) (fun _ _ _ h => h) (Or.inl ⟨by rfl, ?_⟩) (by assumption) ?_
  rotate_left
  · (intro w hSw; (try dsimp only at hSw); go_simp; first | done | with_reducible rfl)
  try simp only [Act.put, List.setIfInBounds_toArray, List.set_cons_zero, List.set_cons_succ]
  refine wpAnyH_done (by kernel_rfl) ?_ _
  go_wp2_with fail
  go_ret
  exact ⟨rfl, Hbb.out.trans (hHeld.mono Hle.out)⟩
set_option maxRecDepth 100000 in
/-- WHAT THE WALK GIVES, FOR EVERY ARGUMENT AND EVERY WORLD THAT HOLDS THE TABLES. -/
theorem contract (H : Type) (enc : TypeId × Value → H) (W : World) (base : Nat) (args : Array Value) (ds gs : List (DataW H)) (before : List MemPlace)
    (hval : ∀ (j : Nat) t v, Tryd.f3.params[j]? = some t → args[j]? = some v → Value.okWide Tryd.prog W .any base t v)
    (hW : DataW.Whole enc Tryd.prog Tryd.f3.params.toList Rows.superCodesSpec.vars false W args.toList ds gs before)
    (hsz : (DataW.weightsEach Tryd.prog (Tryd.f3.params.toList ++ (OpenSpec.ofChange Rows.superCodesSpec).bare.plain.varTypes Tryd.prog) (ds ++ gs)).all (· ≤ reachBytes) = true) (hL : laidMetH Tryd.prog laidBoth W) :
    Calls Tryd.prog 3 args W fun e W' => ∃ v, e = .returned v ∧ Rows.superCodesSpec.post enc Tryd.prog Tryd.f3 false true false false W args v W' := by
  have hW' := hW
  obtain ⟨p, q, hA0, hV, rfl, hfz, hnd⟩ := hW
  have hA : DataW.TrodAll enc Tryd.prog W 0 (fun _ => true) true Tryd.f3.params.toList args.toList ds p := hA0
  have hsz2 : (DataW.weightsEach Tryd.prog (Tryd.f3.params.toList ++ []) (ds ++ gs)).all (· ≤ reachBytes) = true := hsz
  rw [Tryd.params3] at hA hval hsz2
  obtain ⟨v0, vs0, d0, ds0, p0, q0, hargs, rfl, rfl, h0, r0⟩ := trodAll_cons hA
  obtain ⟨v1, vs1, d1, ds1, p1, q1, rfl, rfl, rfl, h1, r1⟩ := trodAll_cons r0
  obtain ⟨rfl, rfl, rfl⟩ := trodAll_nil r1
  obtain rfl : args = #[v0, v1] := by cases args; simp_all
  obtain ⟨rfl, rfl⟩ := trodVars_none hV
  have k0 := h0
  have lt0 : ∀ x ∈ p0, x.block < W.heap.size := by obtain ⟨m, hm⟩ := k0; exact DataW.trod_lt m _ _ _ hm
  obtain ⟨z0, rfl, zf0⟩ := sup_came (hval 0 23 v0 rfl rfl) h0
  obtain ⟨A1, n1, c1, rfl⟩ := okWide_slice Tryd.underlying24 (hval 1 24 v1 rfl rfl)
  have k1 := h1
  have lt1 : ∀ x ∈ p1, x.block < W.heap.size := by obtain ⟨m, hm⟩ := k1; exact DataW.trod_lt m _ _ _ hm
  obtain ⟨l1, sl1, rd1, nc1, _, dd1⟩ : ∃ l, Small l ∧ Reads W W.heap.size A1 n1 (bts l) ∧ n1 ≤ c1 ∧ c1 ≤ maxLen ∧ ((d1 = .nil ∧ c1 = 0) ∨ ∃ es sp, d1 = .slice es sp ∧ es.length + sp.length = c1) := by obtain ⟨fuel, hf⟩ := h1; exact bytes_in (by simpa [Value.cells] using hf)
  have b1 : n1 ≤ 140737488351232 := by
    rcases dd1 with ⟨_, hc0⟩ | ⟨es, sp, hd, hc0⟩
    · omega
    · have := sized_slice (P := Tryd.prog) hsz2 (j := 1) (t := 24) (e := 5) rfl (by rw [hd]; rfl) Tryd.underlying24
      rw [bytesU8] at this; simp only [reachBytes] at this; omega
  have hT := tabs_of_laid hL
  refine (walk z0 zf0 A1 n1 c1 l1 sl1 rd1 b1 hT).mono fun e W' ⟨he, bel⟩ => ?_
  subst he
  exact ⟨_, rfl, _, _, _, [], _, [], hW', trodAll_mk1 (shut_bool Tryd.underlying4 _), (trodAll_cons_mk (Below.trod laidOut (by kernel_rfl) (of_decide_eq_true (by kernel_rfl)) k0 bel lt0) (trodAll_cons_mk (Below.trod laidOut (by kernel_rfl) (of_decide_eq_true (by kernel_rfl)) k1 bel lt1) trodAll_mk0)), rfl, bel.frame _, fun h => by cases h⟩

theorem laid_met (os : Os) : laidMetH Tryd.prog laidBoth ((laidWorld os).forCall (fun _ _ => 0) ⟨#[], #[.agg #[.int .i64 0, .int .i64 0, .int .i64 0, .int .i64 0, .int .i64 0, .int .i64 0, .int .i64 0, .int .i64 0], .slice none 0 0], []⟩).memory :=
  laidMetH_of_parts3 (fuel := 8) (laidMet_of_run' 8 (by kernel_rfl) (by kernel_rfl)) (by kernel_rfl) (by kernel_rfl)
theorem reads (os : Os) {H : Type} (enc : TypeId × Value → H) : ∃ places, DataW.whole enc Tryd.prog ((laidWorld os).forCall (fun _ _ => 0) ⟨#[], #[.agg #[.int .i64 0, .int .i64 0, .int .i64 0, .int .i64 0, .int .i64 0, .int .i64 0, .int .i64 0, .int .i64 0], .slice none 0 0], []⟩).memory Tryd.f3.params.toList Rows.superCodesSpec.vars false (#[.agg #[.int .i64 0, .int .i64 0, .int .i64 0, .int .i64 0, .int .i64 0, .int .i64 0, .int .i64 0, .int .i64 0], .slice none 0 0] : Array Value).toList 8 = some ([.agg [.lit (.int .i64 0), .lit (.int .i64 0), .lit (.int .i64 0), .lit (.int .i64 0), .lit (.int .i64 0), .lit (.int .i64 0), .lit (.int .i64 0), .lit (.int .i64 0)], .nil], [], places) :=
  ⟨[], by kernel_rfl⟩
set_option maxRecDepth 100000 in
theorem lifted (os : Os) (started : os.Started) (H : Type) (enc : TypeId × Value → H) (F : Stop.Interp) :
    ReturnsInHanded {} Tryd.checked os 3 .any ((OpenSpec.ofChange Rows.superCodesSpec).preRow enc Tryd.prog Tryd.f3 Rows.superCodesRow.domain false Rows.superCodesRow.laid) (((OpenSpec.ofChange Rows.superCodesSpec).at F).post enc Tryd.prog Tryd.f3 false true false false) := by
  obtain ⟨places, hx⟩ := reads os enc
  refine returnsInHanded_of_row (C := Tryd.checked) (s := (OpenSpec.ofChange Rows.superCodesSpec)) own started (by kernel_rfl) Tryd.func3
    (witness_row_at (enc := enc) (C := Tryd.checked) false (laidWorld os) #[.agg #[.int .i64 0, .int .i64 0, .int .i64 0, .int .i64 0, .int .i64 0, .int .i64 0, .int .i64 0, .int .i64 0], .slice none 0 0] rfl (by kernel_rfl) (by kernel_rfl) (by kernel_rfl)
      (OpenSpec.preRow_of_cond 8 hx (by kernel_rfl) (fun k hk => by cases hk) (by kernel_rfl) (laid_met os))) ?_
  intro W base args ds gs before hval hW _ hcond hsz hL _ _
  exact contract H enc W base args ds gs before hval hW hsz hL
theorem said : Rows.SuperCodesSaid :=
  OpenClaim.holds_of_cond 3 Tryd.f3 rfl rfl rfl rfl rfl rfl rfl ⟨rfl, rfl, rfl, rfl, rfl⟩ rfl rfl rfl rfl rfl (by kernel_rfl) Tryd.func3 (by kernel_rfl)
    (of_decide_eq_true (by kernel_rfl)) (by unfold Func.isWrapper; first | (rw [if_pos (by decide +kernel)]; kernel_rfl) | (rw [if_neg (by decide +kernel)]; exact ⟨rfl, rfl⟩))
    (fun os started H enc _ F => by rw [OpenClaim.pre_eq_preRow]; exact lifted os started H enc F)
theorem plain (f : FuncId) (fn : Func) (hf : Tryd.pinned.checked.prog.funcNamed "ashlar/ashlarlaw04.SuperCodes" = some f) (hfn : Tryd.pinned.checked.prog.funcs[f]? = some fn) :
    false = Tryd.pinned.checked.prog.looks [] ∧ ∀ (j : Nat) t, fn.params[j]? = some t → Tryd.pinned.checked.prog.wantsStandIn t = false := by
  obtain rfl : f = 3 := Option.some.inj ((show Tryd.prog.funcNamed "ashlar/ashlarlaw04.SuperCodes" = some 3 by kernel_rfl).symm.trans hf) |>.symm
  obtain rfl : fn = Tryd.f3 := (Option.some.inj (Tryd.func3.symm.trans hfn)).symm
  refine ⟨by kernel_rfl, fun j t ht => ?_⟩
  rw [Tryd.params3] at ht
  have hm : t ∈ [23, 24] := by simpa using Array.mem_of_getElem? ht
  have hall : ([23, 24].all fun u => !Tryd.prog.wantsStandIn u) = true := by kernel_rfl
  exact (show Tryd.prog.wantsStandIn t = false by simpa using List.all_eq_true.1 hall t hm)

/-- ████ THE CARD ████ -/
theorem card : Rows.SuperCodesCardSaid :=
  Claim7.holds_tied_plain_at .later [] _ _ _ _ said (fun _ h => by cases h) (by kernel_rfl) (fun _ h => by cases h) superCodes_row_tie rfl ⟨rfl, rfl⟩ (by kernel_rfl) rfl plain (by kernel_rfl)
end Go.Proofs.YtceebcaeodmllaaDoor.S.superCodes
