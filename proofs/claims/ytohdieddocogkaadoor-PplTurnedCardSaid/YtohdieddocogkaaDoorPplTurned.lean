/-
  PplTurned is true for every record, place and byte: a head, or a part, of which one byte is another one is that of no record.
  Conditions: none of its own; the tables hold what the program's text lays (the card ties that).
-/
import Derived.Test.YtohdieddocogkaaDoorQo
namespace Go.Proofs.YtohdieddocogkaaDoor.U.pplTurned
open Go.ChangeShapes Go.WideShapes Go.ChangeAt Go.RowKit Go.Maps

theorem putL_inj {x y : Nat} (hx : x < 4294967296) (hy : y < 4294967296) (h : putL x 4 = putL y 4) : x = y := by
  have h2 := congrArg getN h
  rw [getN_putL, getN_putL] at h2
  have e : (2 : Nat) ^ (8 * 4) = 4294967296 := by decide
  rw [e, Nat.mod_eq_of_lt hx, Nat.mod_eq_of_lt hy] at h2
  exact h2
theorem head_parts (f : Nat → Nat) : (headL f).take 124 = bodyL f ∧ (headL f).drop 124 = putL (Nums.sum 0 (bodyL f)) 4 := by
  unfold headL
  exact ⟨List.take_left' (bodyL_length f), List.drop_left' (bodyL_length f)⟩
theorem head_one {f f' : Nat → Nat} {i x : Nat} (hi : i < 128) (hx : x < 256) (hne : x ≠ (headL f).getD i 0) : headL f' ≠ (headL f).set i x := by
  intro e
  obtain ⟨h1, h2⟩ := head_parts f
  obtain ⟨k1, k2⟩ := head_parts f'
  rw [e] at k1 k2
  by_cases h : i < 124
  · rw [List.take_set, h1] at k1
    rw [List.drop_set_of_lt h, h2] at k2
    have hs := putL_inj (Nums.sum_lt (bodyL_small f) (by decide)) (Nums.sum_lt (bodyL_small f') (by decide)) k2
    rw [← k1] at hs
    have hg : (bodyL f).getD i 0 = (headL f).getD i 0 := by
      unfold headL
      simp [List.getD, List.getElem?_append_left (show i < (bodyL f).length by rw [bodyL_length]; exact h)]
    exact Nums.sum_set_ne (bodyL_small f) (by decide) i (by rw [bodyL_length]; exact h) x hx (by rw [hg]; exact hne) hs
  · rw [List.take_set_of_le (by omega), h1] at k1
    have e2 : headL f' = headL f := by unfold headL; rw [k1]
    rw [e2] at e
    apply hne
    have := congrArg (fun l : List Nat => l.getD i 0) e
    simp [List.getD, show i < (headL f).length by rw [headL_length]; exact hi] at this
    simpa [List.getD, show i < (headL f).length by rw [headL_length]; exact hi] using this.symm
theorem not_head {f : Nat → Nat} {i x : Nat} {l : List Nat} (hi : i < 128) (hx : x < 256) (hne : x ≠ (headL f).getD i 0) : okD ((headL f).set i x) l 128 = false := by
  cases h : okD ((headL f).set i x) l 128
  · rfl
  · exact absurd (okD_is h).1.symm (head_one hi hx hne)
theorem not_part {a b i x : Nat} {l : List Nat} (ha : a < 1024) (hb : b < 15) (hl : Small l) (hi : i < l.length) (hx : x < 256) (hne : x ≠ l.getD i 0) : okD (headL (numF a b (Nums.sum 0 l))) (l.set i x) 128 = false := by
  cases h : okD (headL (numF a b (Nums.sum 0 l))) (l.set i x) 128
  · rfl
  · obtain ⟨_, _, _, h2⟩ := okD_head ha hb l hl
    have h1 : numAt _ 2 = numAt _ 2 := congrArg (fun h => numAt h 2) (okD_is h).1
    have hl2 : Small (l.set i x) := fun y hy => by
      rcases List.mem_or_eq_of_mem_set hy with h | h
      · exact hl y h
      · rw [h]; exact hx
    rw [h2, numAt_head _ 2 (by decide) (show Nums.sum 0 (l.set i x) < _ from Nums.sum_lt hl2 (by decide))] at h1
    exact absurd h1 (Nums.sum_set_ne hl (by decide) i hi x hx hne)
theorem xor_ne {y x : Nat} (h : x ≠ 0) : y ^^^ x ≠ y := fun e => h (Nums.xor_cancel_left (a := y) (by rw [e, Nat.xor_zero]))
set_option maxRecDepth 20000 in
theorem walk_no {w : World} (s q : Int) (A : Option Addr) (n c : Nat) (l : List Nat) (i : Int) (x : Nat) (_hx : x < 256) (hl : Small l) (hr : Reads w w.heap.size A n (bts l)) (hn : n ≤ maxLen) (hA : All w) (hm : mayB s q n = false) :
    Calls Tryd.prog 5 #[.agg #[.int .i64 s, .int .i64 q, .slice A n c], .int .i64 i, .int .u8 x] w fun e w' => e = .returned (.bool true) ∧ Below w.heap.size w w' := by
  have hb0 : Below w.heap.size w (w.alloc (.cells #[.int .i64 s, .int .i64 q, .slice A n c] 24)) := (Below.refl _ _).alloc (Nat.le_refl _) _
  have r0 := heap_alloc_new w (.cells #[.int .i64 s, .int .i64 q, .slice A n c] 24)
  have z0 : w.heap.size < (w.alloc (.cells #[.int .i64 s, .int .i64 q, .slice A n c] 24)).heap.size := by simp
  have A0 := hA.over hb0
  have QE := Lib.hid (encode_no s q A n c l _ hl ((hr.below hb0).more hb0.size) hn A0.tabs A0.fld hm)
  obtain ⟨k0, k1, k2, _⟩ := cells3_of r0
  clear hr hl hm
  go_enter Tryd.func5, Tryd.ntmps5
  go_wp2_with fail
  generalize w.alloc (.cells #[.int .i64 s, .int .i64 q, .slice A n c] 24) = W0 at *
  refine QE.out.mono ?_
  rintro e w1 ⟨rfl, b1⟩
  have A1 := A0.over b1
  have hb1 := hb0.trans (b1.mono (Nat.le_of_lt z0))
  have z1 := Nat.lt_of_lt_of_le z0 b1.size
  clear k0 k1 k2 r0
  go_wp2_with fail
  refine (lives_true w1 A1.tabs A1.fld).mono ?_
  rintro e w2 ⟨rfl, b2⟩
  have hb2 := hb1.trans (b2.mono (Nat.le_of_lt z1))
  go_wp2_with fail
  go_ret
  exact ⟨rfl, hb2⟩

set_option maxRecDepth 20000 in
set_option maxHeartbeats 4000000 in
theorem walk_out {w : World} (a b : Nat) (ha : a < 1024) (hb : b < 15) (ad : Addr) (c : Nat) (l : List Nat) (hl : Small l) (hr : Reads w w.heap.size (some ad) 128 (bts l)) (hA : All w) (i : Int) (x : Nat) (_hx : x < 256) (ho : x = 0 ∨ i < 0 ∨ 255 < i) :
    Calls Tryd.prog 5 #[.agg #[.int .i64 a, .int .i64 b, .slice (some ad) 128 c], .int .i64 i, .int .u8 x] w fun e w' => e = .returned (.bool true) ∧ Below w.heap.size w w' := by
  have hb0 : Below w.heap.size w (w.alloc (.cells #[.int .i64 a, .int .i64 b, .slice (some ad) 128 c] 24)) := (Below.refl _ _).alloc (Nat.le_refl _) _
  have r0 := heap_alloc_new w (.cells #[.int .i64 a, .int .i64 b, .slice (some ad) 128 c] 24)
  have z0 : w.heap.size < (w.alloc (.cells #[.int .i64 a, .int .i64 b, .slice (some ad) 128 c] 24)).heap.size := by simp
  have A0 := hA.over hb0
  have QE := Lib.hid (encode_ok a b ha hb (some ad) c l _ hl ((hr.below hb0).more hb0.size) A0.tabs A0.fld)
  have HHS := Lib.hid (headL_small (numF a b (Nums.sum 0 l)))
  have HLN := Lib.hid (headL_length (numF a b (Nums.sum 0 l)))
  obtain ⟨k0, k1, k2, _⟩ := cells3_of r0
  go_enter Tryd.func5, Tryd.ntmps5
  go_wp2_with fail
  generalize w.alloc (.cells #[.int .i64 a, .int .i64 b, .slice (some ad) 128 c] 24) = W0 at *
  generalize hhq : headL (numF a b (Nums.sum 0 l)) = hL at *
  have HHQ := Lib.hid hhq
  clear hhq
  refine QE.out.mono ?_
  rintro e w1 ⟨v, rfl, g, rfl, hg, hrow, b1⟩
  have A1 := A0.over b1
  have hb1 := hb0.trans (b1.mono (Nat.le_of_lt z0))
  have r1 := (b1.block w.heap.size z0).trans r0
  have z1 := Nat.lt_of_lt_of_le z0 b1.size
  have hlt : g < w1.heap.size := (Array.getElem?_eq_some_iff.1 hrow).1
  clear k0 k1 k2 r0
  go_wp2_with fail
  refine (lives_true w1 A1.tabs A1.fld).mono ?_
  rintro e w2 ⟨rfl, b2⟩
  have A2 := A1.over b2
  have hb2 := hb1.trans (b2.mono (Nat.le_of_lt z1))
  have r2 := (b2.block w.heap.size z1).trans r1
  have z2 := Nat.lt_of_lt_of_le z1 b2.size
  have hrow2 := (b2.block g hlt).trans hrow
  have hp2 := (hr.below hb2).more hb2.size
  have hlt2 := Nat.lt_of_lt_of_le hlt b2.size
  clear r1 A1 hrow
  clear hrow2 hp2 r2 A2
  by_cases h1 : x = 0
  · subst h1
    go_wp2_with fail
    go_ret
    exact ⟨rfl, hb2⟩
  · have q1 : ((x : Int) == 0) = false := by rw [beq_eq_false_iff_ne]; omega
    by_cases h2 : i < 0
    · have q2 : decide (i < 0) = true := by simpa using h2
      clear h1 ho
      go_wp2_with fail
      go_ret
      exact ⟨rfl, hb2⟩
    · have q2 : decide (i < 0) = false := by simpa using h2
      have h3 : 255 < i := by omega
      have q3 : decide (255 < i) = true := by simpa using h3
      clear h1 ho h2 h3
      go_wp2_with fail
      go_ret
      exact ⟨rfl, hb2⟩

set_option maxRecDepth 20000 in
set_option maxHeartbeats 4000000 in
theorem walk_head {w : World} (a b : Nat) (ha : a < 1024) (hb : b < 15) (ad : Addr) (c : Nat) (l : List Nat) (hl : Small l) (hr : Reads w w.heap.size (some ad) 128 (bts l)) (hA : All w) (k x : Nat) (hk : k < 128) (hx : x < 256) (hx0 : x ≠ 0) :
    Calls Tryd.prog 5 #[.agg #[.int .i64 a, .int .i64 b, .slice (some ad) 128 c], .int .i64 k, .int .u8 x] w fun e w' => e = .returned (.bool true) ∧ Below w.heap.size w w' := by
  have q1 : ((x : Int) == 0) = false := by rw [beq_eq_false_iff_ne]; omega
  have q2 : decide ((k : Int) < 0) = false := by simp
  have q3 : decide (255 < (k : Int)) = false := by simp; omega
  have hb0 : Below w.heap.size w (w.alloc (.cells #[.int .i64 a, .int .i64 b, .slice (some ad) 128 c] 24)) := (Below.refl _ _).alloc (Nat.le_refl _) _
  have r0 := heap_alloc_new w (.cells #[.int .i64 a, .int .i64 b, .slice (some ad) 128 c] 24)
  have z0 : w.heap.size < (w.alloc (.cells #[.int .i64 a, .int .i64 b, .slice (some ad) 128 c] 24)).heap.size := by simp
  have A0 := hA.over hb0
  have QE := Lib.hid (encode_ok a b ha hb (some ad) c l _ hl ((hr.below hb0).more hb0.size) A0.tabs A0.fld)
  have HHS := Lib.hid (headL_small (numF a b (Nums.sum 0 l)))
  have HLN := Lib.hid (headL_length (numF a b (Nums.sum 0 l)))
  obtain ⟨k0, k1, k2, _⟩ := cells3_of r0
  go_enter Tryd.func5, Tryd.ntmps5
  go_wp2_with fail
  generalize w.alloc (.cells #[.int .i64 a, .int .i64 b, .slice (some ad) 128 c] 24) = W0 at *
  generalize hhq : headL (numF a b (Nums.sum 0 l)) = hL at *
  have HHQ := Lib.hid hhq
  clear hhq
  refine QE.out.mono ?_
  rintro e w1 ⟨v, rfl, g, rfl, hg, hrow, b1⟩
  have A1 := A0.over b1
  have hb1 := hb0.trans (b1.mono (Nat.le_of_lt z0))
  have r1 := (b1.block w.heap.size z0).trans r0
  have z1 := Nat.lt_of_lt_of_le z0 b1.size
  have hlt : g < w1.heap.size := (Array.getElem?_eq_some_iff.1 hrow).1
  clear k0 k1 k2 r0
  go_wp2_with fail
  refine (lives_true w1 A1.tabs A1.fld).mono ?_
  rintro e w2 ⟨rfl, b2⟩
  have A2 := A1.over b2
  have hb2 := hb1.trans (b2.mono (Nat.le_of_lt z1))
  have r2 := (b2.block w.heap.size z1).trans r1
  have z2 := Nat.lt_of_lt_of_le z1 b2.size
  have hrow2 := (b2.block g hlt).trans hrow
  have hp2 := (hr.below hb2).more hb2.size
  have hlt2 := Nat.lt_of_lt_of_le hlt b2.size
  clear r1 A1 hrow
  have q4 : decide ((k : Int) < 128) = true := by simp; omega
  obtain ⟨k0, k1, k2, _⟩ := cells3_of r2
  have HX0 := Lib.hid hx0
  clear hx0
  go_wp2_with (at_builtin; refine append_copy rfl _ _ rfl rfl rfl hp2 (by decide) ?_; intro v3 w3 own3 b3; obtain ⟨gp, cp, rfl, hgp, hltp⟩ := own_row own3 (by decide); have hrow3 := (b3.block g hlt2).trans hrow2; have hc3 : w3.cell? ⟨g, k, none⟩ = some (.int .u8 ((hL.getD k 0 : Nat) : Int)) := (cell_of_row _ _ k _ _ _ hrow3).trans ((List.getElem?_toArray).trans (bts_get hL k (by rw [HLN.out]; exact hk))); have hf3 : w3.frozen? ⟨g, k, none⟩ = false := frozen_of_row _ _ _ _ _ hrow3; have e1 := u8_xor_nat (hL.getD k 0) x (HHS.out.get k) hx; generalize hyx : hL.getD k 0 ^^^ x = y at *; generalize hx1 : hL.getD k 0 = x1 at *)
  have O4 := only_set w3 g k (.int .u8 (y : Int))
  have hrow4 : (w3.setCell ⟨g, k, none⟩ (.int .u8 (y : Int))).heap[g]? = some (.cells (bts (hL.set k y)).toArray 5 (0, 0)) := by
    have h1 := cells_set (i := k) (.int .u8 (y : Int)) hrow3
    rw [List.setIfInBounds_toArray] at h1
    rw [h1]
    simp [bts]
  have hle : w.heap.size ≤ g := Nat.le_trans (Nat.le_of_lt z0) hg
  have hb4 := only_row_below' (hb2.trans (b3.mono (Nat.le_of_lt z2))) O4 hle (Nat.le_refl _)
  have hne : gp ≠ g := by omega
  have rp4 := reads_only (Reads.of_own own3) O4 (fun x hx => by injection hx with hx; subst hx; exact hne)
  have hlt4 : g < (w3.setCell ⟨g, k, none⟩ (.int .u8 (y : Int))).heap.size := (Array.getElem?_eq_some_iff.1 hrow4).1
  have hy : y < 256 := by rw [← hyx]; exact Nums.xor_lt_256 (by rw [← hx1]; exact HHS.out.get k) hx
  have hsm : Small (hL.set k y) := fun u hu => by
    rcases List.mem_or_eq_of_mem_set hu with h | h
    · exact HHS.out u h
    · rw [h]; exact hy
  have rh4 : Reads (w3.setCell ⟨g, k, none⟩ (.int .u8 (y : Int))) (w3.setCell ⟨g, k, none⟩ (.int .u8 (y : Int))).heap.size (some ⟨g, 0, none⟩) 128 (bts (hL.set k y)) := by
    refine ⟨(bts_length _).trans ((List.length_set ..).trans HLN.out), fun _ => ⟨_, rfl, hlt4, fun j u hu => ?_⟩⟩
    rw [add_plain, Nat.zero_add, cell_of_row _ _ j _ _ _ hrow4, List.getElem?_toArray]
    exact hu
  have A4 := hA.over hb4
  have QD := Lib.hid (decode_any (some ⟨g, 0, none⟩) (some ⟨gp, 0, none⟩) 128 128 128 cp (hL.set k y) l _ hsm hl rh4 rp4 (by decide) (by decide) A4.tabs A4.fld)
  have hoff : okD (hL.set k y) l 128 = false := by
    rw [← HHQ.out]
    refine not_head hk hy ?_
    rw [HHQ.out, hx1, ← hyx]
    exact xor_ne HX0.out
  rw [hoff] at QD
  have HB4 := Lib.hid hb4
  clear hoff rh4 rp4 hrow4 O4 hrow3 hc3 hf3 own3 b3 A4 hb4 hlt4 hyx hx1 k0 k1 k2
  generalize w3.setCell ⟨g, k, none⟩ (.int .u8 (y : Int)) = W4 at *
  refine QD.out.mono ?_
  rintro e w5 (⟨_, rfl, b5⟩ | ⟨h0, _⟩)
  rotate_left
  · cases h0
  have HB5 := Lib.hid ((HB4.out.trans (b5.mono HB4.out.size)).alloc (Nat.le_trans HB4.out.size b5.size) (.cells #[.int .i64 0, .int .i64 0, .slice none 0 0] 24))
  clear b5 QD
  go_wp2_with fail
  go_ret
  exact ⟨rfl, HB5.out⟩

set_option maxRecDepth 20000 in
set_option maxHeartbeats 4000000 in
theorem walk_part {w : World} (a b : Nat) (ha : a < 1024) (hb : b < 15) (ad : Addr) (c : Nat) (l : List Nat) (hl : Small l) (hr : Reads w w.heap.size (some ad) 128 (bts l)) (hA : All w) (k x : Nat) (hk1 : 128 ≤ k) (hk : k < 256) (hx : x < 256) (hx0 : x ≠ 0) :
    Calls Tryd.prog 5 #[.agg #[.int .i64 a, .int .i64 b, .slice (some ad) 128 c], .int .i64 k, .int .u8 x] w fun e w' => e = .returned (.bool true) ∧ Below w.heap.size w w' := by
  have q1 : ((x : Int) == 0) = false := by rw [beq_eq_false_iff_ne]; omega
  have q2 : decide ((k : Int) < 0) = false := by simp
  have q3 : decide (255 < (k : Int)) = false := by simp; omega
  have hb0 : Below w.heap.size w (w.alloc (.cells #[.int .i64 a, .int .i64 b, .slice (some ad) 128 c] 24)) := (Below.refl _ _).alloc (Nat.le_refl _) _
  have r0 := heap_alloc_new w (.cells #[.int .i64 a, .int .i64 b, .slice (some ad) 128 c] 24)
  have z0 : w.heap.size < (w.alloc (.cells #[.int .i64 a, .int .i64 b, .slice (some ad) 128 c] 24)).heap.size := by simp
  have A0 := hA.over hb0
  have QE := Lib.hid (encode_ok a b ha hb (some ad) c l _ hl ((hr.below hb0).more hb0.size) A0.tabs A0.fld)
  have HHS := Lib.hid (headL_small (numF a b (Nums.sum 0 l)))
  have HLN := Lib.hid (headL_length (numF a b (Nums.sum 0 l)))
  obtain ⟨k0, k1, k2, _⟩ := cells3_of r0
  go_enter Tryd.func5, Tryd.ntmps5
  go_wp2_with fail
  generalize w.alloc (.cells #[.int .i64 a, .int .i64 b, .slice (some ad) 128 c] 24) = W0 at *
  generalize hhq : headL (numF a b (Nums.sum 0 l)) = hL at *
  have HHQ := Lib.hid hhq
  clear hhq
  refine QE.out.mono ?_
  rintro e w1 ⟨v, rfl, g, rfl, hg, hrow, b1⟩
  have A1 := A0.over b1
  have hb1 := hb0.trans (b1.mono (Nat.le_of_lt z0))
  have r1 := (b1.block w.heap.size z0).trans r0
  have z1 := Nat.lt_of_lt_of_le z0 b1.size
  have hlt : g < w1.heap.size := (Array.getElem?_eq_some_iff.1 hrow).1
  clear k0 k1 k2 r0
  go_wp2_with fail
  refine (lives_true w1 A1.tabs A1.fld).mono ?_
  rintro e w2 ⟨rfl, b2⟩
  have A2 := A1.over b2
  have hb2 := hb1.trans (b2.mono (Nat.le_of_lt z1))
  have r2 := (b2.block w.heap.size z1).trans r1
  have z2 := Nat.lt_of_lt_of_le z1 b2.size
  have hrow2 := (b2.block g hlt).trans hrow
  have hp2 := (hr.below hb2).more hb2.size
  have hlt2 := Nat.lt_of_lt_of_le hlt b2.size
  clear r1 A1 hrow
  have q4 : decide ((k : Int) < 128) = false := by simp; omega
  obtain ⟨j, hkj⟩ : ∃ j, k = 128 + j := ⟨k - 128, by omega⟩
  have hj : j < 128 := by omega
  have e0 : (k : Int) - 128 = (j : Int) := by omega
  obtain ⟨k0, k1, k2, _⟩ := cells3_of r2
  have hll := hr.len
  have HX0 := Lib.hid hx0
  clear hx0 hkj hk1 hk
  go_wp2_with (at_builtin; refine append_copy rfl _ _ rfl rfl rfl hp2 (by decide) ?_; intro v3 w3 own3 b3; obtain ⟨gp, cp, rfl, hgp, hltp⟩ := own_row own3 (by decide); have hc3 := own3.cellAt j hj; rw [bts_get _ _ (by rw [hll]; exact hj)] at hc3; have hf3 := own3.frozenAt j; have e1 := u8_xor_nat (l.getD j 0) x (hl.get j) hx; generalize hyx : l.getD j 0 ^^^ x = y at *; generalize hx1 : l.getD j 0 = x1 at *)
  have hst := (own3.stored j (.int .u8 (y : Int))).1
  have hrow3 := (b3.block g hlt2).trans hrow2
  have O4 := only_set w3 gp j (.int .u8 (y : Int))
  have hne : g ≠ gp := by omega
  have hrow4 := (O4.block g (Nat.lt_of_lt_of_le hlt2 b3.size) hne).trans hrow3
  have hle : w.heap.size ≤ gp := by omega
  have hb4 := only_row_below' (hb2.trans (b3.mono (Nat.le_of_lt z2))) O4 hle (Nat.le_refl _)
  have hlt4 : g < (w3.setCell ⟨gp, j, none⟩ (.int .u8 (y : Int))).heap.size := (Array.getElem?_eq_some_iff.1 hrow4).1
  have hy : y < 256 := by rw [← hyx]; exact Nums.xor_lt_256 (by rw [← hx1]; exact hl.get j) hx
  have hsm : Small (l.set j y) := fun u hu => by
    rcases List.mem_or_eq_of_mem_set hu with h | h
    · exact hl u h
    · rw [h]; exact hy
  have rh4 : Reads (w3.setCell ⟨gp, j, none⟩ (.int .u8 (y : Int))) (w3.setCell ⟨gp, j, none⟩ (.int .u8 (y : Int))).heap.size (some ⟨g, 0, none⟩) 128 (bts hL) := by
    refine ⟨(bts_length _).trans HLN.out, fun _ => ⟨_, rfl, hlt4, fun j u hu => ?_⟩⟩
    rw [add_plain, Nat.zero_add, cell_of_row _ _ j _ _ _ hrow4, List.getElem?_toArray]
    exact hu
  have hbs : (bts l).set j (.int .u8 (y : Int)) = bts (l.set j y) := by simp [bts]
  rw [hbs] at hst
  have A4 := hA.over hb4
  have QD := Lib.hid (decode_any (some ⟨g, 0, none⟩) (some ⟨gp, 0, none⟩) 128 128 128 cp hL (l.set j y) _ HHS.out hsm rh4 (Reads.of_own hst) (by decide) (by decide) A4.tabs A4.fld)
  have hoff : okD hL (l.set j y) 128 = false := by
    rw [← HHQ.out]
    refine not_part ha hb hl (by rw [hll]; exact hj) hy ?_
    rw [hx1, ← hyx]
    exact xor_ne HX0.out
  rw [hoff] at QD
  have HB4 := Lib.hid hb4
  clear hoff rh4 hst hrow4 O4 hrow3 hc3 hf3 own3 b3 A4 hb4 hlt4 hyx hx1 k0 k1 k2
  generalize w3.setCell ⟨gp, j, none⟩ (.int .u8 (y : Int)) = W4 at *
  refine QD.out.mono ?_
  rintro e w5 (⟨_, rfl, b5⟩ | ⟨h0, _⟩)
  rotate_left
  · cases h0
  have HB5 := Lib.hid ((HB4.out.trans (b5.mono HB4.out.size)).alloc (Nat.le_trans HB4.out.size b5.size) (.cells #[.int .i64 0, .int .i64 0, .slice none 0 0] 24))
  clear b5 QD
  go_wp2_with fail
  go_ret
  exact ⟨rfl, HB5.out⟩

theorem walk {w : World} (z : RecV) (hz : RecOk w z) (_ : z.n ≤ 140737488351232) (i : Int) (_ : -9223372036854775808 ≤ i) (_ : i ≤ 9223372036854775807) (x : Nat) (hx : x < 256) (hA : All w) :
    Calls Tryd.prog 5 #[z.val, .int .i64 i, .int .u8 x] w fun e w' => e = .returned (.bool true) ∧ Below w.heap.size w w' := by
  obtain ⟨s, q, A, n, c, l⟩ := z
  obtain ⟨hs, hq, hl, hr, hn⟩ := hz
  dsimp only at hs hq hl hr hn
  unfold RecV.val
  dsimp only
  cases hm : mayB s q n
  · exact walk_no s q A n c l i x hx hl hr hn hA hm
  · obtain ⟨rfl, h1, h2⟩ := (mayB_iff hs hq).1 hm
    obtain ⟨a, rfl⟩ := nat_of h1.1
    obtain ⟨b, rfl⟩ := nat_of h2.1
    obtain ⟨ad, rfl, _, _⟩ := hr.2 (by decide)
    by_cases ho : x = 0 ∨ i < 0 ∨ 255 < i
    · exact walk_out a b (by omega) (by omega) ad c l hl hr hA i x hx ho
    · have hx0 : x ≠ 0 := fun e => ho (.inl e)
      have hi : 0 ≤ i ∧ i ≤ 255 := by omega
      obtain ⟨k, rfl⟩ := nat_of hi.1
      by_cases hk : k < 128
      · exact walk_head a b (by omega) (by omega) ad c l hl hr hA k x hk hx hx0
      · exact walk_part a b (by omega) (by omega) ad c l hl hr hA k x (by omega) (by omega) hx hx0
set_option maxRecDepth 100000 in
/-- WHAT THE WALK GIVES, FOR EVERY ARGUMENT AND EVERY WORLD THAT HOLDS THE TABLES. -/
theorem contract (H : Type) (enc : TypeId × Value → H) (W : World) (base : Nat) (args : Array Value) (ds gs : List (DataW H)) (before : List MemPlace)
    (hval : ∀ (j : Nat) t v, Tryd.f5.params[j]? = some t → args[j]? = some v → Value.okWide Tryd.prog W .any base t v)
    (hW : DataW.Whole enc Tryd.prog Tryd.f5.params.toList Rows.pplTurnedSpec.vars false W args.toList ds gs before)
    (hsz : (DataW.weightsEach Tryd.prog (Tryd.f5.params.toList ++ (OpenSpec.ofChange Rows.pplTurnedSpec).bare.plain.varTypes Tryd.prog) (ds ++ gs)).all (· ≤ reachBytes) = true) (hL : laidMetH Tryd.prog laidBoth W) :
    Calls Tryd.prog 5 args W fun e W' => ∃ v, e = .returned v ∧ Rows.pplTurnedSpec.post enc Tryd.prog Tryd.f5 false true false false W args v W' := by
  have hW' := hW
  obtain ⟨p, q, hA0, hV, rfl, hfz, hnd⟩ := hW
  have hA : DataW.TrodAll enc Tryd.prog W 0 (fun _ => true) true Tryd.f5.params.toList args.toList ds p := hA0
  have hsz2 : (DataW.weightsEach Tryd.prog (Tryd.f5.params.toList ++ []) (ds ++ gs)).all (· ≤ reachBytes) = true := hsz
  rw [Tryd.params5] at hA hval hsz2
  obtain ⟨v0, vs0, d0, ds0, p0, q0, hargs, rfl, rfl, h0, r0⟩ := trodAll_cons hA
  obtain ⟨v1, vs1, d1, ds1, p1, q1, rfl, rfl, rfl, h1, r1⟩ := trodAll_cons r0
  obtain ⟨v2, vs2, d2, ds2, p2, q2, rfl, rfl, rfl, h2, r2⟩ := trodAll_cons r1
  obtain ⟨rfl, rfl, rfl⟩ := trodAll_nil r2
  obtain rfl : args = #[v0, v1, v2] := by cases args; simp_all
  obtain ⟨rfl, rfl⟩ := trodVars_none hV
  have k0 := h0
  have lt0 : ∀ x ∈ p0, x.block < W.heap.size := by obtain ⟨m, hm⟩ := k0; exact DataW.trod_lt m _ _ _ hm
  have hw0 : ∀ m ∈ d0.weights Tryd.prog 24, m ≤ reachBytes := fun m hm => by simpa using List.all_eq_true.1 hsz2 m (DataW.weights_mem_each (j := 0) (t := 24) rfl rfl m hm)
  obtain ⟨z0, rfl, zf0, zb0⟩ := rec_came (hval 0 24 v0 rfl rfl) h0 hw0
  obtain ⟨a1, rfl, rfl, rfl, w1⟩ := open_int Tryd.underlying3 (hval 1 3 v1 rfl rfl) h1
  have bd1 := bounds_i64 w1
  obtain ⟨a2, rfl, rfl, rfl, w2⟩ := open_int Tryd.underlying5 (hval 2 5 v2 rfl rfl) h2
  have bd2 := bounds_u8 w2
  obtain ⟨m2, hm2⟩ : ∃ m : Nat, a2 = (m : Int) := ⟨a2.toNat, by omega⟩
  have hT := tabs_of_laid hL
  subst hm2
  refine (walk z0 zf0 zb0 a1 bd1.1 bd1.2 m2 (by omega) hT).mono fun e W' ⟨he, bel⟩ => ?_
  subst he
  exact ⟨_, rfl, _, _, _, [], _, [], hW', trodAll_mk1 (shut_bool Tryd.underlying4 _), (trodAll_cons_mk (Below.trod laidOut (by kernel_rfl) (of_decide_eq_true (by kernel_rfl)) k0 bel lt0) (trodAll_cons_mk (shut_int Tryd.underlying3 w1) (trodAll_cons_mk (shut_int Tryd.underlying5 w2) trodAll_mk0))), rfl, bel.frame _, fun h => by cases h⟩

theorem laid_met (os : Os) : laidMetH Tryd.prog laidBoth ((laidWorld os).forCall (fun _ _ => 0) ⟨#[], #[.agg #[.int .i64 0, .int .i64 0, .slice none 0 0], .int .i64 0, .int .u8 0], []⟩).memory :=
  laidMetH_of_parts3 (fuel := 8) (laidMet_of_run' 8 (by kernel_rfl) (by kernel_rfl)) (by kernel_rfl) (by kernel_rfl)
theorem reads (os : Os) {H : Type} (enc : TypeId × Value → H) : ∃ places, DataW.whole enc Tryd.prog ((laidWorld os).forCall (fun _ _ => 0) ⟨#[], #[.agg #[.int .i64 0, .int .i64 0, .slice none 0 0], .int .i64 0, .int .u8 0], []⟩).memory Tryd.f5.params.toList Rows.pplTurnedSpec.vars false (#[.agg #[.int .i64 0, .int .i64 0, .slice none 0 0], .int .i64 0, .int .u8 0] : Array Value).toList 8 = some ([.agg [.lit (.int .i64 0), .lit (.int .i64 0), .nil], .lit (.int .i64 0), .lit (.int .u8 0)], [], places) :=
  ⟨[], by kernel_rfl⟩
set_option maxRecDepth 100000 in
theorem lifted (os : Os) (started : os.Started) (H : Type) (enc : TypeId × Value → H) (F : Stop.Interp) :
    ReturnsInHanded {} Tryd.checked os 5 .any ((OpenSpec.ofChange Rows.pplTurnedSpec).preRow enc Tryd.prog Tryd.f5 Rows.pplTurnedRow.domain false Rows.pplTurnedRow.laid) (((OpenSpec.ofChange Rows.pplTurnedSpec).at F).post enc Tryd.prog Tryd.f5 false true false false) := by
  obtain ⟨places, hx⟩ := reads os enc
  refine returnsInHanded_of_row (C := Tryd.checked) (s := (OpenSpec.ofChange Rows.pplTurnedSpec)) own started (by kernel_rfl) Tryd.func5
    (witness_row_at (enc := enc) (C := Tryd.checked) false (laidWorld os) #[.agg #[.int .i64 0, .int .i64 0, .slice none 0 0], .int .i64 0, .int .u8 0] rfl (by kernel_rfl) (by kernel_rfl) (by kernel_rfl)
      (OpenSpec.preRow_of_cond 8 hx (by kernel_rfl) (fun k hk => by cases hk) (by kernel_rfl) (laid_met os))) ?_
  intro W base args ds gs before hval hW _ hcond hsz hL _ _
  exact contract H enc W base args ds gs before hval hW hsz hL
theorem said : Rows.PplTurnedSaid :=
  OpenClaim.holds_of_cond 5 Tryd.f5 rfl rfl rfl rfl rfl rfl rfl ⟨rfl, rfl, rfl, rfl, rfl⟩ rfl rfl rfl rfl rfl (by kernel_rfl) Tryd.func5 (by kernel_rfl)
    (of_decide_eq_true (by kernel_rfl)) (by unfold Func.isWrapper; first | (rw [if_pos (by decide +kernel)]; kernel_rfl) | (rw [if_neg (by decide +kernel)]; exact ⟨rfl, rfl⟩))
    (fun os started H enc _ F => by rw [OpenClaim.pre_eq_preRow]; exact lifted os started H enc F)
theorem plain (f : FuncId) (fn : Func) (hf : Tryd.pinned.checked.prog.funcNamed "ashlar/ashlarlaw07.PplTurned" = some f) (hfn : Tryd.pinned.checked.prog.funcs[f]? = some fn) :
    false = Tryd.pinned.checked.prog.looks [] ∧ ∀ (j : Nat) t, fn.params[j]? = some t → Tryd.pinned.checked.prog.wantsStandIn t = false := by
  obtain rfl : f = 5 := Option.some.inj ((show Tryd.prog.funcNamed "ashlar/ashlarlaw07.PplTurned" = some 5 by kernel_rfl).symm.trans hf) |>.symm
  obtain rfl : fn = Tryd.f5 := (Option.some.inj (Tryd.func5.symm.trans hfn)).symm
  refine ⟨by kernel_rfl, fun j t ht => ?_⟩
  rw [Tryd.params5] at ht
  have hm : t ∈ [24, 3, 5] := by simpa using Array.mem_of_getElem? ht
  have hall : ([24, 3, 5].all fun u => !Tryd.prog.wantsStandIn u) = true := by kernel_rfl
  exact (show Tryd.prog.wantsStandIn t = false by simpa using List.all_eq_true.1 hall t hm)

/-- ████ THE CARD ████ -/
theorem card : Rows.PplTurnedCardSaid :=
  Claim7.holds_tied_plain_at .later [] _ _ _ _ said (fun _ h => by cases h) (by kernel_rfl) (fun _ h => by cases h) pplTurned_row_tie rfl ⟨rfl, rfl⟩ (by kernel_rfl) rfl plain (by kernel_rfl)
end Go.Proofs.YtohdieddocogkaaDoor.U.pplTurned
