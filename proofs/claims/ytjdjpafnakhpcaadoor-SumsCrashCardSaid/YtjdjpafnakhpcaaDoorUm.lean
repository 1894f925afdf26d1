/-
  The contracts of slices.Clone at bytes, and of sectorWith: a sector of sums with other ones for a block.
  Conditions: each theorem's own.
-/
import Derived.Test.YtjdjpafnakhpcaaDoorUl
import Derived.Shelf.SlicesE.Clone
import Derived.IntWalk
namespace Go.Proofs.YtjdjpafnakhpcaaDoor.U
open Go.RowKit Go.Maps Go.Shelf

def cloneRenB : Go.Shelf.Ren := ⟨fun | 41 => 102 | n => n, fun | 4 => 4 | 22 => 28 | 23 => 5 | n => n, fun | n => n⟩
theorem cloneLaysB : Go.Proofs.SlLaysE0.n41 Tryd.prog cloneRenB := {
  mixed := by kernel_rfl
  f41 := ⟨(Tryd.f102).name, by kernel_rfl, Tryd.func102.trans (congrArg some (by kernel_rfl))⟩
  t4 := Tryd.underlying4
  a4 := Tryd.isAgg4
  z4 := Tryd.sizeOf4
  v4 := Tryd.zeroValue4
  t22 := Tryd.underlying28
  a22 := Tryd.isAgg28
  z22 := Tryd.sizeOf28
  v22 := Tryd.zeroValue28 }
/-- A row of bytes, with whatever lies behind the first ones. -/
def RowB (w : World) (g : Nat) (l : List Nat) (rest : List Value) : Prop := w.heap[g]? = some (.cells (bts l ++ rest).toArray 5 (0, 0))
theorem RowB.lt {w : World} {g : Nat} {l : List Nat} {rest : List Value} (h : RowB w g l rest) : g < w.heap.size := (Array.getElem?_eq_some_iff.1 h).1
theorem RowB.reads {w : World} {g : Nat} {l : List Nat} {rest : List Value} (h : RowB w g l rest) (hl : l.length = 128) : Reads w w.heap.size (some ⟨g, 0, none⟩) 128 (bts l) := by
  refine ⟨by rw [bts_length, hl], fun _ => ⟨_, rfl, h.lt, fun j u hu => ?_⟩⟩
  have e : (⟨g, 0, none⟩ : Addr).add j = ⟨g, j, none⟩ := by unfold Addr.add; split <;> simp_all
  rw [e, cell_of_row _ _ j _ _ _ h, List.getElem?_toArray, List.getElem?_append_left (Array.getElem?_eq_some_iff.1 (by simpa using hu)).1]
  exact hu
theorem RowB.same {w w' : World} {g : Nat} {l : List Nat} {rest : List Value} (h : RowB w g l rest) (hk : w'.heap[g]? = w.heap[g]?) : RowB w' g l rest := hk.trans h
theorem splice_row (l c : List Nat) (rest : List Value) (i : Nat) (h : i + c.length ≤ l.length) : splice (bts l ++ rest) i (bts c) = bts (putAt l i c) ++ rest := by
  rw [← putAt_bts]
  unfold splice
  rw [List.take_append_of_le_length (by rw [bts_length]; omega), List.drop_append_of_le_length (by rw [bts_length, bts_length]; omega)]
  simp
theorem info_u8p : (Tryd.prog.info? 5).map (fun i => (i.zero, i.size, i.bytes)) = some (some (.int .u8 0), 1, 1) := by kernel_rfl
theorem info_u8s : (Tryd.prog.info? 5).map (·.size) = some 1 := by kernel_rfl
theorem clone_bytes (w : World) (b c : Nat) {l : Sh.Bs} (hl : l.length = 128) (hr : Reads w w.heap.size (some ⟨b, 0, none⟩) 128 (bts l)) :
    Calls Tryd.prog 102 #[.slice (some ⟨b, 0, none⟩) 128 c] w fun e w' => ∃ g c' rest, e = .returned (.slice (some ⟨g, 0, none⟩) 128 c') ∧ 128 ≤ c' ∧ c' ≤ maxLen ∧ w.heap.size ≤ g ∧ RowB w' g l rest ∧ Below w.heap.size w w' := by
  obtain ⟨i0, hi, hz0, hz1, hz2⟩ := info_parts info_u8p
  obtain ⟨ad, e, _, hc⟩ := hr.2 (by decide)
  obtain rfl : (⟨b, 0, none⟩ : Addr) = ad := Option.some.inj e
  refine (AnyE.slices_Clone cloneLaysB i0 _ 1 1 hi hz0 hz1 hz2 rfl (by decide) (fun w => Tryd.sizeOf5 w) b 0 128 c (bts l) w (by rw [bts_length, hl]) (by unfold maxLen; omega) (by omega) (fun j u hu => ?_) (bts_one l)).mono ?_
  · have := hc j u hu
    have e2 : (⟨b, 0, none⟩ : Addr).add j = ⟨b, 0 + j, none⟩ := by unfold Addr.add; split <;> simp_all
    rw [← e2]; exact this
  · rintro e' w' ⟨v', rfl, h1, _, h2⟩
    rcases h1.2 with ⟨_, h0⟩ | ⟨g, cap, cur, rfl, hg, hh, hn, hm, hs, ht⟩
    · exact absurd h0 (by decide)
    · refine ⟨g, cap, cur.toList.drop 128, rfl, hn, hm, hg, ?_, h2⟩
      have ht : cur.toList.take 128 = bts l := ht
      show w'.heap[g]? = some (.cells (bts l ++ cur.toList.drop 128).toArray 5 (0, 0))
      rw [hh, ← ht, List.take_append_drop]
      rfl
set_option maxRecDepth 20000 in
set_option maxHeartbeats 4000000 in
theorem with_any (k : Nat) (b1 c1 : Nat) (A2 : Option Addr) (c2 x0 y0 s x y : Nat) (l : Sh.Bs) (w : World) (hk : k ≤ 4096) (hl : l.length = 128) (hx : x < 4294967296) (hy : y < 4294967296) (hr : Reads w w.heap.size (some ⟨b1, 0, none⟩) 128 (bts l)) :
    Calls Tryd.prog 92 #[.agg (stV k (some ⟨b1, 0, none⟩) c1 A2 c2 x0 y0 s), .agg #[.int .u32 (x : Int), .int .u32 (y : Int)]] w fun e w' => ∃ g c rest, e = .returned (.slice (some ⟨g, 0, none⟩) 128 c) ∧ w.heap.size ≤ g ∧ RowB w' g (setPair l k x y) rest ∧ Below w.heap.size w w' := by
  obtain ⟨q0, q1, z0, b0⟩ := two_new' w (stV k (some ⟨b1, 0, none⟩) c1 A2 c2 x0 y0 s) #[.int .u32 (x : Int), .int .u32 (y : Int)] 110 108
  have hcl := Lib.hid (clone_bytes _ b1 c1 hl ((hr.below b0).more b0.size))
  have j0 := cell_of_row _ _ 0 _ _ _ q1
  have j1 := cell_of_row _ _ 1 _ _ _ q1
  obtain ⟨k0, _, _, k3, _⟩ := cells8_of q0
  have hpa := Lib.hid (pairAt_any k (by omega))
  have hn0 := Lib.hid (number_any x hx)
  have hn1 := Lib.hid (number_any y hy)
  have Hb0 := Lib.hid b0
  have Hz0 := Lib.hid z0
  have hs1 : setPair l k x y = putAt (putAt l (k % 16 * 8) (putL x 4)) (k % 16 * 8 + 4) (putL y 4) := rfl
  have hm : k % 16 * 8 ≤ 120 := by omega
  have hl1 : (putAt l (k % 16 * 8) (putL x 4)).length = 128 := by rw [putAt_length (by rw [putL_length]; omega), hl]
  have hi0 : ∀ W, (Instr.index 108 (.agg #[.int .u32 (x : Int), .int .u32 (y : Int)]) (.int .i64 0)).run Tryd.prog W = .ok (.int .u32 (x : Int)) W := fun W => by kernel_rfl
  have hi1 : ∀ W, (Instr.index 108 (.agg #[.int .u32 (x : Int), .int .u32 (y : Int)]) (.int .i64 1)).run Tryd.prog W = .ok (.int .u32 (y : Int)) W := fun W => by kernel_rfl
  clear q0 q1 z0 b0 hr
  have HS0 := Lib.hid (splice_row l (putL x 4) · (k % 16 * 8) (by rw [putL_length]; omega))
  have HS2 := Lib.hid (splice_row (putAt l (k % 16 * 8) (putL x 4)) (putL y 4) · (k % 16 * 8 + 4) (by rw [putL_length]; omega))
  rw [← hs1] at HS2
  clear hs1
  generalize putAt l (k % 16 * 8) (putL x 4) = l1 at *
  generalize k % 16 * 8 = m at *
  unfold stV at *
  generalize sumOf k = z1 at *
  generalize dataOf k = z2 at *
  go_enter Tryd.func92, Tryd.ntmps92
  go_wp2_with fail
  generalize ((w.alloc (.cells #[.int .i64 (k : Int), .int .i64 (z1 : Int), .int .i64 (z2 : Int), .slice (some ⟨b1, 0, none⟩) 128 c1, .slice A2 128 c2, .int .u32 (x0 : Int), .int .u32 (y0 : Int), .int .u32 (s : Int)] 110)).alloc (.cells #[.int .u32 (x : Int), .int .u32 (y : Int)] 108)) = W0 at *
  refine hcl.out.mono ?_
  rintro e w1 ⟨g, c, rest, rfl, hc1, hcm, hg, hrow, hb1⟩
  have m0 := (hb1.cell (p := ⟨w.heap.size, 0, none⟩) (by have := Hz0.out; show w.heap.size < _; omega)).trans k0
  have n0 := (hb1.cell (p := ⟨w.heap.size + 1, 0, none⟩) (by have := Hz0.out; show w.heap.size + 1 < _; omega)).trans j0
  have n1 := (hb1.cell (p := ⟨w.heap.size + 1, 1, none⟩) (by have := Hz0.out; show w.heap.size + 1 < _; omega)).trans j1
  have HB1 := Lib.hid (Hb0.out.trans (hb1.mono (by have := Hz0.out; omega)))
  have hgw : w.heap.size + 1 < g := by have := Hz0.out; omega
  clear k0 k3 j0 j1 hcl hb1
  go_wp2_with fail
  go_loopw [12] (fun s12 wr => ∃ j : Nat, j ≤ 2 ∧ s12 = .int .i64 j ∧ wr.cell? ⟨w.heap.size, 0, none⟩ = some (.int .i64 (k : Int)) ∧ Below w.heap.size w wr ∧ RowB wr g (if j = 0 then l else if j = 1 then l1 else setPair l k x y) rest) (fun i _ => 2 - (intOf i).toNat)
  case atStart => exact ⟨0, by decide, rfl, m0, HB1.out, hrow⟩
  case round =>
    clear m0 n0 n1 hrow HB1
    obtain ⟨j, hj, rfl, m0, hb, hrow⟩ := hrel
    have hgr : g < wr.heap.size := hrow.lt
    have hltr : w.heap.size < wr.heap.size := by omega
    rcases (show j = 0 ∨ j = 1 ∨ j = 2 by omega) with rfl | rfl | rfl
    · have hrow : RowB wr g l rest := hrow
      go_wp2_with fail
      have e1 : IntKind.i64.wrap (0 : Int) = 0 := by rfl
      have e2 : IntKind.i64.wrap (m : Int) = m := IntWalk.i64_in _ (by omega)
      have e3 : (m : Int) ≤ 128 := by omega
      have e4 : (c = m) = False := by simp; omega
      refine wp_region_held_drew (S := fun (W' : World) => W'.cell? ⟨w.heap.size, 0, none⟩ = some (.int .i64 (k : Int))) (by kernel_rfl) m0 (fun hHeld => ?_)
      refine wpAnyH_take (i := 0) (oi := ⟨some 16, _, _, _, _, _⟩) (v := ?_) rfl (by kernel_rfl) (by kernel_rfl) (by kernel_rfl) (fun _ _ _ h => h) (Or.inl ⟨by rfl, ?_⟩) (by assumption) ?_
      rotate_left
      · (intro w hSw; (try dsimp only at hSw); go_simp; first | done | with_reducible rfl)
      try simp only [Act.put, List.setIfInBounds_toArray, List.set_cons_zero, List.set_cons_succ]
      refine wpAnyH_take (i := 1) (oi := ⟨some 17, _, _, _, _, _⟩) (v := ?_) rfl (by kernel_rfl) (by kernel_rfl) (by kernel_rfl) (fun _ _ _ h => h) (Or.inl ⟨by rfl, ?_⟩) (by assumption) ?_
      rotate_left
      · (intro w hSw; (try dsimp only at hSw); go_simp; first | done | with_reducible rfl)
      try simp only [Act.put, List.setIfInBounds_toArray, List.set_cons_zero, List.set_cons_succ]
      refine wpAnyH_take (i := 2) (oi := ⟨some 18, _, _, _, _, _⟩) (v := ?_) rfl (by kernel_rfl) (by kernel_rfl) (by kernel_rfl) (fun _ _ _ h => h) (Or.inl ⟨by rfl, ?_⟩) (by assumption) ?_
      rotate_left
      · (intro w hSw; (try dsimp only at hSw); go_simp; first | done | with_reducible rfl)
      try simp only [Act.put, List.setIfInBounds_toArray, List.set_cons_zero, List.set_cons_succ]
      refine wpAnyH_take (i := 4) (oi := ⟨some 20, _, _, _, _, _⟩) (v := ?_) rfl (by kernel_rfl) (by kernel_rfl) (by kernel_rfl) (fun _ _ _ h => h) (Or.inl ⟨by rfl, ?_⟩) (by assumption) ?_
      rotate_left
      · (intro w hSw; (try dsimp only at hSw); go_simp; first | done | with_reducible rfl)
      try simp only [Act.put, List.setIfInBounds_toArray, List.set_cons_zero, List.set_cons_succ]
      refine wpAnyH_take (i := 5) (oi := ⟨some 21, _, _, _, _, _⟩) (v := ?_) rfl (by kernel_rfl) (by kernel_rfl) (by kernel_rfl) (fun _ _ _ h => h) (Or.inl ⟨by rfl, ?_⟩) (by assumption) ?_
      rotate_left
      · (intro w hSw; (try dsimp only at hSw); go_simp; first | done | with_reducible rfl)
      try simp only [Act.put, List.setIfInBounds_toArray, List.set_cons_zero, List.set_cons_succ]
      refine wpAnyH_take (i := 8) (oi := ⟨some 24, _, _, _, _, _⟩) (v := ?_) rfl (by kernel_rfl) (by kernel_rfl) (by kernel_rfl) (fun _ _ _ h => h) (Or.inl ⟨by rfl, ?_⟩) (by assumption) ?_
      rotate_left
      · (intro w hSw; (try dsimp only at hSw); go_simp; first | done | with_reducible rfl)
      try simp only [Act.put, List.setIfInBounds_toArray, List.set_cons_zero, List.set_cons_succ]
      refine wpAnyH_ready (rs := [3]) (by kernel_rfl) (by simp) ?_
      refine AllReadyH.cons (o := ⟨some 19, _, _, _, _, _⟩) rfl (fun K hK => ?_) AllReadyH.nil
      go_simp
      refine (hpa.out _).mono ?_
      rintro e w' ⟨rfl, rfl⟩
      refine hK.out _ _ (hHeld) (fun hHeld => ?_)
      clear hK K
      try simp only [Act.put, List.setIfInBounds_toArray, List.set_cons_zero, List.set_cons_succ]
      refine wpAnyH_take (i := 6) (oi := ⟨some 22, _, _, _, _, _⟩) (v := ?_) rfl (by kernel_rfl) (by kernel_rfl) (by kernel_rfl) (fun _ _ _ h => h) (Or.inl ⟨by rfl, ?_⟩) (by assumption) ?_
      rotate_left
      · (intro w hSw; (try dsimp only at hSw); go_simp; first | done | with_reducible rfl)
      try simp only [Act.put, List.setIfInBounds_toArray, List.set_cons_zero, List.set_cons_succ]
      refine wpAnyH_take (i := 7) (oi := ⟨some 23, _, _, _, _, _⟩) (v := ?_) rfl (by kernel_rfl) (by kernel_rfl) (by kernel_rfl) (fun _ _ _ h => h) (Or.inl ⟨by rfl, ?_⟩) (by assumption) ?_
      rotate_left
      · (intro w hSw; (try dsimp only at hSw); go_simp; first | done | with_reducible rfl)
      try simp only [Act.put, List.setIfInBounds_toArray, List.set_cons_zero, List.set_cons_succ]
      refine wpAnyH_ready (rs := [9]) (by kernel_rfl) (by simp) ?_
      refine AllReadyH.cons (o := ⟨some 25, _, _, _, _, _⟩) rfl (fun K hK => ?_) AllReadyH.nil
      go_simp
      refine (hn0.out _).mono ?_
      rintro e w3 ⟨A3, d3, rfl, r3, b3⟩
      refine hK.out _ _ ((b3.cell (p := ⟨w.heap.size, 0, none⟩) (show w.heap.size < wr.drew.heap.size from hltr)).trans m0) (fun hHeld => ?_)
      clear hK K
      try simp only [Act.put, List.setIfInBounds_toArray, List.set_cons_zero, List.set_cons_succ]
      have hb3 : Below wr.heap.size wr w3 := ⟨b3.os, b3.tape, b3.output, b3.size, b3.block⟩
      have hrow3 : RowB w3 g l rest := hrow.same (hb3.block g hgr)
      have HB3 := Lib.hid (hb.trans (hb3.mono (Nat.le_of_lt hltr)))
      have m3 : w3.cell? ⟨w.heap.size, 0, none⟩ = some (.int .i64 (k : Int)) := hHeld
      clear b3 hb3
      refine wpAnyH_ready (rs := [10]) (by kernel_rfl) (by simp) ?_
      refine AllReadyH.cons (o := ⟨some 26, _, _, _, _, _⟩) rfl (fun K hK => ?_) AllReadyH.nil
      obtain ⟨ad3, rfl, _, hc3⟩ := r3.2 (by decide)
      refine step_copy_splice rfl (.tmp 23) (.tmp 25) 28 28 rfl 5 Tryd.underlying28 info_u8s _ _ _ _ _ _ rfl rfl g m (bts l ++ rest) 5 hrow3 (bts (putL x 4)) (by rw [bts_length, putL_length]; exact (Nat.min_eq_left (by omega)).symm) (fun _ => ⟨rfl, ad3, rfl, hc3⟩) (by rw [bts_length, putL_length, List.length_append, bts_length, hl]; omega) (bts_one _) g w3 (Below.refl _ _) (Nat.le_refl _) ?_
      intro w4 hg4 hb4
      refine hK.out _ _ (?_) (fun hHeld => ?_)
      · exact (hb4.cell (p := ⟨w.heap.size, 0, none⟩) (show w.heap.size < g by omega)).trans m3
      clear hK K
      try simp only [Act.put, List.setIfInBounds_toArray, List.set_cons_zero, List.set_cons_succ]
      refine wpAnyH_done (by kernel_rfl) ?_ _
      have hm4 : w4.cell? ⟨w.heap.size, 0, none⟩ = some (.int .i64 (k : Int)) := hHeld
      have hrow4 : RowB w4 g l1 rest := by have e := hg4.out; rw [HS0.out] at e; exact e
      have HB4 := Lib.hid (HB3.out.trans (hb4.mono (show w.heap.size ≤ g by omega)))
      clear e1 e2 e3 e4 hHeld hg4 hb4 m3 hrow3
      go_wp2 
      go_roundw
      case rel => exact ⟨0 + 1, by decide, by rfl, hm4, HB4.out, hrow4⟩
      case measure => simp [intOf]
    · have hrow : RowB wr g l1 rest := hrow
      go_wp2_with fail
      have e1 : IntKind.i64.wrap (4 : Int) = 4 := by rfl
      have e2 : IntKind.i64.wrap ((m : Int) + 4) = m + 4 := IntWalk.i64_in _ (by omega)
      have e3 : (m : Int) + 4 ≤ 128 := by omega
      have e5 : 0 ≤ (m : Int) + 4 := by omega
      have e6 : ((m : Int) + 4).toNat = m + 4 := by omega
      have e4 : (c = m + 4) = False := by simp; omega
      refine wp_region_held_drew (S := fun (W' : World) => W'.cell? ⟨w.heap.size, 0, none⟩ = some (.int .i64 (k : Int))) (by kernel_rfl) m0 (fun hHeld => ?_)
      refine wpAnyH_take (i := 0) (oi := ⟨some 16, _, _, _, _, _⟩) (v := ?_) rfl (by kernel_rfl) (by kernel_rfl) (by kernel_rfl) (fun _ _ _ h => h) (Or.inl ⟨by rfl, ?_⟩) (by assumption) ?_
      rotate_left
      · (intro w hSw; (try dsimp only at hSw); go_simp; first | done | with_reducible rfl)
      try simp only [Act.put, List.setIfInBounds_toArray, List.set_cons_zero, List.set_cons_succ]
      refine wpAnyH_take (i := 1) (oi := ⟨some 17, _, _, _, _, _⟩) (v := ?_) rfl (by kernel_rfl) (by kernel_rfl) (by kernel_rfl) (fun _ _ _ h => h) (Or.inl ⟨by rfl, ?_⟩) (by assumption) ?_
      rotate_left
      · (intro w hSw; (try dsimp only at hSw); go_simp; first | done | with_reducible rfl)
      try simp only [Act.put, List.setIfInBounds_toArray, List.set_cons_zero, List.set_cons_succ]
      refine wpAnyH_take (i := 2) (oi := ⟨some 18, _, _, _, _, _⟩) (v := ?_) rfl (by kernel_rfl) (by kernel_rfl) (by kernel_rfl) (fun _ _ _ h => h) (Or.inl ⟨by rfl, ?_⟩) (by assumption) ?_
      rotate_left
      · (intro w hSw; (try dsimp only at hSw); go_simp; first | done | with_reducible rfl)
      try simp only [Act.put, List.setIfInBounds_toArray, List.set_cons_zero, List.set_cons_succ]
      refine wpAnyH_take (i := 4) (oi := ⟨some 20, _, _, _, _, _⟩) (v := ?_) rfl (by kernel_rfl) (by kernel_rfl) (by kernel_rfl) (fun _ _ _ h => h) (Or.inl ⟨by rfl, ?_⟩) (by assumption) ?_
      rotate_left
      · (intro w hSw; (try dsimp only at hSw); go_simp; first | done | with_reducible rfl)
      try simp only [Act.put, List.setIfInBounds_toArray, List.set_cons_zero, List.set_cons_succ]
      refine wpAnyH_take (i := 5) (oi := ⟨some 21, _, _, _, _, _⟩) (v := ?_) rfl (by kernel_rfl) (by kernel_rfl) (by kernel_rfl) (fun _ _ _ h => h) (Or.inl ⟨by rfl, ?_⟩) (by assumption) ?_
      rotate_left
      · (intro w hSw; (try dsimp only at hSw); go_simp; first | done | with_reducible rfl)
      try simp only [Act.put, List.setIfInBounds_toArray, List.set_cons_zero, List.set_cons_succ]
      refine wpAnyH_take (i := 8) (oi := ⟨some 24, _, _, _, _, _⟩) (v := ?_) rfl (by kernel_rfl) (by kernel_rfl) (by kernel_rfl) (fun _ _ _ h => h) (Or.inl ⟨by rfl, ?_⟩) (by assumption) ?_
      rotate_left
      · (intro w hSw; (try dsimp only at hSw); go_simp; first | done | with_reducible rfl)
      try simp only [Act.put, List.setIfInBounds_toArray, List.set_cons_zero, List.set_cons_succ]
      refine wpAnyH_ready (rs := [3]) (by kernel_rfl) (by simp) ?_
      refine AllReadyH.cons (o := ⟨some 19, _, _, _, _, _⟩) rfl (fun K hK => ?_) AllReadyH.nil
      go_simp
      refine (hpa.out _).mono ?_
      rintro e w' ⟨rfl, rfl⟩
      refine hK.out _ _ (hHeld) (fun hHeld => ?_)
      clear hK K
      try simp only [Act.put, List.setIfInBounds_toArray, List.set_cons_zero, List.set_cons_succ]
      refine wpAnyH_take (i := 6) (oi := ⟨some 22, _, _, _, _, _⟩) (v := ?_) rfl (by kernel_rfl) (by kernel_rfl) (by kernel_rfl) (fun _ _ _ h => h) (Or.inl ⟨by rfl, ?_⟩) (by assumption) ?_
      rotate_left
      · (intro w hSw; (try dsimp only at hSw); go_simp; first | done | with_reducible rfl)
      try simp only [Act.put, List.setIfInBounds_toArray, List.set_cons_zero, List.set_cons_succ]
      refine wpAnyH_take (i := 7) (oi := ⟨some 23, _, _, _, _, _⟩) (v := ?_) rfl (by kernel_rfl) (by kernel_rfl) (by kernel_rfl) (fun _ _ _ h => h) (Or.inl ⟨by rfl, ?_⟩) (by assumption) ?_
      rotate_left
      · (intro w hSw; (try dsimp only at hSw); go_simp; first | done | with_reducible rfl)
      try simp only [Act.put, List.setIfInBounds_toArray, List.set_cons_zero, List.set_cons_succ]
      refine wpAnyH_ready (rs := [9]) (by kernel_rfl) (by simp) ?_
      refine AllReadyH.cons (o := ⟨some 25, _, _, _, _, _⟩) rfl (fun K hK => ?_) AllReadyH.nil
      go_simp
      refine (hn1.out _).mono ?_
      rintro e w3 ⟨A3, d3, rfl, r3, b3⟩
      refine hK.out _ _ ((b3.cell (p := ⟨w.heap.size, 0, none⟩) (show w.heap.size < wr.drew.heap.size from hltr)).trans m0) (fun hHeld => ?_)
      clear hK K
      try simp only [Act.put, List.setIfInBounds_toArray, List.set_cons_zero, List.set_cons_succ]
      have hb3 : Below wr.heap.size wr w3 := ⟨b3.os, b3.tape, b3.output, b3.size, b3.block⟩
      have hrow3 : RowB w3 g l1 rest := hrow.same (hb3.block g hgr)
      have HB3 := Lib.hid (hb.trans (hb3.mono (Nat.le_of_lt hltr)))
      have m3 : w3.cell? ⟨w.heap.size, 0, none⟩ = some (.int .i64 (k : Int)) := hHeld
      clear b3 hb3
      refine wpAnyH_ready (rs := [10]) (by kernel_rfl) (by simp) ?_
      refine AllReadyH.cons (o := ⟨some 26, _, _, _, _, _⟩) rfl (fun K hK => ?_) AllReadyH.nil
      obtain ⟨ad3, rfl, _, hc3⟩ := r3.2 (by decide)
      refine step_copy_splice rfl (.tmp 23) (.tmp 25) 28 28 rfl 5 Tryd.underlying28 info_u8s _ _ _ _ _ _ rfl rfl g (m + 4) (bts l1 ++ rest) 5 hrow3 (bts (putL y 4)) (by rw [bts_length, putL_length]; exact (Nat.min_eq_left (by omega)).symm) (fun _ => ⟨rfl, ad3, rfl, hc3⟩) (by rw [bts_length, putL_length, List.length_append, bts_length, hl1]; omega) (bts_one _) g w3 (Below.refl _ _) (Nat.le_refl _) ?_
      intro w4 hg4 hb4
      refine hK.out _ _ (?_) (fun hHeld => ?_)
      · exact (hb4.cell (p := ⟨w.heap.size, 0, none⟩) (show w.heap.size < g by omega)).trans m3
      clear hK K
      try simp only [Act.put, List.setIfInBounds_toArray, List.set_cons_zero, List.set_cons_succ]
      refine wpAnyH_done (by kernel_rfl) ?_ _
      have hm4 : w4.cell? ⟨w.heap.size, 0, none⟩ = some (.int .i64 (k : Int)) := hHeld
      have hrow4 : RowB w4 g (setPair l k x y) rest := by have e := hg4.out; rw [HS2.out] at e; exact e
      have HB4 := Lib.hid (HB3.out.trans (hb4.mono (show w.heap.size ≤ g by omega)))
      clear e1 e2 e3 e4 e5 e6 hHeld hg4 hb4 m3 hrow3
      go_wp2 
      go_roundw
      case rel => exact ⟨1 + 1, by decide, by rfl, hm4, HB4.out, hrow4⟩
      case measure => simp [intOf]
    · have hrow : RowB wr g (setPair l k x y) rest := hrow
      go_wp2
      go_ret
      exact ⟨g, c, rest, rfl, by omega, hrow, hb⟩
end Go.Proofs.YtjdjpafnakhpcaaDoor.U
