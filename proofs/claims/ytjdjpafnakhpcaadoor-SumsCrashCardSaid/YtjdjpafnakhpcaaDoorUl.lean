/-
  The contracts of Read: what it refuses, a bad block, a good one.
  Conditions: each theorem's own.
-/
import Derived.Test.YtjdjpafnakhpcaaDoorUk
namespace Go.Proofs.YtjdjpafnakhpcaaDoor.U
open Go.RowKit Go.Maps

section
variable {B : Nat} {W w : World} {a p d : Nat} {o : Int} {S : Sh.Sf} {F : Nat → Prop}
/-- What Read tells of a block that is good or is not. -/
def ReadAs (w : World) (g : Bool) (X : Sh.Bs) (e : Ending) (w' : World) : Prop := (g = true ∧ ∃ A c, e = .returned (.tuple #[.slice A 128 c, .int .i64 0]) ∧ Sh.Bytes w w' A X) ∨ (g = false ∧ e = .returned (.tuple #[.slice none 0 0, .int .i64 5]))
/-- Is a block of a disk good? -/
def goodAt (S : Sh.Sf) (d k : Nat) : Bool := goodL d k (V S d (sumOf k)) (V S d (dataOf k))
theorem looked_on (hw : Sh.why S d = 0) : Looked S d = S.doRead.doRead := if_pos hw
theorem looked_off' (hw : Sh.why S d ≠ 0) : Looked S d = S := if_neg hw
theorem read_no (h : Dv B W w a p d o S F) (k : Int) (hk : k < 0 ∨ (0 ≤ k ∧ ((blk S.sectors : Nat) : Int) ≤ k)) :
    Calls Tryd.prog 33 #[.pointer (some ⟨a, 0, none⟩), .int .i64 k] w fun e w' => e = .returned (.tuple #[.slice none 0 0, .int .i64 1]) ∧ Below w.heap.size w w' := by
  have HH := Lib.hid (has_no k h.dev h.on.shelf (secM_of h.on.shelf) hk)
  clear h hk
  go_enter Tryd.func33, Tryd.ntmps33
  go_wp2_with (go_at_call 60; refine HH.out.mono ?_; rintro e w' ⟨rfl, m, rfl⟩)
  go_ret2
  exact ⟨rfl, drawn (Below.refl _ w) m⟩
theorem read_nil (k : Int) (w : World) :
    Calls Tryd.prog 33 #[.pointer none, .int .i64 k] w fun e w' => e = .returned (.tuple #[.slice none 0 0, .int .i64 2]) ∧ w = w' := by
  go_enter Tryd.func33, Tryd.ntmps33
  go_wp2
  go_ret2
  exact ⟨rfl, rfl⟩
set_option maxRecDepth 20000 in
set_option maxHeartbeats 1000000 in
theorem read_why (h : Dv B W w a p d o S F) (k : Nat) (hk : k < blk S.sectors) (hd : d < S.disks.length) (hw : Sh.why S d ≠ 0) :
    Calls Tryd.prog 33 #[.pointer (some ⟨a, 0, none⟩), .int .i64 k] w fun e w' => e = .returned (.tuple #[.slice none 0 0, .int .i64 (Sh.why S d)]) ∧ Below w.heap.size w w' := by
  have HH := Lib.hid (has_yes k h.dev h.on.shelf (secM_of h.on.shelf) hk)
  have c0 := h.dev.c0
  have c1 := h.dev.c1
  have HL := Lib.hid (fun m => look_why (w := w.drewN m) (h.on.shelf.only (G := fun _ => False) ⟨rfl, rfl, rfl, Nat.le_refl _, fun _ _ _ => rfl⟩ (fun _ _ e => e)) k hk hd hw)
  have hq : (Sh.why S d != 0) = true := by simpa using hw
  have hq2 : (Sh.why S d == 0) = false := by simpa using hw
  clear h hk hw
  generalize Sh.why S d = y at *
  unfold st0 at *
  go_enter Tryd.func33, Tryd.ntmps33
  go_wp2_with (first
    | (go_at_call 60; refine HH.out.mono ?_; rintro e w' ⟨rfl, m, rfl⟩)
    | (go_at_call 61; refine (HL.out m).mono ?_; rintro e w2 ⟨rfl, b2⟩))
  go_ret2
  exact ⟨rfl, ((drawn (Below.refl _ w) m).trans b2).alloc (Nat.le_trans b2.size (Nat.le_refl _)) _⟩
set_option maxRecDepth 20000 in
set_option maxHeartbeats 1000000 in
theorem read_done (h : Dv B W w a p d o S F) (hT : Tabs W) (hTB : max 0 1 + 1 ≤ B) (k : Nat) (hk : k < blk S.sectors) (hd : d < S.disks.length) (hw : Sh.why S d = 0) (g : Bool) (hg : goodAt S d k = g) :
    Calls Tryd.prog 33 #[.pointer (some ⟨a, 0, none⟩), .int .i64 k] w fun e w' => ReadAs w g (V S d (dataOf k)) e w' ∧ Dv B W w' a p d o (Looked S d) F ∧ Sh.Only F w w' := by
  have HH := Lib.hid (has_yes k h.dev h.on.shelf (secM_of h.on.shelf) hk)
  have c0 := h.dev.c0
  have c1 := h.dev.c1
  have HL := Lib.hid (fun m => look_done (w := w.drewN m) (h.on.grown (drawn (Below.refl _ w) m)) hT hTB k hk hd hw)
  rw [looked_on hw]
  have HE := Lib.hid (fun w2 (hs : Sh.Shelf w2 p S.doRead.doRead F) (ho : Sh.Only F w w2) => h.stays hs ho)
  have hlt := Lib.hid (fun b (e : F b) => h.on.shelf.ltF e)
  clear h hk hw hT hTB
  unfold goodAt goodL at hg
  unfold LookIs at HL
  generalize V S d (dataOf k) = X2 at *
  generalize sumL (d : Int) (k : Int) X2 = s at *
  generalize pr (V S d (sumOf k)) k 0 = x at *
  generalize pr (V S d (sumOf k)) k 1 = y at *
  go_enter Tryd.func33, Tryd.ntmps33
  go_wp2_with (go_at_call 60; refine HH.out.mono ?_; rintro e w' ⟨rfl, m, rfl⟩)
  refine (HL.out m).mono ?_
  rintro e w2 ⟨b1, d1, b2, d2, rfl, z1, z2, z3, z4⟩
  have hrow : (w2.alloc (.cells (stV k (some ⟨b1, 0, none⟩) d1 (some ⟨b2, 0, none⟩) d2 x y s) 110)).heap[w2.heap.size]? = some (.cells (stV k (some ⟨b1, 0, none⟩) d1 (some ⟨b2, 0, none⟩) d2 x y s) 110 (0, 0)) := heap_alloc_new _ _
  have hb2 : Below w2.heap.size w2 (w2.alloc (.cells (stV k (some ⟨b1, 0, none⟩) d1 (some ⟨b2, 0, none⟩) d2 x y s) 110)) := (Below.refl _ _).alloc (Nat.le_refl _) _
  have Z2 := Lib.hid (bytes_on z2 hb2)
  have hGood := Lib.hid (good_any k (some ⟨b1, 0, none⟩) d1 ⟨b2, 0, none⟩ d2 x y s X2 _ Z2.out.1)
  rw [hg] at hGood
  have O3 := Lib.hid (show Sh.Only F w (w2.alloc (.cells (stV k (some ⟨b1, 0, none⟩) d1 (some ⟨b2, 0, none⟩) d2 x y s) 110)) from ((only_below F (drawn (Below.refl _ w) m)).trans z4 (fun b hb => .inl hb)).trans (only_below F hb2) (fun b hb => .inl hb))
  have S3 := Lib.hid (z3.only (only_below (fun _ => False) hb2) (fun _ _ e => e))
  have hld := load_state hrow info_state
  obtain ⟨q0, q1, q2, q3, q4, q5, q6, q7, _⟩ := cells8_of hrow
  clear hrow hb2 z1 z2 z3 z4 HL HH
  have hsz2 := Lib.hid (show w2.heap.size < (w2.alloc (.cells (stV k (some ⟨b1, 0, none⟩) d1 (some ⟨b2, 0, none⟩) d2 x y s) 110)).heap.size by simp)
  unfold stV at *
  go_wp2_with fail
  generalize w2.alloc (.cells #[.int .i64 (k : Int), .int .i64 ((sumOf k : Nat) : Int), .int .i64 ((dataOf k : Nat) : Int), .slice (some ⟨b1, 0, none⟩) 128 d1, .slice (some ⟨b2, 0, none⟩) 128 d2, .int .u32 (x : Int), .int .u32 (y : Int), .int .u32 (s : Int)] 110) = W3 at *
  refine hGood.out.mono ?_
  rintro e w4 ⟨rfl, b4⟩
  have O4 := Lib.hid (O3.out.trans (only_below F b4) (fun b hb => .inl hb))
  have S4 := Lib.hid (S3.out.only (only_below (fun _ => False) b4) (fun _ _ e => e))
  have E4 := Lib.hid (bytes_from (w0 := w) (bytes_on Z2.out b4) (Nat.le_refl _))
  have k4 := (b4.cell (p := ⟨w2.heap.size, 4, none⟩) hsz2.out).trans q4
  cases g
  · go_wp2
    go_ret2
    exact ⟨.inr ⟨rfl, rfl⟩, HE.out _ S4.out O4.out, O4.out⟩
  · go_wp2
    go_ret2
    exact ⟨.inl ⟨rfl, some ⟨b2, 0, none⟩, d2, rfl, E4.out⟩, HE.out _ S4.out O4.out, O4.out⟩
end
end Go.Proofs.YtjdjpafnakhpcaaDoor.U
