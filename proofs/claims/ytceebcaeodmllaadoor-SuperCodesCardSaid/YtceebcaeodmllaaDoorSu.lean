/-
  The contract of Encode: what may not be said is refused; else a block of the caller's own.
  Conditions: the tables hold what the program's text lays.
-/
import Derived.Test.YtceebcaeodmllaaDoorSc
namespace Go.Proofs.YtceebcaeodmllaaDoor.S
open Go.RowKit

theorem own_whole {w : World} {base : Nat} {e : TypeId} {n g : Nat} {xs : List Value} (h : w.ownsRow base e 1 (.slice (some ⟨g, 0, none⟩) n n) n xs) : w.heap[g]? = some (.cells xs.toArray e (0, 0)) := by
  rcases h.2 with ⟨h0, _⟩ | ⟨g', cap, cur, hv, _, hh, _, _, hs, ht⟩
  · cases h0
  · injection hv with h1 _ h3
    injection h1 with h1
    injection h1 with h1
    subst h1 h3
    rw [hh]
    have e2 : cur.toList = xs := by
      rw [← ht, List.take_of_length_le (by simp [hs])]
    rw [← e2]
theorem own_of {w : World} {base : Nat} {e : TypeId} {n g : Nat} {xs : List Value} (h : w.heap[g]? = some (.cells xs.toArray e (0, 0))) (hb : base ≤ g) (hn : xs.length = n) (hm : n ≤ maxLen) : w.ownsRow base e 1 (.slice (some ⟨g, 0, none⟩) n n) n xs :=
  ⟨by omega, .inr ⟨g, n, xs.toArray, rfl, hb, h, Nat.le_refl _, hm, by simp [hn], by rw [Nat.mul_one, ← hn]; exact List.take_length⟩⟩

set_option maxRecDepth 20000 in
set_option maxHeartbeats 1000000 in
theorem encode_no (s : Sup) (w : World) (hr : s.right = false) :
    Calls Tryd.prog 9 #[s.val] w fun e w' => e = .returned (.tuple #[.slice none 0 0, .int .i64 1]) ∧ Below w.heap.size w w' := by
  have q := Lib.hid (fun w => right_any s w)
  rw [hr] at q
  clear hr
  have hblk := heap_alloc_last w (.cells s.cells 23)
  obtain ⟨c0, c1, c2, c3, c4, c5, c6, c7⟩ := row8 hblk
  clear hblk
  obtain ⟨x0, x1, x2, x3, x4, x5, x6, x7⟩ := s
  simp only [Sup.val, Sup.cells] at *
  go_enter Tryd.func9, Tryd.ntmps9
  have hbW : Below w.heap.size w (w.alloc (.cells #[.int .i64 x0, .int .i64 x1, .int .i64 x2, .int .i64 x3, .int .i64 x4, .int .i64 x5, .int .i64 x6, .int .i64 x7] 23)) := (Below.refl _ _).alloc (Nat.le_refl _) _
  go_wp2_with fail
  refine (q.out _).mono ?_
  rintro e w1 ⟨rfl, hb1⟩
  have hb := hbW.trans (hb1.mono (by simp))
  clear c0 c1 c2 c3 c4 c5 c6 c7 hbW hb1
  go_wp2_with fail
  go_ret2
  exact ⟨rfl, hb⟩
theorem zeros_own {w : World} {base g : Nat} (h : w.ownsRow base 5 1 (.slice (some ⟨g, 0, none⟩) 128 128) 128 (madeCells (Value.int .u8 0).cells (128 * 1)).toList) : w.ownsRow base 5 1 (.slice (some ⟨g, 0, none⟩) 128 128) 128 (bts (List.replicate 128 0)) := by
  have e : (madeCells (Value.int .u8 0).cells (128 * 1)).toList = bts (List.replicate 128 0) := (toList_madeCells_one _ _).trans (by simp [bts])
  rw [e] at h
  exact h
theorem reads_row {w : World} {g : Nat} {l : List Nat} {e : TypeId} (h : w.heap[g]? = some (.cells (bts l).toArray e (0, 0))) (hg : g < w.heap.size) (hl : l.length = 128) : Reads w w.heap.size (some ⟨g, 0, none⟩) 128 (bts l) := by
  refine ⟨by rw [bts_length, hl], fun _ => ⟨_, rfl, hg, fun j u hu => ?_⟩⟩
  have hadd : (⟨g, 0, none⟩ : Addr).add j = ⟨g, j, none⟩ := by unfold Addr.add; split <;> simp_all
  rw [hadd, cell_of_row _ _ j _ _ _ h, List.getElem?_toArray]; exact hu
theorem splice_whole {α : Type} {cur cs : List α} (h : cs.length = cur.length) : splice cur 0 cs = cs := by
  unfold splice
  rw [Nat.zero_add, List.drop_eq_nil_of_le (by omega)]
  simp
/-- A block of 128 bytes of the caller's own. -/
def Fresh (w : World) (l : List Nat) (e : Ending) (w' : World) : Prop :=
  ∃ g, e = .returned (.tuple #[.slice (some ⟨g, 0, none⟩) 128 128, .int .i64 0]) ∧ w'.ownsRow w.heap.size 5 1 (.slice (some ⟨g, 0, none⟩) 128 128) 128 (bts l) ∧ Below w.heap.size w w'
set_option maxRecDepth 100000 in
set_option maxHeartbeats 4000000 in
theorem encode_ok (s : Sup) (w : World) (hr : s.right = true) (hT : Tabs w) (hW : Wid w) :
    Calls Tryd.prog 9 #[s.val] w (Fresh w (encL s.nums)) := by
  have q := Lib.hid (fun w => right_any s w)
  rw [hr] at q
  have qb := Lib.hid (fun w => block_any s w hr)
  clear hr
  have hl := encL_length s.nums
  have hblk := heap_alloc_last w (.cells s.cells 23)
  have hc := row8 hblk
  generalize encL s.nums = l at *
  obtain ⟨x0, x1, x2, x3, x4, x5, x6, x7⟩ := s
  simp only [Sup.val, Sup.cells] at *
  have hbW : Below w.heap.size w (w.alloc (.cells #[.int .i64 x0, .int .i64 x1, .int .i64 x2, .int .i64 x3, .int .i64 x4, .int .i64 x5, .int .i64 x6, .int .i64 x7] 23)) := (Below.refl _ _).alloc (Nat.le_refl _) _
  have hsW : (w.alloc (.cells #[.int .i64 x0, .int .i64 x1, .int .i64 x2, .int .i64 x3, .int .i64 x4, .int .i64 x5, .int .i64 x6, .int .i64 x7] 23)).heap.size = w.heap.size + 1 := by simp
  obtain ⟨i1, ki, kz0, kz1, kz2⟩ := info_parts info_u8
  have HT := Lib.hid hT
  have HW := Lib.hid hW
  have HL := Lib.hid hl
  have hblk := Lib.hid hblk
  clear hT hW hl
  obtain ⟨c0, c1, c2, c3, c4, c5, c6, c7⟩ := hc
  go_enter Tryd.func9, Tryd.ntmps9
  go_wp2_with fail
  generalize w.alloc (.cells #[.int .i64 x0, .int .i64 x1, .int .i64 x2, .int .i64 x3, .int .i64 x4, .int .i64 x5, .int .i64 x6, .int .i64 x7] 23) = W at *
  generalize hgs : w.heap.size = g at *
  have Hgs := Lib.hid hgs
  clear hgs
  refine (q.out _).mono ?_
  rintro e w1 ⟨rfl, hb1⟩
  clear c0 c1 c2 c3 c4 c5 c6 c7 q
  obtain ⟨c0, c1, c2, c3, c4, c5, c6, c7⟩ := row8 (s := ⟨x0, x1, x2, x3, x4, x5, x6, x7⟩) ((hb1.block g (by omega)).trans hblk.out)
  simp only at c0 c1 c2 c3 c4 c5 c6 c7
  have hbg1 := hbW.trans (hb1.mono (by omega))
  have hg1 : g < w1.heap.size := by have := hb1.size; omega
  clear hbW hsW hblk hb1
  go_wp2_with fail
  refine (qb.out w1 (HT.out.below (by have := HT.out.size; rw [← Hgs.out]; exact this) hbg1) (HW.out.below (by have := HW.out.size; rw [← Hgs.out]; exact this) hbg1)).mono ?_
  rintro e w2 ⟨rfl, hb2⟩
  have hbg2 := hbg1.trans (hb2.mono (by omega))
  have hg2 : g < w2.heap.size := by have := hb2.size; omega
  clear c0 c1 c2 c3 c4 c5 c6 c7 qb hb2 hbg1 hg1
  have hz0 := zero_block
  have hzn := zcB_ne
  have hres : (w2.alloc (.cells zcB 44)).heap[w2.heap.size]? = some (.cells zcB 44 (0, 0)) := heap_alloc_last _ _
  have hs128 : (bts l).toArray.size = 128 := by rw [List.size_toArray, bts_length, HL.out]
  have hi61 : (Tryd.prog.info? 44).map (·.size) = some (bts l).toArray.size := by rw [hs128]; exact info_block
  have hone : (bts l).toArray.all (·.oneCell') = true := Array.all_eq_true_iff_forall_mem.2 (fun v hv => bts_one _ v (by simpa using hv))
  have hold : zcB.size = (bts l).toArray.size := by rw [hs128, zcB_size]
  have hrow := setRow_heap (w2.alloc (.cells zcB 44)) w2.heap.size _ (bts l).toArray 44 (0, 0) hres
  have hb3 := below_setRow (g := w2.heap.size) (hbg2.alloc (by omega) (.cells zcB 44)) (by omega) (bts l).toArray
  have hs3 : w2.heap.size < ((w2.alloc (.cells zcB 44)).setRow w2.heap.size (bts l).toArray).heap.size := by simp [World.setRow]
  have hs4 : ((w2.alloc (.cells zcB 44)).setRow w2.heap.size (bts l).toArray).heap.size = w2.heap.size + 1 := by simp [World.setRow]
  go_wp2_with (first
    | (with_reducible refine wpList_store_row rfl 44 (.tmp 4) (.tmp 10) rfl w2.heap.size _ rfl rfl 44 _ hres hi61 hold hone ?_)
    | (at_make; refine wpList_make_full _ rfl _ _ 24 rfl g 5 i1 _ 1 Tryd.underlying24 ki kz0 kz1 _ _ _ _ 128 rfl rfl rfl rfl (by rw [kz2]; omega) (by unfold maxLen; omega) (Nat.le_trans (Nat.le_of_lt (Nat.lt_trans hg2 hs3)) (Nat.le_refl _)) ?_; intro w4 hown4 hgrow4; rw [hs4] at hown4))
  have hblk2 : w4.heap[w2.heap.size]? = some (.cells (bts l).toArray 44 (0, 0)) := (hgrow4.block _ hs3 (fun h => by cases h)).trans hrow
  have hz4 := own_whole (zeros_own hown4)
  have hb4 := hb3.grown hgrow4 (by omega) (fun _ h => by cases h)
  have hlt4 : w2.heap.size < w4.heap.size := Nat.lt_of_lt_of_le hs3 hgrow4.size
  have hrd : Reads w4 w4.heap.size (some ⟨w2.heap.size, 0, none⟩) 128 (bts l) := reads_row hblk2 hlt4 HL.out
  obtain ⟨W5, hrun5, hblk5, hbel5⟩ := bytes_run w4 (w2.heap.size + 1) 0 128 128 128 _ (some ⟨w2.heap.size, 0, none⟩) l (List.replicate 128 0) 5 3 hz4 hrd (by decide) (by decide) (by decide)
  rw [splice_whole (by rw [bts_length, bts_length, HL.out]; rfl)] at hblk5
  have hb5 := hbel5 g w (by omega) hb4
  rw [hrun5]
  have hfin : W5.ownsRow g 5 1 (.slice (some ⟨w2.heap.size + 1, 0, none⟩) 128 128) 128 (bts l) := own_of hblk5 (by omega) (by rw [bts_length, HL.out]) (by unfold maxLen; omega)
  clear hblk5 hbel5 hrd hz4 hown4 hgrow4 hb4 hb3 hrow hs3 hs4 hres hi61 hone hold hs128 hz0 hzn hblk2 hbg2
  generalize w2.heap.size + 1 = g4 at *
  go_wp2_with fail
  go_ret2
  exact ⟨g4, rfl, by rw [Hgs.out]; exact hfin, by rw [Hgs.out]; exact hb5⟩
end Go.Proofs.YtceebcaeodmllaaDoor.S
