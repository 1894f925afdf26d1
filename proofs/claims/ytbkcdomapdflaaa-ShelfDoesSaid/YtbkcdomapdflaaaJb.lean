/-
  The contract of a disk's fork: another disk that is the same, in new memory.
  Conditions: the disk lies in memory, and fewer than 2^40 of its writes wait.
-/
import Derived.Test.YtbkcdomapdflaaaJa
namespace Go.Proofs.Ytbkcdomapdflaaa.Sh
open Go.RowKit Go.Maps

theorem rebase {w : World} {base : Nat} {e : TypeId} {size : Nat} {v : Value} {n : Nat} {xs : List Value} (h : w.ownsRow base e size v n xs) : w.ownsRow 0 e size v n xs :=
  ⟨h.1, h.2.imp id fun ⟨g, cap, cur, a, _, c⟩ => ⟨g, cap, cur, a, Nat.zero_le _, c⟩⟩
theorem row_keep {w w' : World} {base B : Nat} {e : TypeId} {size : Nat} {v : Value} {n : Nat} {xs : List Value} (h : w.ownsRow base e size v n xs) (hb : Below B w w') (hB : ∀ b, v.ownBlock = some b → b < B) : w'.ownsRow base e size v n xs := same_row h fun b hv => hb.block b (hB b hv)
theorem two_new (w : World) (c d : Array Value) (t : TypeId) : ((w.alloc (.cells c t)).alloc (.cells d t)).heap[w.heap.size]? = some (.cells c t (0, 0)) ∧ ((w.alloc (.cells c t)).alloc (.cells d t)).heap[w.heap.size + 1]? = some (.cells d t (0, 0)) ∧
    ((w.alloc (.cells c t)).alloc (.cells d t)).heap.size = w.heap.size + 2 ∧ Below w.heap.size w ((w.alloc (.cells c t)).alloc (.cells d t)) := by
  have hz : (w.alloc (.cells c t)).heap.size = w.heap.size + 1 := by simp
  have hb1 : Below w.heap.size w (w.alloc (.cells c t)) := (Below.refl _ w).alloc (Nat.le_refl _) _
  have hb2 : Below (w.alloc (.cells c t)).heap.size (w.alloc (.cells c t)) ((w.alloc (.cells c t)).alloc (.cells d t)) := (Below.refl _ _).alloc (Nat.le_refl _) _
  refine ⟨(hb2.block w.heap.size (by omega)).trans (heap_alloc_new _ _), ?_, by simp, hb1.trans (hb2.mono (by omega))⟩
  have := heap_alloc_new (w.alloc (.cells c t)) (.cells d t)
  rw [hz] at this
  exact this
theorem info_disk4 : (Try.prog.info? 54).map (·.size) = some 4 := by kernel_rfl
/-- A struct of four cells is stored, cell by cell. -/
noncomputable def put4 (w : World) (g : Nat) (a0 a1 a2 a3 : Value) : World := (((w.setCell ⟨g, 0, none⟩ a0).setCell ⟨g, 1, none⟩ a1).setCell ⟨g, 2, none⟩ a2).setCell ⟨g, 3, none⟩ a3
theorem put4_row {w : World} {g : Nat} {t : TypeId} {v0 v1 v2 v3 : Value} (h : w.heap[g]? = some (.cells #[v0, v1, v2, v3] t (0, 0))) (a0 a1 a2 a3 : Value) : (put4 w g a0 a1 a2 a3).heap[g]? = some (.cells #[a0, a1, a2, a3] t (0, 0)) := by
  have h0 : (w.setCell ⟨g, 0, none⟩ a0).heap[g]? = some (.cells #[a0, v1, v2, v3] t (0, 0)) := cells_set (i := 0) a0 h
  have h1 : ((w.setCell ⟨g, 0, none⟩ a0).setCell ⟨g, 1, none⟩ a1).heap[g]? = some (.cells #[a0, a1, v2, v3] t (0, 0)) := cells_set (i := 1) a1 h0
  have h2 : (((w.setCell ⟨g, 0, none⟩ a0).setCell ⟨g, 1, none⟩ a1).setCell ⟨g, 2, none⟩ a2).heap[g]? = some (.cells #[a0, a1, a2, v3] t (0, 0)) := cells_set (i := 2) a2 h1
  exact cells_set (i := 3) a3 h2
theorem put4_below {B : Nat} {w0 w : World} {g : Nat} (h : Below B w0 w) (hg : B ≤ g) (a0 a1 a2 a3 : Value) : Below B w0 (put4 w g a0 a1 a2 a3) :=
  (((h.setCell (p := ⟨g, 0, none⟩) hg a0).setCell (p := ⟨g, 1, none⟩) hg a1).setCell (p := ⟨g, 2, none⟩) hg a2).setCell (p := ⟨g, 3, none⟩) hg a3
theorem put4_other (w : World) (g : Nat) (a0 a1 a2 a3 : Value) {b : Nat} (h : b ≠ g) : (put4 w g a0 a1 a2 a3).heap[b]? = w.heap[b]? :=
  (heap_set_other _ ⟨g, 3, none⟩ _ h).trans ((heap_set_other _ ⟨g, 2, none⟩ _ h).trans ((heap_set_other _ ⟨g, 1, none⟩ _ h).trans (heap_set_other _ ⟨g, 0, none⟩ _ h)))
theorem cells4_of {w : World} {g : Nat} {t : TypeId} {v0 v1 v2 v3 : Value} (h : w.heap[g]? = some (.cells #[v0, v1, v2, v3] t (0, 0))) :
    w.cell? ⟨g, 0, none⟩ = some v0 ∧ w.cell? ⟨g, 1, none⟩ = some v1 ∧ w.cell? ⟨g, 2, none⟩ = some v2 ∧ w.cell? ⟨g, 3, none⟩ = some v3 ∧ w.frozen? ⟨g, 0, none⟩ = false ∧ w.frozen? ⟨g, 1, none⟩ = false ∧ w.frozen? ⟨g, 2, none⟩ = false ∧ w.frozen? ⟨g, 3, none⟩ = false :=
  ⟨cell_of_row _ _ 0 _ _ _ h, cell_of_row _ _ 1 _ _ _ h, cell_of_row _ _ 2 _ _ _ h, cell_of_row _ _ 3 _ _ _ h, frozen_of_row _ _ _ _ _ h, frozen_of_row _ _ _ _ _ h, frozen_of_row _ _ _ _ _ h, frozen_of_row _ _ _ _ _ h⟩
theorem results_in {fn : Func} {a : Tmp} {t : TypeId} {P : Program} {w : World} {v : Value} {tmps : Array Value} {g : Nat} (h : fn.results = #[.cell a t])
    (hp : tmps.getD a undef = .pointer (some ⟨g, 0, none⟩)) (hl : (loadVar t ⟨g, 0, none⟩).run P w = .ok v w) : (results fn tmps).run P w = .ok v w := by
  rw [Array.getD_eq_getD_getElem?] at hp
  simp [results, h, hp, asAddr, hl]
theorem store_first {w : World} {g : Nat} {t : TypeId} {v0 v1 v2 v3 : Value} (h : w.heap[g]? = some (.cells #[v0, v1, v2, v3] t (0, 0))) (a : Value) (ha : a.oneCell' = true) :
    (store ⟨g, 0, none⟩ a).run Try.prog w = .ok () (w.setCell ⟨g, 0, none⟩ a) := by
  have k0 : w.cell? ⟨g, 0, none⟩ = some v0 := cell_of_row _ _ 0 _ _ _ h
  have f0 : w.frozen? ⟨g, 0, none⟩ = false := frozen_of_row _ _ _ _ _ h
  rw [run_store _ _ _ _ _ ha, k0]
  simp only [f0]
  rfl
structure Forked (w w' : World) (sectors : Nat) (k : Dk) (g : Gh) : Prop where
  disk : DiskIs w' sectors g k
  fresh : ∀ b, g.has b → w.heap.size ≤ b
  bel : Below w.heap.size w w'
set_option maxRecDepth 20000 in
set_option maxHeartbeats 400000 in
theorem fork_any (w : World) (sectors : Nat) (g : Gh) (k : Dk) (h : DiskIs w sectors g k) (hs : sectors ≤ 4096) (hL : k.waits.length < 4398046511104) :
    Calls Try.prog 19 #[.agg #[g.s, g.v, .map (some g.m), .bool k.dead]] w fun e w' => ∃ g', e = .returned (.agg #[g'.s, g'.v, .map (some g'.m), .bool k.dead]) ∧ Forked w w' sectors k g' := by
  obtain ⟨r0, r1, z0, b0⟩ := two_new w #[g.s, g.v, .map (some g.m), .bool k.dead] #[.slice none 0 0, .slice none 0 0, .map none, .bool false] 54
  have k0 := cell_of_row _ _ 0 _ _ _ r0
  have k1 := cell_of_row _ _ 1 _ _ _ r0
  have k2 := cell_of_row _ _ 2 _ _ _ r0
  simp only [List.getElem?_toArray, List.getElem?_cons_zero, List.getElem?_cons_succ] at k0 k1 k2
  have h0 := h.same fun b hb => b0.block b (h.lt hb)
  go_enter Try.func19, Try.ntmps19
  go_wp2_with fail
  generalize ((w.alloc (.cells #[g.s, g.v, .map (some g.m), .bool k.dead] 54)).alloc (.cells #[.slice none 0 0, .slice none 0 0, .map none, .bool false] 54)) = W0 at *
  refine (clone_sure W0 h0.sure (by omega)).mono ?_
  rintro e w1 ⟨v1, rfl, o1, b1⟩
  obtain ⟨A1, c1, rfl⟩ := own_shape2 o1
  have z1 := b1.size
  have q0 := (b1.block w.heap.size (by omega)).trans r0
  have q1 := (b1.block (w.heap.size + 1) (by omega)).trans r1
  have bb1 := b0.trans (b1.mono (by omega : w.heap.size ≤ W0.heap.size))
  clear k0 k1 k2 b1 r0 r1 b0 h0
  have k0 := cell_of_row _ _ 0 _ _ _ q0
  have k1 := cell_of_row _ _ 1 _ _ _ q0
  have k2 := cell_of_row _ _ 2 _ _ _ q0
  have k3 := cell_of_row _ _ 3 _ _ _ q0
  simp only [List.getElem?_toArray, List.getElem?_cons_zero, List.getElem?_cons_succ] at k0 k1 k2 k3
  have f0 := frozen_of_row _ _ 0 _ _ q0
  have r0 := cells_set (i := 0) (Value.slice A1 sectors c1) q0
  have r1 := (heap_set_other w1 ⟨w.heap.size, 0, none⟩ (Value.slice A1 sectors c1) (show w.heap.size + 1 ≠ w.heap.size by omega)).trans q1
  have bb2 : Below w.heap.size w (w1.setCell ⟨w.heap.size, 0, none⟩ (Value.slice A1 sectors c1)) := bb1.setCell (Nat.le_refl _) _
  have z2 : (w1.setCell ⟨w.heap.size, 0, none⟩ (Value.slice A1 sectors c1)).heap.size = w1.heap.size := by simp
  have hm1 : ∀ b, (Value.slice A1 sectors c1).ownBlock = some b → W0.heap.size ≤ b ∧ b < w1.heap.size := fun b hb => o1.lt b hb
  have o2 : (w1.setCell ⟨w.heap.size, 0, none⟩ (Value.slice A1 sectors c1)).ownsRow W0.heap.size 9 1 (Value.slice A1 sectors c1) sectors (k.sure.map sv) := same_row o1 fun b hb => heap_set_other _ _ _ (show b ≠ w.heap.size by have := (hm1 b hb).1; omega)
  have hq0 : (#[g.s, g.v, Value.map (some g.m), Value.bool k.dead] : Array Value).setIfInBounds 0 (Value.slice A1 sectors c1) = #[(Value.slice A1 sectors c1), g.v, .map (some g.m), .bool k.dead] := rfl
  rw [hq0] at r0
  clear hq0 o1 bb1 q0 q1
  go_wp2_with fail
  clear k0 k1 k2 k3 f0
  generalize w1.setCell ⟨w.heap.size, 0, none⟩ (Value.slice A1 sectors c1) = W2 at *
  have h2 := h.same fun b hb => bb2.block b (h.lt hb)
  refine (clone_waits W2 h2.waits (by omega)).mono ?_
  rintro e w3 ⟨v2, rfl, o3, b3⟩
  obtain ⟨A2, c2, rfl⟩ := own_shape2 o3
  have z3 := b3.size
  have q0 := (b3.block w.heap.size (by omega)).trans r0
  have q1 := (b3.block (w.heap.size + 1) (by omega)).trans r1
  have bb3 := bb2.trans (b3.mono (by omega : w.heap.size ≤ W2.heap.size))
  have p3 : w3.ownsRow W0.heap.size 9 1 (Value.slice A1 sectors c1) sectors (k.sure.map sv) := same_row o2 fun b hb => b3.block b (by have := (hm1 b hb).2; omega)
  clear b3 r0 r1 bb2 h2 o2
  have k0 := cell_of_row _ _ 0 _ _ _ q0
  have k1 := cell_of_row _ _ 1 _ _ _ q0
  have k2 := cell_of_row _ _ 2 _ _ _ q0
  have k3 := cell_of_row _ _ 3 _ _ _ q0
  simp only [List.getElem?_toArray, List.getElem?_cons_zero, List.getElem?_cons_succ] at k0 k1 k2 k3
  have f1 := frozen_of_row _ _ 1 _ _ q0
  have r0 := cells_set (i := 1) (Value.slice A2 k.waits.length c2) q0
  have r1 := (heap_set_other w3 ⟨w.heap.size, 1, none⟩ (Value.slice A2 k.waits.length c2) (show w.heap.size + 1 ≠ w.heap.size by omega)).trans q1
  have bb4 : Below w.heap.size w (w3.setCell ⟨w.heap.size, 1, none⟩ (Value.slice A2 k.waits.length c2)) := bb3.setCell (Nat.le_refl _) _
  have z4 : (w3.setCell ⟨w.heap.size, 1, none⟩ (Value.slice A2 k.waits.length c2)).heap.size = w3.heap.size := by simp
  have hm2 : ∀ b, (Value.slice A2 k.waits.length c2).ownBlock = some b → W2.heap.size ≤ b ∧ b < w3.heap.size := fun b hb => o3.lt b hb
  have o4 : (w3.setCell ⟨w.heap.size, 1, none⟩ (Value.slice A2 k.waits.length c2)).ownsRow W0.heap.size 9 1 (Value.slice A1 sectors c1) sectors (k.sure.map sv) := same_row p3 fun b hb => heap_set_other _ _ _ (show b ≠ w.heap.size by have := (hm1 b hb).1; omega)
  have t4 : (w3.setCell ⟨w.heap.size, 1, none⟩ (Value.slice A2 k.waits.length c2)).ownsRow W2.heap.size 87 2 (Value.slice A2 k.waits.length c2) k.waits.length (flat k.waits) := same_row o3 fun b hb => heap_set_other _ _ _ (show b ≠ w.heap.size by have := (hm2 b hb).1; omega)
  have hq0 : (#[(Value.slice A1 sectors c1), g.v, Value.map (some g.m), Value.bool k.dead] : Array Value).setIfInBounds 1 (Value.slice A2 k.waits.length c2) = #[(Value.slice A1 sectors c1), (Value.slice A2 k.waits.length c2), .map (some g.m), .bool k.dead] := rfl
  rw [hq0] at r0
  clear hq0 o3 bb3 q0 q1 p3
  go_wp2_with fail
  clear k0 k1 k2 k3 f1
  generalize w3.setCell ⟨w.heap.size, 1, none⟩ (Value.slice A2 k.waits.length c2) = W4 at *
  have h4 := h.same fun b hb => bb4.block b (h.lt hb)
  refine (clone_map W4 h4.map).mono ?_
  rintro e w5 ⟨rfl, m5, b5⟩
  have z5 := b5.size
  have zm := m5.lt
  have q0 := (b5.block w.heap.size (by omega)).trans r0
  have q1 := (b5.block (w.heap.size + 1) (by omega)).trans r1
  have bb5 := bb4.trans (b5.mono (by omega : w.heap.size ≤ W4.heap.size))
  have p5 : w5.ownsRow W0.heap.size 9 1 (Value.slice A1 sectors c1) sectors (k.sure.map sv) := same_row o4 fun b hb => b5.block b (by have := (hm1 b hb).2; omega)
  have s5 : w5.ownsRow W2.heap.size 87 2 (Value.slice A2 k.waits.length c2) k.waits.length (flat k.waits) := same_row t4 fun b hb => b5.block b (by have := (hm2 b hb).2; omega)
  clear b5 r0 r1 bb4 h4 o4 t4
  have k0 := cell_of_row _ _ 0 _ _ _ q0
  have k1 := cell_of_row _ _ 1 _ _ _ q0
  have k2 := cell_of_row _ _ 2 _ _ _ q0
  have k3 := cell_of_row _ _ 3 _ _ _ q0
  simp only [List.getElem?_toArray, List.getElem?_cons_zero, List.getElem?_cons_succ] at k0 k1 k2 k3
  have f2 := frozen_of_row _ _ 2 _ _ q0
  have r0 := cells_set (i := 2) (.map (some W4.heap.size)) q0
  have r1 := (heap_set_other w5 ⟨w.heap.size, 2, none⟩ (.map (some W4.heap.size)) (show w.heap.size + 1 ≠ w.heap.size by omega)).trans q1
  have bb6 : Below w.heap.size w (w5.setCell ⟨w.heap.size, 2, none⟩ (.map (some W4.heap.size))) := bb5.setCell (Nat.le_refl _) _
  have z6 : (w5.setCell ⟨w.heap.size, 2, none⟩ (.map (some W4.heap.size))).heap.size = w5.heap.size := by simp
  have o6 : (w5.setCell ⟨w.heap.size, 2, none⟩ (.map (some W4.heap.size))).ownsRow W0.heap.size 9 1 (Value.slice A1 sectors c1) sectors (k.sure.map sv) := same_row p5 fun b hb => heap_set_other _ _ _ (show b ≠ w.heap.size by have := (hm1 b hb).1; omega)
  have t6 : (w5.setCell ⟨w.heap.size, 2, none⟩ (.map (some W4.heap.size))).ownsRow W2.heap.size 87 2 (Value.slice A2 k.waits.length c2) k.waits.length (flat k.waits) := same_row s5 fun b hb => heap_set_other _ _ _ (show b ≠ w.heap.size by have := (hm2 b hb).1; omega)
  have m6 : MapIs (w5.setCell ⟨w.heap.size, 2, none⟩ (.map (some W4.heap.size))) W4.heap.size k.waits.length (lastOf k.waits) := m5.same (heap_set_other _ _ _ (show W4.heap.size ≠ w.heap.size by omega))
  have hq0 : (#[(Value.slice A1 sectors c1), (Value.slice A2 k.waits.length c2), Value.map (some g.m), Value.bool k.dead] : Array Value).setIfInBounds 2 (.map (some W4.heap.size)) = #[(Value.slice A1 sectors c1), (Value.slice A2 k.waits.length c2), .map (some W4.heap.size), .bool k.dead] := rfl
  rw [hq0] at r0
  clear hq0 m5 bb5 p5 s5
  have hp := fun b (hb : b ≠ w.heap.size + 1) => put4_other (w5.setCell ⟨w.heap.size, 2, none⟩ (.map (some W4.heap.size))) (w.heap.size + 1) (.slice A1 sectors c1) (.slice A2 k.waits.length c2) (.map (some W4.heap.size)) (.bool k.dead) (b := b) hb
  have o7 := rebase (same_row o6 fun b hb => hp b (by have := (hm1 b hb).1; omega))
  have t7 := rebase (same_row t6 fun b hb => hp b (by have := (hm2 b hb).1; omega))
  have m7 := m6.same (hp W4.heap.size (by omega))
  have bb7 := put4_below (g := w.heap.size + 1) bb6 (by omega) (.slice A1 sectors c1) (.slice A2 k.waits.length c2) (.map (some W4.heap.size)) (.bool k.dead)
  have r7 := put4_row r1 (.slice A1 sectors c1) (.slice A2 k.waits.length c2) (.map (some W4.heap.size)) (.bool k.dead)
  have hinfo : (Try.prog.info? 54).map (·.size) = some (#[Value.slice A1 sectors c1, .slice A2 k.waits.length c2, .map (some W4.heap.size), .bool k.dead] : Array Value).size := info_disk4
  have hlv := run_loadVar_row (P := Try.prog) _ (w.heap.size + 1) 54 54 _ (0, 0) _ r7 Try.underlying54 rfl hinfo
  have HD := Lib.hid (show Forked w (put4 (w5.setCell ⟨w.heap.size, 2, none⟩ (.map (some W4.heap.size))) (w.heap.size + 1) (.slice A1 sectors c1) (.slice A2 k.waits.length c2) (.map (some W4.heap.size)) (.bool k.dead)) sectors k ⟨.slice A1 sectors c1, W4.heap.size, .slice A2 k.waits.length c2⟩ from ⟨⟨h.len, o7, h.secs, t7, h.fits, m7⟩, fun b hb => by
    rcases hb with hb | hb | hb
    · have := (hm1 b hb).1; omega
    · have hb : W4.heap.size = b := hb
      omega
    · have := (hm2 b hb).1; omega, bb7⟩)
  have HLV := Lib.hid hlv
  clear hlv hinfo r7 bb7 m7 t7 o7 hp o6 t6 m6 bb6
  obtain ⟨j0, j1, j2, j3, g0, g1, g2, g3⟩ := cells4_of q1
  have s0 := store_first r1 (Value.slice A1 sectors c1) (by rfl)
  clear r0 r1 q0 q1 hs hL h z0 z1 z2 z3 z4 z5 z6 zm hm1 hm2
  go_wp2
  refine bodyPost_ret (results_in (g := w.heap.size + 1) Try.results19 rfl HLV.out) rfl ?_
  exact ⟨_, rfl, HD.out⟩
end Go.Proofs.Ytbkcdomapdflaaa.Sh
