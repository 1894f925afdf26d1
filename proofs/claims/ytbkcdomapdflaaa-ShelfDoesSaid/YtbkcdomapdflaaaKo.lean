/-
  The contract of Fork: another shelf that is the same, in new memory.
  Conditions: the shelf lies in memory; fewer than 2^42 writes wait on each disk.
-/
import Derived.Test.YtbkcdomapdflaaaKn
namespace Go.Proofs.Ytbkcdomapdflaaa.Sh
open Go.RowKit Go.Maps

/-- The other shelf in the making, when so many disks are laid. -/
structure ForkRel (w wr : World) (p D : Nat) (S : Sf) (j : Nat) (gs : Nat → Gh) : Prop where
  root : wr.heap[p]? = some (.cells #[.bool S.off, .int .i64 (S.left : Int), .slice (some ⟨D, 0, none⟩) S.disks.length S.disks.length, .int .i64 (S.sectors : Int), .int .i64 S.count] 48 (0, 0))
  row : wr.ownsRow 0 54 4 (.slice (some ⟨D, 0, none⟩) S.disks.length S.disks.length) S.disks.length (rowOf (fun i c => if i < j then diskV (gs i) (S.disks.getD i default).dead c else zeroD c) S.disks.length 4)
  disk : ∀ i, i < j → DiskIs wr S.sectors (gs i) (S.disks.getD i default)
  apart : ∀ a c b, a < j → c < j → a ≠ c → (gs a).has b → ¬ (gs c).has b
  low : ∀ i, i < j → ∀ b, (gs i).has b → w.heap.size ≤ b
  bel : Below w.heap.size w wr
  pw : w.heap.size ≤ p
  dw : w.heap.size ≤ D
  pD : p ≠ D
theorem ForkRel.facts {w wr w' : World} {p D j : Nat} {S : Sf} {gs : Nat → Gh} (h : ForkRel w wr p D S j gs) (hb : Below wr.heap.size wr w') (hj : j < S.disks.length) :
    (w'.cell? ⟨p, 2, none⟩ = some (.slice (some ⟨D, 0, none⟩) S.disks.length S.disks.length) ∧ w'.cell? ⟨D, j * 4, none⟩ = some (.slice none 0 0) ∧ w'.cell? ⟨D, j * 4 + 1, none⟩ = some (.slice none 0 0) ∧ w'.cell? ⟨D, j * 4 + 2, none⟩ = some (.map none) ∧ w'.cell? ⟨D, j * 4 + 3, none⟩ = some (.bool false)) ∧
      ∀ i, w'.frozen? ⟨D, i, none⟩ = false := by
  have hD := (h.row.lt D rfl).2
  have hp := lt_of_block h.root
  have c : ∀ c, c < 4 → w'.cell? ⟨D, j * 4 + c, none⟩ = some (zeroD c) := fun c hc => by
    rw [hb.cell (p := ⟨D, j * 4 + c, none⟩) hD, cell_at h.row (rowOf_at _ hj hc), if_neg (Nat.lt_irrefl _)]
  refine ⟨⟨?_, c 0 (by decide), c 1 (by decide), c 2 (by decide), c 3 (by decide)⟩, fun i => ?_⟩
  · rw [hb.cell (p := ⟨p, 2, none⟩) hp]; exact cell_of_row _ _ 2 _ _ _ h.root
  · rw [hb.frozen (p := ⟨D, i, none⟩) hD]; exact h.row.frozenAt i
theorem fork_round {w wr w4 : World} {p D j : Nat} {S : Sf} {gs : Nat → Gh} {g' : Gh} (h : ForkRel w wr p D S j gs) (hj : j < S.disks.length) (hb : Below wr.heap.size wr w4) (hd : DiskIs w4 S.sectors g' (S.disks.getD j default)) (hnew : ∀ b, g'.has b → wr.heap.size ≤ b) :
    ForkRel w ((((w4.setCell ⟨D, j * 4, none⟩ g'.s).setCell ⟨D, j * 4 + 1, none⟩ g'.v).setCell ⟨D, j * 4 + 2, none⟩ (.map (some g'.m))).setCell ⟨D, j * 4 + 3, none⟩ (.bool (S.disks.getD j default).dead)) p D S (j + 1) (upd gs j g') := by
  have hD := (h.row.lt D rfl).2
  have hp := lt_of_block h.root
  have hw := h.dw
  have hr0 : w4.ownsRow 0 54 4 (.slice (some ⟨D, 0, none⟩) S.disks.length S.disks.length) S.disks.length (rowOf (fun i c => if i < j then diskV (gs i) (S.disks.getD i default).dead c else zeroD c) S.disks.length 4) := same_row h.row fun b hb' => by
    injection hb' with hb'; subst hb'; exact hb.block _ hD
  have hr1 := (((((hr0.stored (j * 4 + 0) g'.s).1.stored (j * 4 + 1) g'.v).1.stored (j * 4 + 2) (.map (some g'.m))).1).stored (j * 4 + 3) (.bool (S.disks.getD j default).dead)).1
  rw [rowOf_set _ (by decide), rowOf_set _ (by decide), rowOf_set _ (by decide), rowOf_set _ (by decide)] at hr1
  have hbel : Below w.heap.size w ((((w4.setCell ⟨D, j * 4, none⟩ g'.s).setCell ⟨D, j * 4 + 1, none⟩ g'.v).setCell ⟨D, j * 4 + 2, none⟩ (.map (some g'.m))).setCell ⟨D, j * 4 + 3, none⟩ (.bool (S.disks.getD j default).dead)) := ((((h.bel.trans (hb.mono h.bel.size)).setCell hw _).setCell hw _).setCell hw _).setCell hw _
  have hk : ∀ b, b ≠ D → ((((w4.setCell ⟨D, j * 4, none⟩ g'.s).setCell ⟨D, j * 4 + 1, none⟩ g'.v).setCell ⟨D, j * 4 + 2, none⟩ (.map (some g'.m))).setCell ⟨D, j * 4 + 3, none⟩ (.bool (S.disks.getD j default).dead)).heap[b]? = w4.heap[b]? := by
    intro b hb'
    rw [heap_set_other _ _ _ hb', heap_set_other _ _ _ hb', heap_set_other _ _ _ hb', heap_set_other _ _ _ hb']
  have hr2 : ((((w4.setCell ⟨D, j * 4, none⟩ g'.s).setCell ⟨D, j * 4 + 1, none⟩ g'.v).setCell ⟨D, j * 4 + 2, none⟩ (.map (some g'.m))).setCell ⟨D, j * 4 + 3, none⟩ (.bool (S.disks.getD j default).dead)).ownsRow 0 54 4 (.slice (some ⟨D, 0, none⟩) S.disks.length S.disks.length) S.disks.length _ := hr1
  clear hr1 hr0
  generalize ((((w4.setCell ⟨D, j * 4, none⟩ g'.s).setCell ⟨D, j * 4 + 1, none⟩ g'.v).setCell ⟨D, j * 4 + 2, none⟩ (.map (some g'.m))).setCell ⟨D, j * 4 + 3, none⟩ (.bool (S.disks.getD j default).dead)) = w5 at *
  have hdk : DiskIs w5 S.sectors g' (S.disks.getD j default) := hd.same fun b hb' => hk b (by have := hnew b hb'; omega)
  refine ⟨?_, ?_, ?_, ?_, ?_, hbel, h.pw, h.dw, h.pD⟩
  · exact (hk p h.pD).trans ((hb.block p hp).trans h.root)
  · refine Eq.mp ?_ hr2
    congr 1
    refine rowOf_congr (by decide) fun a c _ hc => ?_
    by_cases ea : a = j
    · subst ea
      match c, hc with
      | 0, _ => simp [diskV, upd]
      | 1, _ => simp [diskV, upd]
      | 2, _ => simp [diskV, upd]
      | 3, _ => simp [diskV]
    · by_cases hlt : a < j
      · simp [ea, hlt, upd, show a < j + 1 by omega]
      · simp [ea, hlt, show ¬ a < j + 1 by omega]
  · intro i hi
    by_cases e : i = j
    · subst e
      rw [upd, if_pos rfl]; exact hdk
    · rw [upd, if_neg e]
      have hii : i < j := by omega
      have hdi := h.disk i hii
      refine hdi.same fun b hb' => ?_
      have hbl := hdi.lt hb'
      refine (hk b ?_).trans (hb.block b hbl)
      rintro rfl
      obtain ⟨cur, hcur⟩ := row_type h.row rfl
      rcases hdi.kinds hb' hcur with e | e <;> exact absurd e (by decide)
  · intro a c b ha hc hne hab hcb
    unfold upd at hab hcb
    by_cases ea : a = j
    · rw [if_pos ea] at hab
      rw [if_neg (by omega)] at hcb
      have := hnew b hab
      have := (h.disk c (by omega)).lt hcb
      omega
    · rw [if_neg ea] at hab
      by_cases ec : c = j
      · rw [if_pos ec] at hcb
        have := hnew b hcb
        have := (h.disk a (by omega)).lt hab
        omega
      · rw [if_neg ec] at hcb
        exact h.apart a c b (by omega) (by omega) hne hab hcb
  · intro i hi b hb'
    have hsz := h.bel.size
    by_cases e : i = j
    · rw [upd, if_pos e] at hb'
      exact Nat.le_trans hsz (hnew b hb')
    · rw [upd, if_neg e] at hb'
      exact h.low i (by omega) b hb'
theorem fork_shelf {w wr : World} {p D : Nat} {S : Sf} {gs : Nat → Gh} (h : ForkRel w wr p D S S.disks.length gs) (h1 : 1 ≤ S.disks.length) (h2 : S.disks.length ≤ 17) (h3 : 1 ≤ S.sectors) (h4 : S.sectors ≤ 4096) (h5 : S.left ≤ 9223372036854775807) :
    Shelf wr p S (fun b => b = p ∨ b = D ∨ ∃ i, i < S.disks.length ∧ (gs i).has b) := by
  refine ⟨D, gs, h1, h2, h3, h4, h5, h.root, ?_, ?_, ?_, ⟨.inl rfl, .inr (.inl rfl), fun i b hi hb => .inr (.inr ⟨i, hi, hb⟩)⟩, ?_⟩
  · refine Eq.mp ?_ h.row
    congr 1
    exact rowOf_congr (by decide) fun a c ha _ => by rw [if_pos ha]
  · intro i k hk
    obtain ⟨hi, he⟩ := List.getElem?_eq_some_iff.1 hk
    have := h.disk i hi
    have e : S.disks.getD i default = k := by simp [List.getD, hk]
    rw [e] at this
    exact this
  · intro i j b hi hj hne hb
    exact h.apart i j b hi hj hne hb
  · rintro b (rfl | rfl | ⟨i, hi, hb⟩)
    · exact lt_of_block h.root
    · exact (h.row.lt _ rfl).2
    · exact (h.disk i hi).lt hb
theorem fork_start {w w1 : World} {S : Sf}
    (hown : w1.ownsRow 0 54 4 (.slice (some ⟨w.heap.size + 1, 0, none⟩) S.disks.length S.disks.length) S.disks.length (madeCells (Value.agg #[.slice none 0 0, .slice none 0 0, .map none, .bool false]).cells (S.disks.length * 4)).toList) {v0 : Value}
    (hp : w1.heap[w.heap.size]? = some (.cells #[.bool S.off, .int .i64 (S.left : Int), v0, .int .i64 (S.sectors : Int), .int .i64 S.count] 48 (0, 0))) (hb : Below w.heap.size w w1) :
    ForkRel w (w1.setCell ⟨w.heap.size, 2, none⟩ (.slice (some ⟨w.heap.size + 1, 0, none⟩) S.disks.length S.disks.length)) w.heap.size (w.heap.size + 1) S 0 default := by
  rw [zero_row] at hown
  refine ⟨?_, ?_, fun i hi => absurd hi (Nat.not_lt_zero _), fun a c b ha => absurd ha (Nat.not_lt_zero _), fun i hi => absurd hi (Nat.not_lt_zero _), hb.setCell (p := ⟨w.heap.size, 2, none⟩) (Nat.le_refl _) _, Nat.le_refl _, Nat.le_succ _, by omega⟩
  · exact cells_set (i := 2) (.slice (some ⟨w.heap.size + 1, 0, none⟩) S.disks.length S.disks.length) hp
  · have := same_row hown (w' := w1.setCell ⟨w.heap.size, 2, none⟩ (.slice (some ⟨w.heap.size + 1, 0, none⟩) S.disks.length S.disks.length)) fun b hb => heap_set_other _ _ _ (by injection hb with hb; subst hb; show w.heap.size + 1 ≠ w.heap.size; omega)
    refine Eq.mp ?_ this
    congr 1
/-- What the region that lays a disk reads. -/
def ForkS (p l D k : Nat) (c : Array Value) (W : World) : Prop := W.cell? ⟨p, 2, none⟩ = some (.slice (some ⟨D, 0, none⟩) k k) ∧ W.heap[l]? = some (.cells c 54 (0, 0))
theorem forkS_below {p l D k : Nat} {c : Array Value} {w w' : World} (h : ForkS p l D k c w) (hb : Below w.heap.size w w') (hp : p < w.heap.size) (hl : l < w.heap.size) : ForkS p l D k c w' :=
  ⟨(hb.cell (p := ⟨p, 2, none⟩) hp).trans h.1, (hb.block l hl).trans h.2⟩
theorem forkS_put {p l D k o : Nat} {c : Array Value} {w : World} (h : ForkS p l D k c w) (hp : p ≠ D) (hl : l ≠ D) (x0 x1 x2 x3 : Value) : ForkS p l D k c ((((w.setCell ⟨D, o, none⟩ x0).setCell ⟨D, o + 1, none⟩ x1).setCell ⟨D, o + 2, none⟩ x2).setCell ⟨D, o + 3, none⟩ x3) := by
  refine ⟨?_, ?_⟩
  · rw [cell_set_other _ _ _ _ hp, cell_set_other _ _ _ _ hp, cell_set_other _ _ _ _ hp, cell_set_other _ _ _ _ hp]; exact h.1
  · rw [heap_set_other _ _ _ hl, heap_set_other _ _ _ hl, heap_set_other _ _ _ hl, heap_set_other _ _ _ hl]; exact h.2
set_option maxRecDepth 20000 in
set_option maxHeartbeats 1600000 in
theorem sfork_any (w : World) (p : Nat) {S : Sf} {F : Nat → Prop} (h : Shelf w p S F) (hL : Few S) :
    Calls Try.prog 7 #[.pointer (some ⟨p, 0, none⟩)] w fun e w' => ∃ p' F', e = .returned (.pointer (some ⟨p', 0, none⟩)) ∧ Shelf w' p' S F' ∧ (∀ b, F' b → w.heap.size ≤ b) ∧ Below w.heap.size w w' := by
  obtain ⟨D0, gs0, h⟩ := h
  obtain ⟨i0, hi, hz0, hz1, hz2⟩ := info_parts info_disk
  have c0 := h.c0
  have c1 := h.c1
  have c2 := h.c2
  have c3 := h.c3
  have c4 := h.c4
  have hm := h.most
  have H := Lib.hid h
  have hpl := h.plt
  clear h
  have hr := heap_alloc_new w (.cells #[.bool S.off, .int .i64 (S.left : Int), .slice (some ⟨D0, 0, none⟩) S.disks.length S.disks.length, .int .i64 (S.sectors : Int), .int .i64 S.count] 48)
  have HR := Lib.hid hr
  clear hr
  have k1 := World.cell?_alloc_lt w (.cells #[.bool S.off, .int .i64 (S.left : Int), .slice (some ⟨D0, 0, none⟩) S.disks.length S.disks.length, .int .i64 (S.sectors : Int), .int .i64 S.count] 48) ⟨p, 2, none⟩ hpl
  rw [c2] at k1
  go_enter Try.func7, Try.ntmps7
  have hpne : p ≠ w.heap.size := by omega
  have hz9 : (w.alloc (.cells #[.bool S.off, .int .i64 (S.left : Int), .slice (some ⟨D0, 0, none⟩) S.disks.length S.disks.length, .int .i64 (S.sectors : Int), .int .i64 S.count] 48)).heap.size = w.heap.size + 1 := by simp
  have HZ9 := Lib.hid hz9
  clear hz9
  go_wp2_with (at_make; refine wpList_make_full _ rfl _ _ 44 rfl 0 54 i0 _ 4 Try.underlying44 hi hz0 hz1 _ _ _ _ S.disks.length rfl rfl rfl rfl (by rw [hz2]; omega) (by unfold maxLen; omega) (Nat.zero_le _) ?_; intro w1 hown1 hgrow1; have hp1 := (hgrow1.block w.heap.size (by simp) (by simp)).trans HR.out; have y2 := cell_of_row _ _ 2 _ _ _ hp1; have y2f := frozen_of_row _ _ 2 _ _ hp1; have y3 : w1.cell? ⟨p, 2, none⟩ = some (.slice (some ⟨D0, 0, none⟩) S.disks.length S.disks.length) := (World.cell?_of_block (a := ⟨p, 2, none⟩) (hgrow1.block p (by simp; omega) (by simp))).trans k1)
  have hbw1 : Below w.heap.size w w1 := ((Below.refl _ w).alloc (Nat.le_refl _) _).grown hgrow1 (by simp) (fun _ h => by cases h)
  rw [HZ9.out] at hown1
  have hst := fork_start hown1 hp1 hbw1
  clear hown1 hgrow1 hp1 y2 y2f y3 c0 c1 c2 c3 c4 k1 HR HZ9 hbw1 hi hz0 hz1 hz2
  generalize w1.setCell ⟨w.heap.size, 2, none⟩ (.slice (some ⟨w.heap.size + 1, 0, none⟩) S.disks.length S.disks.length) = w2 at *
  have hrel0 : Hid (∃ gs, ForkRel w w2 w.heap.size (w.heap.size + 1) S 0 gs) := Lib.hid ⟨_, hst⟩
  clear hst
  go_loopw [23] (fun i wr => ∃ j : Nat, j ≤ S.disks.length ∧ i = .int .i64 j ∧ Hid (∃ gs, ForkRel w wr w.heap.size (w.heap.size + 1) S j gs)) (fun i _ => S.disks.length - (intOf i).toNat)
  case atStart => exact ⟨0, Nat.zero_le _, rfl, hrel0⟩
  case round =>
    obtain ⟨j, hj, rfl, hrel⟩ := hrel
    obtain ⟨gs, hN⟩ := hrel.out
    by_cases hlt : j < S.disks.length
    · have hD0 := H.out.Dlt
      have hb := hN.bel
      have d0 := (hb.cell (p := ⟨D0, j * 4 + 0, none⟩) hD0).trans (H.out.dc hlt (c := 0) (by decide))
      have d1 := (hb.cell (p := ⟨D0, j * 4 + 1, none⟩) hD0).trans (H.out.dc hlt (c := 1) (by decide))
      have d2 := (hb.cell (p := ⟨D0, j * 4 + 2, none⟩) hD0).trans (H.out.dc hlt (c := 2) (by decide))
      have d3 := (hb.cell (p := ⟨D0, j * 4 + 3, none⟩) hD0).trans (H.out.dc hlt (c := 3) (by decide))
      simp only [diskV, Nat.add_zero] at d0 d1 d2 d3
      obtain ⟨A1, e1, hs1⟩ := own_shape2 (H.out.diskOf hlt).sure
      obtain ⟨A2, e2, hv1⟩ := own_shape2 (H.out.diskOf hlt).waits
      rw [hs1] at d0
      rw [hv1] at d1
      have hdi := H.out.diskOf hlt
      have hdi2 : DiskIs wr S.sectors (gs0 j) (S.disks.getD j default) := hdi.same fun b hb2 => hb.block b (hdi.lt hb2)
      have c2 := cell_of_row _ _ 2 _ _ _ hN.root
      have hkw := hL _ (getD_mem hlt)
      have HFK := Lib.hid (fun (w3 : World) (hb : Below wr.heap.size wr w3) => fork_any w3 S.sectors (gs0 j) (S.disks.getD j default) (hdi2.same fun b hb2 => hb.block b (hdi2.lt hb2)) H.out.secM hkw)
      rw [hs1, hv1] at HFK
      generalize hnw : (S.disks.getD j default).waits.length = nW at *
      generalize hdd : (S.disks.getD j default).dead = dead at *
      have HF2 := Lib.hid (fun (w3 : World) (hb : Below wr.heap.size wr w3) => show Calls Try.prog 19 #[.agg #[.slice A1 S.sectors e1, .slice A2 nW e2, .map (some (gs0 j).m), .bool dead]] w3 fun e w' => ∃ A3 c3 A4 c4 m4, e = .returned (.agg #[.slice A3 S.sectors c3, .slice A4 nW c4, .map (some m4), .bool dead]) ∧ Forked w3 w' S.sectors (S.disks.getD j default) ⟨.slice A3 S.sectors c3, m4, .slice A4 nW c4⟩ from by
        refine (HFK.out w3 hb).mono ?_
        rintro e w' ⟨g', rfl, hf⟩
        obtain ⟨A3, c3, hs3⟩ := own_shape2 hf.disk.sure
        obtain ⟨A4, c4, hv3⟩ := own_shape2 hf.disk.waits
        rw [hnw] at hv3
        obtain ⟨g1, g2, g3⟩ := g'
        simp only at hs3 hv3
        subst hs3
        subst hv3
        exact ⟨A3, c3, A4, c4, g2, rfl, hf⟩)
      clear HFK
      have HN := Lib.hid hN
      have hsM := H.out.secM
      have HDD := Lib.hid hdd
      clear hdi hdi2 hN hrel hb hL hs1 hv1 hkw hdd hnw
      have hb3 : Below wr.heap.size wr (wr.alloc (.cells #[.slice A1 S.sectors e1, .slice A2 nW e2, .map (some (gs0 j).m), .bool dead] 54)) := (Below.refl _ wr).alloc (Nat.le_refl _) _
      have hl3 := heap_alloc_new wr (.cells #[.slice A1 S.sectors e1, .slice A2 nW e2, .map (some (gs0 j).m), .bool dead] 54)
      go_wp2
      clear d0 d1 d2 d3 c2
      generalize wr.alloc (.cells #[.slice A1 S.sectors e1, .slice A2 nW e2, .map (some (gs0 j).m), .bool dead] 54) = w3 at *
      have l0 := cell_of_row _ _ 0 _ _ _ hl3
      have l1 := cell_of_row _ _ 1 _ _ _ hl3
      have l2 := cell_of_row _ _ 2 _ _ _ hl3
      have l3 := cell_of_row _ _ 3 _ _ _ hl3
      simp only [List.getElem?_toArray, List.getElem?_cons_zero, List.getElem?_cons_succ] at l0 l1 l2 l3
      have c2 := (HN.out.facts hb3 hlt).1.1
      have hS3 : ForkS w.heap.size wr.heap.size (w.heap.size + 1) S.disks.length #[.slice A1 S.sectors e1, .slice A2 nW e2, .map (some (gs0 j).m), .bool dead] w3.drew := ⟨c2, hl3⟩
      have n2 := fun W' (h : ForkS w.heap.size wr.heap.size (w.heap.size + 1) S.disks.length #[.slice A1 S.sectors e1, .slice A2 nW e2, .map (some (gs0 j).m), .bool dead] W') => h.1
      have n3 := fun W' (h : ForkS w.heap.size wr.heap.size (w.heap.size + 1) S.disks.length #[.slice A1 S.sectors e1, .slice A2 nW e2, .map (some (gs0 j).m), .bool dead] W') => show W'.cell? ⟨wr.heap.size, 0, none⟩ = some (.slice A1 S.sectors e1) from cell_of_row _ _ 0 _ _ _ h.2
      have n4 := fun W' (h : ForkS w.heap.size wr.heap.size (w.heap.size + 1) S.disks.length #[.slice A1 S.sectors e1, .slice A2 nW e2, .map (some (gs0 j).m), .bool dead] W') => show W'.cell? ⟨wr.heap.size, 1, none⟩ = some (.slice A2 nW e2) from cell_of_row _ _ 1 _ _ _ h.2
      have n5 := fun W' (h : ForkS w.heap.size wr.heap.size (w.heap.size + 1) S.disks.length #[.slice A1 S.sectors e1, .slice A2 nW e2, .map (some (gs0 j).m), .bool dead] W') => show W'.cell? ⟨wr.heap.size, 2, none⟩ = some (.map (some (gs0 j).m)) from cell_of_row _ _ 2 _ _ _ h.2
      have n6 := fun W' (h : ForkS w.heap.size wr.heap.size (w.heap.size + 1) S.disks.length #[.slice A1 S.sectors e1, .slice A2 nW e2, .map (some (gs0 j).m), .bool dead] W') => show W'.cell? ⟨wr.heap.size, 3, none⟩ = some (.bool dead) from cell_of_row _ _ 3 _ _ _ h.2
      have hlp : w.heap.size < w3.drew.heap.size := lt_of_block (show w3.drew.heap[w.heap.size]? = _ from (hb3.block w.heap.size (lt_of_block HN.out.root)).trans HN.out.root)
      have hll : wr.heap.size < w3.drew.heap.size := lt_of_block (show w3.drew.heap[wr.heap.size]? = _ from hl3)
      have hlpD : w.heap.size ≠ w.heap.size + 1 := by omega
      have hllD : wr.heap.size ≠ w.heap.size + 1 := by have h9 : w.heap.size + 1 < wr.heap.size := (HN.out.row.lt _ rfl).2; omega
      clear l0 l1 l2 l3 c2 hl3
      refine wp_region_held_drew (S := ForkS w.heap.size wr.heap.size (w.heap.size + 1) S.disks.length #[.slice A1 S.sectors e1, .slice A2 nW e2, .map (some (gs0 j).m), .bool dead]) (by kernel_rfl) hS3 (fun hHeld => ?_)
      refine wpAnyH_take (i := 0) (oi := ⟨some 28, _, _, _, _, _⟩) (v := ?_) rfl (by kernel_rfl) (by kernel_rfl) (by kernel_rfl) (fun _ _ _ h => h) (Or.inl ⟨by rfl, ?_⟩) (by assumption) ?_
      rotate_left
      · (intro w hSw; (try dsimp only at hSw); go_simp; first | done | with_reducible rfl)
      try simp only [Act.put, List.setIfInBounds_toArray, List.set_cons_zero, List.set_cons_succ]
      refine wpAnyH_take (i := 1) (oi := ⟨some 29, _, _, _, _, _⟩) (v := ?_) rfl (by kernel_rfl) (by kernel_rfl) (by kernel_rfl) (fun _ _ _ h => h) (Or.inl ⟨by rfl, ?_⟩) (by assumption) ?_
      rotate_left
      · (intro w hSw; (try dsimp only at hSw); go_simp; first | done | with_reducible rfl)
      try simp only [Act.put, List.setIfInBounds_toArray, List.set_cons_zero, List.set_cons_succ]
      refine wpAnyH_take (i := 2) (oi := ⟨some 30, _, _, _, _, _⟩) (v := ?_) rfl (by kernel_rfl) (by kernel_rfl) (by kernel_rfl) (fun _ _ _ h => h) (Or.inl ⟨by rfl, ?_⟩) (by assumption) ?_
      rotate_left
      · (intro w hSw; (try dsimp only at hSw); go_simp; first | done | with_reducible rfl)
      try simp only [Act.put, List.setIfInBounds_toArray, List.set_cons_zero, List.set_cons_succ]
      refine wpAnyH_take (i := 3) (oi := ⟨some 31, _, _, _, _, _⟩) (v := ?_) rfl (by kernel_rfl) (by kernel_rfl) (by kernel_rfl) (fun _ _ _ h => h) (Or.inl ⟨by rfl, ?_⟩) (by assumption) ?_
      rotate_left
      · (intro w hSw; (try dsimp only at hSw); go_simp; first | done | with_reducible rfl)
      try simp only [Act.put, List.setIfInBounds_toArray, List.set_cons_zero, List.set_cons_succ]
      refine wpAnyH_ready (rs := [4]) (by kernel_rfl) (by simp) ?_
      refine AllReadyH.cons (o := ⟨some 32, _, _, _, _, _⟩) rfl (fun K hK => ?_) AllReadyH.nil
      go_simp
      refine (HF2.out w3.drew hb3.drew).mono ?_
      rintro e w4 ⟨A3, c3, A4, c4, m4, rfl, hf⟩
      refine hK.out _ _ ((forkS_below hS3 hf.bel hlp hll)) (fun hHeld => ?_)
      clear hK K
      try simp only [Act.put, List.setIfInBounds_toArray, List.set_cons_zero, List.set_cons_succ]
      have hb4 : Below wr.heap.size wr w4 := hb3.drew.trans (hf.bel.mono hb3.size)
      obtain ⟨⟨x, a0, a1, a2, a3⟩, ff⟩ := HN.out.facts hb4 hlt
      have f0 := ff (j * 4)
      have f1 := ff (j * 4 + 1)
      have f2 := ff (j * 4 + 2)
      have f3 := ff (j * 4 + 3)
      clear ff x
      refine wpAnyH_take (i := 5) (oi := ⟨some 33, _, _, _, _, _⟩) (v := ?_) rfl (by kernel_rfl) (by kernel_rfl) (by kernel_rfl) (fun _ _ _ h => h) (Or.inl ⟨by rfl, ?_⟩) (by assumption) ?_
      rotate_left
      · (intro w hSw; (try dsimp only at hSw); go_simp; first | done | with_reducible rfl)
      try simp only [Act.put, List.setIfInBounds_toArray, List.set_cons_zero, List.set_cons_succ]
      refine wpAnyH_ready (rs := [6]) (by kernel_rfl) (by simp) ?_
      refine AllReadyH.cons (o := ⟨none, _, _, _, _, _⟩) rfl (fun K hK => ?_) AllReadyH.nil
      go_simp
      refine hK.out _ _ (forkS_put hHeld hlpD hllD _ _ _ _) (fun hHeld => ?_)
      clear hK K
      refine wpAnyH_done (by kernel_rfl) ?_ _
      have hrd := fork_round (g' := ⟨.slice A3 S.sectors c3, m4, .slice A4 nW c4⟩) HN.out hlt hb4 hf.disk (fun b hb => Nat.le_trans hb3.size (hf.fresh b hb))
      rw [HDD.out] at hrd
      have HRD := Lib.hid hrd
      clear hrd hf hHeld n2 n3 n4 n5 n6 hS3
      go_wp2_with fail
      go_roundw
      case rel => exact ⟨j + 1, by omega, by go_num, Lib.hid ⟨_, HRD.out⟩⟩
      case measure => simp [intOf]; omega
    · obtain rfl : j = S.disks.length := by omega
      have hsh := fork_shelf hN H.out.some_ H.out.most H.out.sec1 H.out.secM H.out.left
      have HE := Lib.hid (show ∃ p' F', (Ending.returned (Value.pointer (some ⟨w.heap.size, 0, none⟩))) = .returned (.pointer (some ⟨p', 0, none⟩)) ∧ Shelf wr p' S F' ∧ (∀ b, F' b → w.heap.size ≤ b) ∧ Below w.heap.size w wr from ⟨w.heap.size, _, rfl, hsh, fun b hb => by
        rcases hb with rfl | rfl | ⟨i, hi, hb⟩
        · exact Nat.le_refl _
        · omega
        · exact hN.low i hi b hb, hN.bel⟩)
      clear hsh hN hrel hL
      go_wp2
      go_ret
      exact HE.out
end Go.Proofs.Ytbkcdomapdflaaa.Sh
