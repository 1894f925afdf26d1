/-
  ppl: slots and tables while the power is on.
  Conditions: each theorem's own.
-/
import Derived.Test.YtohdieddocogkaaDoorQq
import Derived.Deep.MidRow
namespace Go.Proofs.YtohdieddocogkaaDoor.U
open Go.ChangeShapes Go.WideShapes Go.ChangeAt Go.RowKit Go.Maps

def fu {α : Type} (f : Nat → α) (k : Nat) (x : α) : Nat → α := fun j => if j = k then x else f j
theorem fu_same {α : Type} (f : Nat → α) (k : Nat) (x : α) : fu f k x k = x := if_pos rfl
theorem fu_other {α : Type} (f : Nat → α) {k j : Nat} (x : α) (h : j ≠ k) : fu f k x j = f j := if_neg h
def zeroRec : RecV := ⟨0, 0, none, 0, 0, []⟩
theorem zero_ok (W : World) : RecOk W zeroRec := ⟨by decide, by decide, fun x hx => (by cases hx), Reads.none_, by decide⟩
structure Tab (w : World) (h q n : Nat) (hv : Nat → RecV) (iz : Nat → Bool) : Prop where
  lh : h < w.heap.size
  lq : q < w.heap.size
  rc : ∀ k, k < n → w.rangeAt h (k * 3) (hv k).cells3
  thr : w.there h 0 (n * 3)
  iss : ∀ k, k < n → w.rangeAt q k [.bool (iz k)]
  tiq : w.there q 0 n
section
variable {w w' : World} {h q n k : Nat} {hv : Nat → RecV} {iz : Nat → Bool} {G : Nat → Prop}
theorem range_only {b o : Nat} {cs : List Value} (ho : Sh.Only G w w') (hl : b < w.heap.size) (hn : ¬ G b) (hr : w.rangeAt b o cs) : w'.rangeAt b o cs := fun j v hj => (ho.cell (p := ⟨b, o + j, none⟩) hl hn).trans (hr j v hj)
theorem there_only {b o m : Nat} (ho : Sh.Only G w w') (hl : b < w.heap.size) (hn : ¬ G b) (hr : w.there b o m) : w'.there b o m := fun j hj =>
  ⟨by rw [ho.cell (p := ⟨b, o + j, none⟩) hl hn]; exact (hr j hj).1, by rw [ho.frozen (p := ⟨b, o + j, none⟩) hl hn]; exact (hr j hj).2⟩
theorem Tab.only (t : Tab w h q n hv iz) (ho : Sh.Only G w w') (h1 : ¬ G h) (h2 : ¬ G q) : Tab w' h q n hv iz :=
  ⟨Nat.lt_of_lt_of_le t.lh ho.size, Nat.lt_of_lt_of_le t.lq ho.size, fun k hk => range_only ho t.lh h1 (t.rc k hk), there_only ho t.lh h1 t.thr, fun k hk => range_only ho t.lq h2 (t.iss k hk), there_only ho t.lq h2 t.tiq⟩
theorem put_only (w : World) (h o : Nat) (z : RecV) : Sh.Only (fun b => b = h) w (w.setCells h o z.cells3) :=
  (((Sh.Only.refl (fun b => b = h) w).setCell (p := ⟨h, o, none⟩) (.inl rfl) _).setCell (p := ⟨h, o + 1, none⟩) (.inl rfl) _).setCell (p := ⟨h, o + 1 + 1, none⟩) (.inl rfl) _
theorem set_only (w : World) (q k : Nat) (v : Value) : Sh.Only (fun b => b = q) w (w.setCells q k [v]) := (Sh.Only.refl (fun b => b = q) w).setCell (p := ⟨q, k, none⟩) (.inl rfl) v
theorem Tab.there3 (t : Tab w h q n hv iz) (hk : k < n) : w.there h (k * 3) 3 := fun j hj => by
  have := t.thr (k * 3 + j) (by omega)
  rwa [Nat.zero_add] at this
theorem Tab.there1 (t : Tab w h q n hv iz) (hk : k < n) : w.there q k 1 := fun j hj => by
  have := t.tiq (k + j) (by omega)
  rwa [Nat.zero_add] at this
theorem Tab.put (t : Tab w h q n hv iz) (hhq : h ≠ q) (hk : k < n) (z : RecV) : Tab (w.setCells h (k * 3) z.cells3) h q n (fu hv k z) iz := by
  have ho := put_only w h (k * 3) z
  refine ⟨Nat.lt_of_lt_of_le t.lh ho.size, Nat.lt_of_lt_of_le t.lq ho.size, fun j hj => ?_, World.there_setCells t.thr _ _ _, fun j hj => range_only ho t.lq (fun e => hhq e.symm) (t.iss j hj), World.there_setCells t.tiq _ _ _⟩
  by_cases e : j = k
  · subst e
    rw [fu_same]
    exact World.rangeAt_setCells_same _ _ _ _ (t.there3 hk)
  · rw [fu_other _ _ e]
    refine World.rangeAt_setCells_apart (t.rc j hj) _ _ _ (.inr ?_)
    show j * 3 + 3 ≤ k * 3 ∨ k * 3 + 3 ≤ j * 3
    omega
theorem Tab.set (t : Tab w h q n hv iz) (hhq : h ≠ q) (hk : k < n) (b : Bool) : Tab (w.setCells q k [.bool b]) h q n hv (fu iz k b) := by
  have ho := set_only w q k (.bool b)
  refine ⟨Nat.lt_of_lt_of_le t.lh ho.size, Nat.lt_of_lt_of_le t.lq ho.size, fun j hj => range_only ho t.lh hhq (t.rc j hj), World.there_setCells t.thr _ _ _, fun j hj => ?_, World.there_setCells t.tiq _ _ _⟩
  by_cases e : j = k
  · subst e
    rw [fu_same]
    exact World.rangeAt_setCells_same _ _ _ _ (t.there1 hk)
  · rw [fu_other _ _ e]
    refine World.rangeAt_setCells_apart (t.iss j hj) _ _ _ (.inr ?_)
    show j + 1 ≤ k ∨ k + 1 ≤ j
    omega
theorem Tab.r3 (t : Tab w h q n hv iz) (hk : k < n) : w.cell? ⟨h, k * 3, none⟩ = some (.int .i64 (hv k).s) ∧ w.cell? ⟨h, k * 3 + 1, none⟩ = some (.int .i64 (hv k).q) ∧ w.cell? ⟨h, k * 3 + 2, none⟩ = some (.slice (hv k).A (hv k).n (hv k).c) :=
  ⟨t.rc k hk 0 _ rfl, t.rc k hk 1 _ rfl, t.rc k hk 2 _ rfl⟩
theorem Tab.i1 (t : Tab w h q n hv iz) (hk : k < n) : w.cell? ⟨q, k, none⟩ = some (.bool (iz k)) := t.iss k hk 0 _ rfl
theorem Tab.f1 (t : Tab w h q n hv iz) (hk : k < n) : w.frozen? ⟨q, k, none⟩ = false := (t.there1 hk 0 (by decide)).2
end
theorem info_bool : (Tryd.prog.info? 4).map (fun i => (i.zero, i.size, i.bytes)) = some (some (.bool false), 1, 1) := by kernel_rfl
theorem make_recs (w : World) (n : Nat) (h1 : 1 ≤ n) (h8 : n ≤ 8) :
    ∃ w', (Instr.makeSlice 45 (.int .i64 (n : Int)) (.int .i64 (n : Int))).run Tryd.prog w = .ok (.slice (some ⟨w.heap.size, 0, none⟩) n n) w' ∧ (w.heap.size < w'.heap.size ∧ (∀ k, k < n → w'.rangeAt w.heap.size (k * 3) zeroRec.cells3) ∧ w'.there w.heap.size 0 (n * 3)) ∧ Below w.heap.size w w' := by
  obtain ⟨i1, ki, kz0, kz1, kz2⟩ := info_parts info_rec
  obtain ⟨w', hrun, r1, r2⟩ := run_make_full (P := Tryd.prog) w w.heap.size 45 24 i1 _ 3 Tryd.underlying45 ki kz0 kz1 .i64 .i64 n (by rw [kz2]; omega) (by unfold maxLen; omega) (Nat.le_refl _)
  have hc : ∀ j, j < n * 3 → w'.cell? ⟨w.heap.size, j, none⟩ = zeroRec.cells3[j % 3]? := fun j hj => by
    rw [World.ownsRow.cellAt r1 j hj]
    have h3 : j % 3 < 3 := Nat.mod_lt _ (by decide)
    have e : (Value.agg #[.int .i64 0, .int .i64 0, .slice none 0 0]).cells = #[.int .i64 0, .int .i64 0, .slice none 0 0] := rfl
    simp only [e, madeCells, Array.toList_map, Array.toList_range, List.getElem?_map, List.getElem?_range hj, Option.map_some]
    obtain h | h | h : j % 3 = 0 ∨ j % 3 = 1 ∨ j % 3 = 2 := by omega
    all_goals
      show some (#[Value.int .i64 0, .int .i64 0, .slice none 0 0][j % 3]!) = _
      rw [h]
      rfl
  refine ⟨w', hrun, ⟨(r1.lt _ rfl).2, fun k hk j v hv => ?_, fun j hj => ⟨?_, World.ownsRow.frozenAt r1 _⟩⟩, (Below.refl _ w).grown r2 (Nat.le_refl _) (fun _ h => by cases h)⟩
  · have hj : j < 3 := (List.getElem?_eq_some_iff.1 hv).1
    rw [hc _ (by omega), show (k * 3 + j) % 3 = j by omega]
    exact hv
  · rw [hc _ (by omega)]
    have h3 : (0 + j) % 3 < 3 := Nat.mod_lt _ (by decide)
    rw [List.getElem?_eq_getElem (by exact h3)]
    rfl
theorem make_bools (w : World) (n : Nat) (h1 : 1 ≤ n) (h8 : n ≤ 8) :
    ∃ w', (Instr.makeSlice 46 (.int .i64 (n : Int)) (.int .i64 (n : Int))).run Tryd.prog w = .ok (.slice (some ⟨w.heap.size, 0, none⟩) n n) w' ∧ (w.heap.size < w'.heap.size ∧ (∀ k, k < n → w'.rangeAt w.heap.size k [.bool false]) ∧ w'.there w.heap.size 0 n) ∧ Below w.heap.size w w' := by
  obtain ⟨i1, ki, kz0, kz1, kz2⟩ := info_parts info_bool
  obtain ⟨w', hrun, r1, r2⟩ := run_make_full (P := Tryd.prog) w w.heap.size 46 4 i1 _ 1 Tryd.underlying46 ki kz0 kz1 .i64 .i64 n (by rw [kz2]; omega) (by unfold maxLen; omega) (Nat.le_refl _)
  have hc : ∀ j, j < n → w'.cell? ⟨w.heap.size, j, none⟩ = some (.bool false) := fun j hj => by
    rw [World.ownsRow.cellAt r1 j (by omega)]
    rw [show (Value.bool false).cells = #[Value.bool false] from rfl, toList_madeCells_one]
    simp [hj]
  refine ⟨w', hrun, ⟨(r1.lt _ rfl).2, fun k hk j v hv => ?_, fun j hj => ⟨?_, World.ownsRow.frozenAt r1 _⟩⟩, (Below.refl _ w).grown r2 (Nat.le_refl _) (fun _ h => by cases h)⟩
  · have hj : j < 1 := (List.getElem?_eq_some_iff.1 hv).1
    obtain rfl : j = 0 := by omega
    rw [← hv]
    exact hc _ (by omega)
  · rw [Nat.zero_add, hc _ hj]; rfl
/-- What stands in a slot. -/
def SlotIs (S : Sh.Sf) (j : Nat) (z : RecV) (b : Bool) : Prop :=
  (b = true → ∃ x t : Nat, z.s = x ∧ z.q = t ∧ x < 1024 ∧ t < 15 ∧ z.n = 128 ∧ vals (dk S 0) (2 + 2 * j) = headL (numF x t (Nums.sum 0 z.l)) ∧ vals (dk S 0) (3 + 2 * j) = z.l) ∧ (b = false → vals (dk S 0) (2 + 2 * j) = Sh.noughts)
theorem SlotIs.same {S S' : Sh.Sf} {j : Nat} {z : RecV} {b : Bool} (h : SlotIs S j z b) (h1 : vals (dk S' 0) (2 + 2 * j) = vals (dk S 0) (2 + 2 * j)) (h2 : vals (dk S' 0) (3 + 2 * j) = vals (dk S 0) (3 + 2 * j)) : SlotIs S' j z b := by
  unfold SlotIs
  rw [h1, h2]
  exact h
/-- The log, its slots and the tables. -/
structure Lo (W wr : World) (g a p h q n m : Nat) (hv : Nat → RecV) (iz : Nat → Bool) (ev : Nat → RecV) (eb : Nat → Bool) : Prop where
  all : ∃ o S F, Lg W.heap.size W wr g a p 0 o S F n ∧ Jp S 0 o (fun _ => True) ∧ Calm S 0 ∧ S.sectors = 40 ∧ (∀ x ∈ S.disks, x.waits.length ≤ 4 * m) ∧ (¬ With F a h ∧ ¬ With F a q) ∧ ∀ j, j < n → SlotIs S j (ev j) (eb j)
  tab : Tab wr h q n hv iz
  ne : h ≠ q ∧ h ≠ g ∧ q ≠ g ∧ W.heap.size ≤ h ∧ W.heap.size ≤ q
  ok : ∀ j, RecOk W (hv j)
section
variable {W wr w' : World} {g a p h q n m : Nat} {hv ev : Nat → RecV} {iz eb : Nat → Bool}
theorem Lo.bel (L : Lo W wr g a p h q n m hv iz ev eb) : Below W.heap.size W wr := by obtain ⟨_, _, _, L, _⟩ := L.all; exact L.dv.on.bel
theorem Lo.next (L : Lo W wr g a p h q n m hv iz ev eb) : Lo W wr g a p h q n (m + 1) hv iz ev eb := by
  obtain ⟨o, S, F, h1, h2, h3, h4, h5, h6⟩ := L.all
  exact ⟨⟨o, S, F, h1, h2, h3, h4, fun x hx => by have := h5 x hx; omega, h6⟩, L.tab, L.ne, L.ok⟩
theorem Lo.grown (L : Lo W wr g a p h q n m hv iz ev eb) (hb : Below wr.heap.size wr w') : Lo W w' g a p h q n m hv iz ev eb := by
  obtain ⟨o, S, F, h1, h2⟩ := L.all
  exact ⟨⟨o, S, F, h1.grown hb, h2⟩, L.tab.only (only_below (fun _ => False) hb) (fun e => e) (fun e => e), L.ne, L.ok⟩
theorem tab_moves {F F' : Nat → Prop} (t : Tab wr h q n hv iz) (hN : ¬ F h ∧ ¬ F q) (hM : Sh.Moves F wr F' w') : Tab w' h q n hv iz ∧ ¬ F' h ∧ ¬ F' q := by
  refine ⟨t.only hM.1 hN.1 hN.2, fun e => ?_, fun e => ?_⟩
  · rcases hM.2 _ e with e | e
    · exact hN.1 e
    · have := t.lh; omega
  · rcases hM.2 _ e with e | e
    · exact hN.2 e
    · have := t.lq; omega
theorem Lo.put_yes (L : Lo W wr g a p h q n m hv iz ev eb) (hA : All W) (hn : n ≤ 8) (hm : m ≤ 300) {k : Nat} (hk : k < n) (z : RecV) (hz : RecOk W z) (hmb : mayB z.s z.q z.n = true) :
    Calls Tryd.prog 20 #[.pointer (some ⟨g, 0, none⟩), .int .i64 k, z.val] wr fun e w' => e = .returned (.int .i64 0) ∧ Lo W w' g a p h q n (m + 1) hv iz (fu ev k z) (fu eb k true) := by
  obtain ⟨o, S, F, h1, h2, h3, h4, h5, h6, h7⟩ := L.all
  obtain ⟨hn1, b1, b2⟩ := (mayB_iff hz.bs hz.bq).1 hmb
  obtain ⟨x, hx⟩ := nat_of b1.1
  obtain ⟨t, ht⟩ := nat_of b2.1
  have hll : z.l.length = 128 := by rw [hz.rd.len, hn1]
  have hq := put_jp h1 hA.tabs (hA.tabs.size) hA.fld (hA.fld.size) h2 k hk hn (by rw [h4, blk40]; omega) x t (by omega) (by omega) z.A z.c z.l ⟨hll, hz.sm⟩ (hz.beside h1 hn1) h5 (by omega)
  unfold RecV.val
  rw [← hx, ← ht, ← hn1] at hq
  refine hq.mono ?_
  rintro e w' ⟨y, rfl, o', S', hp, F', L', hM⟩
  obtain ⟨hy, hC⟩ := hp.calm h3
  subst hy
  obtain ⟨hv', _⟩ := hp.now hC.on
  obtain ⟨q1, q2⟩ := tab_moves L.tab h6 hM
  refine ⟨rfl, ⟨o', S', F', L', hp.jp.more (fun _ _ => trivial), hC, hp.sectors.trans h4, fun x hx => by have := hp.len x hx; omega, q2, fun j hj => ?_⟩, q1, L.ne, L.ok⟩
  by_cases e : j = k
  · subst e
    rw [fu_same, fu_same]
    refine ⟨fun _ => ⟨x, t, hx, ht, by omega, by omega, hn1, ?_, ?_⟩, fun e => by cases e⟩
    · rw [hv']; exact if_pos rfl
    · rw [hv']
      unfold upd
      rw [if_neg (by omega), if_pos rfl]
  · rw [fu_other _ _ e, fu_other _ _ e]
    refine (h7 j hj).same ?_ ?_
    · rw [hv']; unfold upd; rw [if_neg (by omega), if_neg (by omega)]
    · rw [hv']; unfold upd; rw [if_neg (by omega), if_neg (by omega)]
theorem Lo.put_not (L : Lo W wr g a p h q n m hv iz ev eb) (hA : All W) {k : Nat} (hk : k < n) (z : RecV) (hz : RecOk W z) (hmb : mayB z.s z.q z.n = false) :
    Calls Tryd.prog 20 #[.pointer (some ⟨g, 0, none⟩), .int .i64 k, z.val] wr fun e w' => e = .returned (.int .i64 1) ∧ Lo W w' g a p h q n (m + 1) hv iz ev eb := by
  obtain ⟨o, S, F, h1, h2⟩ := L.all
  have hAw := hA.over h1.dv.on.bel
  unfold RecV.val
  refine (put_no z.s z.q z.A z.n z.c wr h1.log k hk z.l hz.sm ((hz.rd.below h1.dv.on.bel).more h1.dv.on.bel.size) hz.le hAw.tabs hAw.fld hmb).mono ?_
  rintro e w' ⟨rfl, hb⟩
  exact ⟨rfl, (L.grown hb).next⟩
theorem Lo.put_out (L : Lo W wr g a p h q n m hv iz ev eb) (k : Int) (hk : k < 0 ∨ (0 ≤ k ∧ (n : Int) ≤ k)) (z : RecV) :
    Calls Tryd.prog 20 #[.pointer (some ⟨g, 0, none⟩), .int .i64 k, z.val] wr fun e w' => e = .returned (.int .i64 1) ∧ Lo W w' g a p h q n (m + 1) hv iz ev eb := by
  obtain ⟨o, S, F, h1, h2⟩ := L.all
  unfold RecV.val
  refine (put_slot z.s z.q z.A z.n z.c wr h1.log k hk).mono ?_
  rintro e w' ⟨rfl, hb⟩
  exact ⟨rfl, (L.grown hb).next⟩
theorem Lo.clear_in (L : Lo W wr g a p h q n m hv iz ev eb) (hA : All W) (hn : n ≤ 8) (hm : m ≤ 300) {k : Nat} (hk : k < n) :
    Calls Tryd.prog 21 #[.pointer (some ⟨g, 0, none⟩), .int .i64 k] wr fun e w' => e = .returned (.int .i64 0) ∧ Lo W w' g a p h q n (m + 1) hv iz ev (fu eb k false) := by
  obtain ⟨o, S, F, h1, h2, h3, h4, h5, h6, h7⟩ := L.all
  refine (clear_jp h1 hA.tabs hA.tabs.size h2 k hk hn (by rw [h4, blk40]; omega) h5 (by omega)).mono ?_
  rintro e w' ⟨y, rfl, o', S', hp, F', L', hM⟩
  obtain ⟨hy, hC⟩ := hp.calm h3
  subst hy
  obtain ⟨hv', _⟩ := hp.now hC.on
  obtain ⟨q1, q2⟩ := tab_moves L.tab h6 hM
  refine ⟨rfl, ⟨o', S', F', L', hp.jp.more (fun _ _ => trivial), hC, hp.sectors.trans h4, fun x hx => by have := hp.len x hx; omega, q2, fun j hj => ?_⟩, q1, L.ne, L.ok⟩
  by_cases e : j = k
  · subst e
    rw [fu_same]
    refine ⟨fun e => (by cases e), fun _ => ?_⟩
    rw [hv']; exact if_pos rfl
  · rw [fu_other _ _ e]
    refine (h7 j hj).same ?_ ?_
    · rw [hv']; unfold upd; rw [if_neg (by omega)]
    · rw [hv']; unfold upd; rw [if_neg (by omega)]
theorem Lo.clear_out (L : Lo W wr g a p h q n m hv iz ev eb) (k : Int) (hk : k < 0 ∨ (0 ≤ k ∧ (n : Int) ≤ k)) :
    Calls Tryd.prog 21 #[.pointer (some ⟨g, 0, none⟩), .int .i64 k] wr fun e w' => e = .returned (.int .i64 1) ∧ Lo W w' g a p h q n (m + 1) hv iz ev eb := by
  obtain ⟨o, S, F, h1, h2⟩ := L.all
  refine (clear_slot h1.log k hk).mono ?_
  rintro e w' ⟨rfl, rfl⟩
  exact ⟨rfl, L.next⟩
theorem Lo.flush (L : Lo W wr g a p h q n m hv iz ev eb) (hm : m ≤ 300) :
    Calls Tryd.prog 23 #[.pointer (some ⟨a, 0, none⟩)] wr fun e w' => e = .returned (.int .i64 0) ∧ Lo W w' g a p h q n (m + 1) hv iz ev eb := by
  obtain ⟨o, S, F, h1, h2, h3, h4, h5, h6, h7⟩ := L.all
  have hw := h2.one.why0.mpr h3.on
  have hf := flush_dev h1.dv h3.lt (fun k hk => by have := h5 k hk; omega)
  rw [hw] at hf
  refine hf.mono ?_
  rintro e w' ⟨rfl, hG⟩
  obtain ⟨F', L', hM⟩ := h1.goes hG
  obtain ⟨q1, q2⟩ := tab_moves L.tab h6 hM
  obtain ⟨j1, j2, _⟩ := h2.flush h3.on (shut 0 o)
  have hl := fl_lens (d := 0) h5
  have hC : Calm (Fl S 0) 0 := h3.fl
  exact ⟨rfl, ⟨shut 0 o, Fl S 0, F', L', j1.more (fun _ _ => trivial), hC, (fl_sectors S 0).trans h4, fun x hx => by have := hl x hx; omega, q2, fun j hj => (h7 j hj).same (by rw [j2]) (by rw [j2])⟩, q1, L.ne, L.ok⟩
theorem Lo.get_out (L : Lo W wr g a p h q n m hv iz ev eb) (k : Int) (hk : k < 0 ∨ (0 ≤ k ∧ (n : Int) ≤ k)) :
    Calls Tryd.prog 22 #[.pointer (some ⟨g, 0, none⟩), .int .i64 k] wr fun e w' => e = .returned (.tuple #[.agg #[.int .i64 0, .int .i64 0, .slice none 0 0], .int .i64 1]) ∧ Lo W w' g a p h q n (m + 1) hv iz ev eb := by
  obtain ⟨o, S, F, h1, h2⟩ := L.all
  refine (get_slot h1.log k hk).mono ?_
  rintro e w' ⟨rfl, hb⟩
  exact ⟨rfl, (L.grown hb).next⟩
theorem Lo.get_in (L : Lo W wr g a p h q n m hv iz ev eb) (hA : All W) (hn : n ≤ 8) {k : Nat} (hk : k < n) :
    Calls Tryd.prog 22 #[.pointer (some ⟨g, 0, none⟩), .int .i64 k] wr fun e w' => Lo W w' g a p h q n (m + 1) hv iz ev eb ∧
      ((eb k = false ∧ e = .returned (.tuple #[.agg #[.int .i64 0, .int .i64 0, .slice none 0 0], .int .i64 7])) ∨
       (eb k = true ∧ ∃ A c, e = .returned (.tuple #[.agg #[.int .i64 (ev k).s, .int .i64 (ev k).q, .slice A 128 c], .int .i64 0]) ∧ Reads w' w'.heap.size A 128 (bts (ev k).l) ∧ Small (ev k).l)) := by
  obtain ⟨o, S, F, h1, h2, h3, h4, h5, h6, h7⟩ := L.all
  have hg : ∀ i, i < blk S.sectors → goodAt S 0 i = true := fun i hi => h2.good h3.on i hi
  have hbk : blk S.sectors = 37 := by rw [h4]; exact blk40
  have hsl := h7 k hk
  refine (get_calm h1 hA.tabs hA.tabs.size hA.fld hA.fld.size h3 k hk hn (by omega) (hg _ (by omega)) (hg _ (by omega))).mono ?_
  rintro e w' ⟨hgot, S', hR, L', hO⟩
  have hL' : Lo W w' g a p h q n (m + 1) hv iz ev eb := ⟨⟨o, S', F, L', hR.jp h2, hR.calm h3, hR.sectors.trans h4, fun x hx => by rw [hR.disks] at hx; have := h5 x hx; omega, h6, fun j hj => (h7 j hj).same (by rw [hR.dk]) (by rw [hR.dk])⟩, L.tab.only hO (fun e => h6.1 (.inl e)) (fun e => h6.2 (.inl e)), L.ne, L.ok⟩
  refine ⟨hL', ?_⟩
  rw [← vals_V, ← vals_V] at hgot
  cases hb : eb k with
  | false =>
    have e0 := hsl.2 hb
    rw [e0] at hgot
    rcases hgot with ⟨_, rfl⟩ | ⟨hz, _⟩ | ⟨hz, _⟩
    · exact .inl ⟨rfl, rfl⟩
    · exact absurd rfl hz
    · exact absurd rfl hz
  | true =>
    obtain ⟨x, t, e1, e2, hx, ht, _, e4, e5⟩ := hsl.1 hb
    have hs : Small (ev k).l := by
      rw [← e5]
      exact (V_sec h1.dv.on.shelf h3.lt (n := dataOf (3 + 2 * k)) (sum_of_lt (by omega)).1).2
    obtain ⟨o1, o2, o3, _⟩ := okD_head hx ht (ev k).l hs
    rw [e4, e5] at hgot
    rcases hgot with ⟨hz, _⟩ | ⟨_, ho, _⟩ | ⟨_, _, A, c, rfl, own⟩
    · exact absurd hz (headL_ne _)
    · rw [o1] at ho; cases ho
    · rw [o2, o3]
      exact .inr ⟨rfl, A, c, by rw [e1, e2], Reads.of_own own, hs⟩
theorem Lo.put_tab (L : Lo W wr g a p h q n m hv iz ev eb) {k : Nat} (hk : k < n) (z : RecV) (hz : RecOk W z) : Lo W (wr.setCells h (k * 3) z.cells3) g a p h q n m (fu hv k z) iz ev eb := by
  obtain ⟨o, S, F, h1, h2, h3, h4, h5, h6, h7⟩ := L.all
  refine ⟨⟨o, S, F, h1.away (put_only wr h (k * 3) z) (fun b e => by subst e; exact ⟨h6.1, L.ne.2.1, L.ne.2.2.2.1⟩), h2, h3, h4, h5, h6, h7⟩, L.tab.put L.ne.1 hk z, L.ne, fun j => ?_⟩
  unfold fu
  split
  · exact hz
  · exact L.ok j
theorem Lo.set_tab (L : Lo W wr g a p h q n m hv iz ev eb) {k : Nat} (hk : k < n) (b : Bool) : Lo W (wr.setCells q k [.bool b]) g a p h q n m hv (fu iz k b) ev eb := by
  obtain ⟨o, S, F, h1, h2, h3, h4, h5, h6, h7⟩ := L.all
  exact ⟨⟨o, S, F, h1.away (set_only wr q k (.bool b)) (fun b e => by subst e; exact ⟨h6.2, L.ne.2.2.1, L.ne.2.2.2.2⟩), h2, h3, h4, h5, h6, h7⟩, L.tab.set L.ne.1 hk b, L.ne, L.ok⟩
end
end Go.Proofs.YtohdieddocogkaaDoor.U
