/-
  A shelf and the definition's beside each other, and the box of a call; the bytes that a call writes.
  Conditions: each theorem's own.
-/
import Derived.Test.YtbkcdomapdflaaaKl
namespace Go.Proofs.Ytbkcdomapdflaaa.Sh
open Go.RowKit Go.Maps

/-- The shelf at p, the definition's at q, both in memory that the statement made; beside them a box. -/
structure Duo (W w : World) (p q B0 : Nat) (OC : Array Value) (S R : Sf) (F G : Nat → Prop) : Prop where
  sh : Shelf w p S F
  rf : Ref w q R G
  apart : ∀ b, F b → ¬ G b
  lowF : ∀ b, F b → W.heap.size ≤ b
  lowG : ∀ b, G b → W.heap.size ≤ b
  bel : Below W.heap.size W w
  box : w.heap[B0]? = some (.cells OC 33 (0, 0))
  boxF : ¬ F B0
  boxG : ¬ G B0
section
variable {W w w1 : World} {p q B0 : Nat} {OC : Array Value} {S R S' R' : Sf} {F G : Nat → Prop}
theorem Ref.lt (h : Ref w q R G) {b : Nat} (hb : G b) : b < w.heap.size := by obtain ⟨_, _, _, _, _, h⟩ := h; exact h.ltF b hb
theorem Ref.only {X : Nat → Prop} (h : Ref w q R G) (ho : Only X w w1) (hX : ∀ b, G b → ¬ X b) : Ref w1 q R G := by
  obtain ⟨D, gs, Ls, st, l, h⟩ := h
  exact ⟨D, gs, Ls, st, l, h.only ho hX⟩
theorem Duo.b0 (h : Duo W w p q B0 OC S R F G) : B0 < w.heap.size := lt_of_block h.box
theorem Duo.left (h : Duo W w p q B0 OC S R F G) (hl : Left F w p S' w1) : ∃ F', Duo W w1 p q B0 OC S' R F' G ∧ Moves F w F' w1 := by
  obtain ⟨F', hs, hm⟩ := hl
  refine ⟨F', ⟨hs, h.rf.only hm.1 (fun b hb hf => h.apart b hf hb), fun b h1 h2 => ?_, fun b hb => ?_, h.lowG, h.bel.trans (hm.1.below h.lowF h.bel.size), (hm.1.block B0 h.b0 h.boxF).trans h.box, fun e => ?_, h.boxG⟩, hm⟩
  · rcases hm.2 b h1 with e | e
    · exact h.apart b e h2
    · have := h.rf.lt h2; omega
  · rcases hm.2 b hb with e | e
    · exact h.lowF b e
    · exact Nat.le_trans h.bel.size e
  · rcases hm.2 B0 e with e | e
    · exact h.boxF e
    · have := h.b0; omega
theorem Duo.right (h : Duo W w p q B0 OC S R F G) (hl : RLeft G w q R' w1) : ∃ G', Duo W w1 p q B0 OC S R' F G' ∧ Moves G w G' w1 := by
  obtain ⟨G', hs, hm⟩ := hl
  refine ⟨G', ⟨h.sh.only hm.1 (fun b hb hf => h.apart b hb hf), hs, fun b h1 h2 => ?_, h.lowF, fun b hb => ?_, h.bel.trans (hm.1.below h.lowG h.bel.size), (hm.1.block B0 h.b0 h.boxG).trans h.box, h.boxF, fun e => ?_⟩, hm⟩
  · rcases hm.2 b h2 with e | e
    · exact h.apart b h1 e
    · have := h.sh.ltF h1; omega
  · rcases hm.2 b hb with e | e
    · exact h.lowG b e
    · exact Nat.le_trans h.bel.size e
  · rcases hm.2 B0 e with e | e
    · exact h.boxG e
    · have := h.b0; omega
theorem Duo.grown (h : Duo W w p q B0 OC S R F G) (hb : Below w.heap.size w w1) : Duo W w1 p q B0 OC S R F G :=
  have ho : Only (fun _ => False) w w1 := ⟨hb.os, hb.tape, hb.output, hb.size, fun k hk _ => hb.block k hk⟩
  ⟨h.sh.only ho (fun _ _ e => e), h.rf.only ho (fun _ _ e => e), h.apart, h.lowF, h.lowG, h.bel.trans (hb.mono h.bel.size), (hb.block B0 h.b0).trans h.box, h.boxF, h.boxG⟩
theorem Duo.poke (h : Duo W w p q B0 OC S R F G) {a : Addr} (hF : ¬ F a.block) (hG : ¬ G a.block) (hW : W.heap.size ≤ a.block) (hB : a.block ≠ B0) (v : Value) : Duo W (w.setCell a v) p q B0 OC S R F G :=
  have ho : Only (fun b => b = a.block) w (w.setCell a v) := Only.setCell (F := fun b => b = a.block) (Only.refl _ w) (.inl rfl) v
  ⟨h.sh.only ho (fun _ hb e => hF (e ▸ hb)), h.rf.only ho (fun _ hb e => hG (e ▸ hb)), h.apart, h.lowF, h.lowG, h.bel.setCell hW v, (heap_set_other w a v (Ne.symm hB)).trans h.box, h.boxF, h.boxG⟩
/-- A slice of bytes beside both that may be written. -/
structure Own (w : World) (A : Option Addr) (m B0 L : Nat) (F G : Nat → Prop) : Prop where
  there : 0 < m → ∃ ad, A = some ad ∧ ¬ F ad.block ∧ ¬ G ad.block ∧ L ≤ ad.block ∧ ad.block ≠ B0 ∧ ad.block < w.heap.size ∧ ∀ j, j < m → (∃ x : Nat, x < 256 ∧ w.cell? (ad.add j) = some (.int .u8 (x : Int))) ∧ w.frozen? (ad.add j) = false
theorem Own.at_ {A : Option Addr} {m L : Nat} (h : Own w A m B0 L F G) {j : Nat} (hj : j < m) : ∃ ad x, A = some ad ∧ ¬ F ad.block ∧ ¬ G ad.block ∧ L ≤ ad.block ∧ ad.block ≠ B0 ∧ x < 256 ∧ w.cell? (ad.add j) = some (.int .u8 ((x : Nat) : Int)) ∧ w.frozen? (ad.add j) = false := by
  obtain ⟨ad, h1, h2, h3, h4, h5, _, h6⟩ := h.there (by omega)
  obtain ⟨⟨x, h7, h8⟩, h9⟩ := h6 j hj
  exact ⟨ad, x, h1, h2, h3, h4, h5, h7, h8, h9⟩
theorem Own.poke {A : Option Addr} {m L : Nat} {ad : Addr} (h : Own w A m B0 L F G) (hA : A = some ad) (j : Nat) (y : Nat) (hy : y < 256) : Own (w.setCell (ad.add j) (.int .u8 (y : Int))) A m B0 L F G := by
  refine ⟨fun h0 => ?_⟩
  obtain ⟨ad', h1, h2, h3, h4, h5, h6, h7⟩ := h.there h0
  rw [hA] at h1
  injection h1 with h1
  subst h1
  refine ⟨ad, hA, h2, h3, h4, h5, by simpa using h6, fun i hi => ?_⟩
  obtain ⟨⟨x, hx, hc⟩, hf⟩ := h7 i hi
  refine ⟨?_, by rw [World.frozen?_setCell]; exact hf⟩
  by_cases e : ad.add i = ad.add j
  · refine ⟨y, hy, ?_⟩
    rw [← e, World.cell?_setCell_same' w (ad.add i) _ (by rw [hc]; rfl)]
  · exact ⟨x, hx, by rw [World.cell?_setCell_other w (ad.add j) (ad.add i) _ (by intro e2; first | exact e e2 | exact e e2.symm)]; exact hc⟩
theorem Own.grown {A : Option Addr} {m L : Nat} (h : Own w A m B0 L F G) (hb : Below w.heap.size w w1) : Own w1 A m B0 L F G := by
  refine ⟨fun h0 => ?_⟩
  obtain ⟨ad, h1, h2, h3, h4, h5, h6, h7⟩ := h.there h0
  refine ⟨ad, h1, h2, h3, h4, h5, Nat.lt_of_lt_of_le h6 hb.size, fun i hi => ?_⟩
  obtain ⟨⟨x, hx, hc⟩, hf⟩ := h7 i hi
  have hlt : (ad.add i).block < w.heap.size := by rw [block_of_add]; exact h6
  exact ⟨⟨x, hx, (hb.cell hlt).trans hc⟩, (World.frozen?_of_block (hb.block _ hlt)).trans hf⟩
theorem Own.movesF {A : Option Addr} {m L : Nat} {F' : Nat → Prop} (h : Own w A m B0 L F G) (hm : Moves F w F' w1) : Own w1 A m B0 L F' G := by
  refine ⟨fun h0 => ?_⟩
  obtain ⟨ad, h1, h2, h3, h4, h5, h6, h7⟩ := h.there h0
  refine ⟨ad, h1, fun e => ?_, h3, h4, h5, Nat.lt_of_lt_of_le h6 hm.1.size, fun i hi => ?_⟩
  · rcases hm.2 _ e with e | e
    · exact h2 e
    · omega
  · obtain ⟨⟨x, hx, hc⟩, hf⟩ := h7 i hi
    have hlt : (ad.add i).block < w.heap.size := by rw [block_of_add]; exact h6
    have hn : ¬ F (ad.add i).block := by rw [block_of_add]; exact h2
    exact ⟨⟨x, hx, (hm.1.cell hlt hn).trans hc⟩, (hm.1.frozen hlt hn).trans hf⟩
theorem Own.movesG {A : Option Addr} {m L : Nat} {G' : Nat → Prop} (h : Own w A m B0 L F G) (hm : Moves G w G' w1) : Own w1 A m B0 L F G' := by
  refine ⟨fun h0 => ?_⟩
  obtain ⟨ad, h1, h2, h3, h4, h5, h6, h7⟩ := h.there h0
  refine ⟨ad, h1, h2, fun e => ?_, h4, h5, Nat.lt_of_lt_of_le h6 hm.1.size, fun i hi => ?_⟩
  · rcases hm.2 _ e with e | e
    · exact h3 e
    · omega
  · obtain ⟨⟨x, hx, hc⟩, hf⟩ := h7 i hi
    have hlt : (ad.add i).block < w.heap.size := by rw [block_of_add]; exact h6
    have hn : ¬ G (ad.add i).block := by rw [block_of_add]; exact h3
    exact ⟨⟨x, hx, (hm.1.cell hlt hn).trans hc⟩, (hm.1.frozen hlt hn).trans hf⟩
/-- New bytes, beside both. -/
theorem own_new {A : Option Addr} {b : Bs} {L : Nat} (hr : Reads w1 w1.heap.size A b.length (bts b)) (hb : Small b) (hn : ∀ a, 0 < b.length → A = some a → w.heap.size ≤ a.block ∧ ∀ j, j < b.length → w1.frozen? (a.add j) = false)
    (hF : ∀ x, F x → x < w.heap.size) (hG : ∀ x, G x → x < w.heap.size) (hL : L ≤ w.heap.size) (hB : B0 < w.heap.size) : Own w1 A b.length B0 L F G := by
  refine ⟨fun h0 => ?_⟩
  obtain ⟨ad, h1, h2, h3⟩ := hr.2 h0
  obtain ⟨h4, h5⟩ := hn ad h0 h1
  refine ⟨ad, h1, fun e => by have := hF _ e; omega, fun e => by have := hG _ e; omega, by omega, by omega, h2, fun j hj => ⟨⟨b.getD j 0, hb.get j, h3 j _ (bts_get b j hj)⟩, h5 j hj⟩⟩
/-- The bytes that a call writes. -/
def bytesOf (o : OpV) : Bs := if o.kind = 9 then (if o.at_ < 0 ∨ 300 < o.at_ then [] else List.replicate o.at_.toNat 0) else secOf o.x
def opCells (o : OpV) : Array Value := #[.int .i64 o.kind, .int .i64 o.d, .int .i64 o.n, .int .i64 o.at_, .int .u8 (o.x : Int), .slice o.A o.m o.c]
theorem bytesOf_small (o : OpV) (hx : o.x < 256) : Small (bytesOf o) := by
  unfold bytesOf
  split
  · split
    · intro x hx; cases hx
    · intro x hx; rw [List.eq_of_mem_replicate hx]; decide
  · exact (secOf_sec hx).2
def BytesNew (w : World) (b : Bs) (e : Ending) (w' : World) : Prop :=
  ∃ A c, e = .returned (.slice A b.length c) ∧ Reads w' w'.heap.size A b.length (bts b) ∧ (∀ a, 0 < b.length → A = some a → w.heap.size ≤ a.block ∧ ∀ j, j < b.length → w'.frozen? (a.add j) = false) ∧ Below w.heap.size w w'
theorem zeros_row (m : Nat) : (madeCells (Value.int .u8 0).cells (m * 1)).toList = bts (List.replicate m 0) := by
  rw [Nat.mul_one]
  refine (toList_madeCells_one _ _).trans ?_
  simp [bts]
theorem row_new {base g n c : Nat} {b : Bs} (ho : w1.ownsRow base 5 1 (.slice (some ⟨g, 0, none⟩) n c) n (bts b)) (hg : w.heap.size ≤ g) : Reads w1 w1.heap.size (some ⟨g, 0, none⟩) n (bts b) ∧ (∀ a : Addr, 0 < n → some (⟨g, 0, none⟩ : Addr) = some a → w.heap.size ≤ a.block ∧ ∀ j, j < n → w1.frozen? (a.add j) = false) := by
  refine ⟨Reads.of_own ho, fun a _ ha => ?_⟩
  injection ha with ha
  subst ha
  refine ⟨hg, fun j _ => ?_⟩
  have e : (⟨g, 0, none⟩ : Addr).add j = ⟨g, j, none⟩ := by unfold Addr.add; split <;> simp_all
  rw [e]
  exact ho.frozenAt j
end
set_option maxRecDepth 20000 in
theorem bytes_any (w : World) (o : OpV) (hx : o.x < 256) : Calls Try.prog 29 #[.agg (opCells o)] w (BytesNew w (bytesOf o)) := by
  obtain ⟨i1, ki, kz0, kz1, kz2⟩ := info_parts info_u8
  have hbox := heap_alloc_new w (.cells (opCells o) 33)
  have hb0 : Below w.heap.size w (w.alloc (.cells (opCells o) 33)) := (Below.refl _ w).alloc (Nat.le_refl _) _
  unfold opCells at *
  have j0 := cell_of_row _ _ 0 _ _ _ hbox
  have j3 := cell_of_row _ _ 3 _ _ _ hbox
  have j4 := cell_of_row _ _ 4 _ _ _ hbox
  simp only [List.getElem?_toArray, List.getElem?_cons_zero, List.getElem?_cons_succ] at j0 j3 j4
  have HB := Lib.hid hb0
  have hz := hb0.size
  have HD : Hid (∀ e w', BytesNew w (bytesOf o) e w' → BytesNew w (bytesOf o) e w') := Lib.hid (fun _ _ h => h)
  clear hbox hb0
  by_cases h9 : o.kind = 9
  · have q9 : (o.kind == 9) = true := by rw [beq_iff_eq]; exact h9
    by_cases hlo : o.at_ < 0
    · have e : bytesOf o = [] := by unfold bytesOf; rw [if_pos h9, if_pos (.inl hlo)]
      have HE := Lib.hid e
      clear e h9
      generalize hP : BytesNew w (bytesOf o) = P at *
      have HP := Lib.hid hP
      clear hP
      go_enter Try.func29, Try.ntmps29
      go_wp2
      rw [← HP.out, HE.out]
      exact ⟨none, 0, rfl, Reads.none_, fun a h0 => absurd h0 (by decide), HB.out⟩
    · have q1 : decide (o.at_ < 0) = false := decide_eq_false hlo
      by_cases hhi : o.at_ > 300
      · have e : bytesOf o = [] := by unfold bytesOf; rw [if_pos h9, if_pos (.inr hhi)]
        have HE := Lib.hid e
        clear e h9
        generalize hP : BytesNew w (bytesOf o) = P at *
        have HP := Lib.hid hP
        clear hP
        go_enter Try.func29, Try.ntmps29
        go_wp2
        rw [← HP.out, HE.out]
        exact ⟨none, 0, rfl, Reads.none_, fun a h0 => absurd h0 (by decide), HB.out⟩
      · have q2 : decide (o.at_ > 300) = false := decide_eq_false hhi
        obtain ⟨m, hm⟩ : ∃ m : Nat, o.at_ = (m : Int) := ⟨o.at_.toNat, by omega⟩
        have e : bytesOf o = List.replicate m 0 := by
          unfold bytesOf
          rw [if_pos h9, if_neg (by omega), hm]
          rfl
        have HE := Lib.hid e
        clear e h9
        generalize hP : BytesNew w (bytesOf o) = P at *
        have HP := Lib.hid hP
        clear hP
        rw [hm] at j3 q1 q2 hlo hhi
        go_enter Try.func29, Try.ntmps29
        rw [hm]
        go_wp2_with (at_make; refine wpList_make_full _ rfl _ _ 36 rfl w.heap.size 5 i1 _ 1 Try.underlying36 ki kz0 kz1 _ _ _ _ m rfl rfl rfl rfl (by rw [kz2]; omega) (by unfold maxLen; omega) (by simp) ?_; intro w2 hown2 hgrow2)
        rw [← HP.out, HE.out]
        rw [zeros_row] at hown2
        have hl : (List.replicate m 0).length = m := List.length_replicate
        have hz2 : (w.alloc (.cells #[.int .i64 o.kind, .int .i64 o.d, .int .i64 o.n, .int .i64 (m : Int), .int .u8 (o.x : Int), .slice o.A o.m o.c] 33)).heap.size = w.heap.size + 1 := by simp
        rw [hz2] at hown2
        obtain ⟨h1, h2⟩ := row_new (w := w) hown2 (by omega)
        refine ⟨_, m, by rw [hl], by rw [hl]; exact h1, by rw [hl]; exact h2, ?_⟩
        have HB2 := HB.out
        rw [hm] at HB2
        exact HB2.grown hgrow2 (by rw [hz2]; omega) (fun _ h => by cases h)
  · have q9 : (o.kind == 9) = false := by rw [beq_eq_false_iff_ne]; exact h9
    have e : bytesOf o = secOf o.x := by unfold bytesOf; rw [if_neg h9]
    have HE := Lib.hid e
    clear e h9
    generalize hP : BytesNew w (bytesOf o) = P at *
    have HP := Lib.hid hP
    clear hP
    go_enter Try.func29, Try.ntmps29
    go_wp2_with (go_at_call 9; refine (sector_any _ _ hx).mono ?_; rintro e w2 ⟨rfl, hown, hb2⟩)
    go_wp2
    rw [← HP.out, HE.out]
    have hl : (secOf o.x).length = 128 := (secOf_sec hx).1
    have hz2 : (w.alloc (.cells #[.int .i64 o.kind, .int .i64 o.d, .int .i64 o.n, .int .i64 o.at_, .int .u8 (o.x : Int), .slice o.A o.m o.c] 33)).heap.size = w.heap.size + 1 := by simp
    rw [hz2] at hown
    obtain ⟨h1, h2⟩ := row_new (w := w) hown (by omega)
    exact ⟨_, 128, by rw [hl]; rfl, by rw [hl]; exact h1, by rw [hl]; exact h2, HB.out.trans (hb2.mono hz)⟩
end Go.Proofs.Ytbkcdomapdflaaa.Sh
