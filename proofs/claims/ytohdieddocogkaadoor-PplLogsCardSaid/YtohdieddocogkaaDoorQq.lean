/-
  ppl: records that were put into a slot.
  Conditions: each theorem's own.
-/
import Derived.Test.YtohdieddocogkaaDoorQp
namespace Go.Proofs.YtohdieddocogkaaDoor.U
open Go.ChangeShapes Go.WideShapes Go.ChangeAt Go.RowKit Go.Maps

theorem bel_on {w w1 w2 : World} (h : Below w.heap.size w w1) (k : Below w1.heap.size w1 w2) : Below w.heap.size w w2 := h.trans (k.mono h.size)
def RecV.cells3 (z : RecV) : List Value := [.int .i64 z.s, .int .i64 z.q, .slice z.A z.n z.c]
def rowsOf (zs : List RecV) : List Value := zs.flatMap RecV.cells3
def zf (zs : List RecV) (i : Nat) : RecV := zs.getD i ⟨0, 0, none, 0, 0, []⟩
theorem rowsOf_length (zs : List RecV) : (rowsOf zs).length = zs.length * 3 := by
  induction zs with
  | nil => rfl
  | cons e t ih => simp [rowsOf, RecV.cells3] at *; omega
theorem rowsOf_snoc (zs : List RecV) (z : RecV) : rowsOf (zs ++ [z]) = rowsOf zs ++ z.cells3 := by simp [rowsOf]
theorem rowsOf_get : ∀ (zs : List RecV) (i r : Nat), i < zs.length → r < 3 → (rowsOf zs)[i * 3 + r]? = (zf zs i).cells3[r]?
  | [], _, _, h, _ => absurd h (Nat.not_lt_zero _)
  | z :: zs, 0, r, _, hr => by
    show (z.cells3 ++ rowsOf zs)[0 * 3 + r]? = z.cells3[r]?
    rw [Nat.zero_mul, Nat.zero_add, List.getElem?_append_left (by show r < 3; exact hr)]
  | z :: zs, i + 1, r, h, hr => by
    show (z.cells3 ++ rowsOf zs)[(i + 1) * 3 + r]? = (zf zs i).cells3[r]?
    rw [List.getElem?_append_right (by show 3 ≤ _; omega)]
    have e : (i + 1) * 3 + r - z.cells3.length = i * 3 + r := by show (i + 1) * 3 + r - 3 = _; omega
    rw [e]
    exact rowsOf_get zs i r (by simpa using h) hr
theorem zf_mem {zs : List RecV} {i : Nat} (h : i < zs.length) : zf zs i ∈ zs := by
  unfold zf
  rw [List.getD, List.getElem?_eq_getElem h]
  exact List.getElem_mem h
/-- What the second slot may have: nothing, or a head and a part of what was put there. -/
def MayP (zs : List RecV) : Cs := fun c => c 4 = Sh.noughts ∨ ((∃ z ∈ zs, ∃ x t : Nat, z.s = x ∧ z.q = t ∧ x < 1024 ∧ t < 15 ∧ c 4 = headL (numF x t (Nums.sum 0 z.l))) ∧ ∃ z ∈ zs, c 5 = z.l)
theorem MayP.more {zs : List RecV} {c : Nat → Sh.Bs} (h : MayP zs c) (z : RecV) : MayP (zs ++ [z]) c :=
  h.imp id fun ⟨⟨u, hu, h1⟩, v, hv, h2⟩ => ⟨⟨u, List.mem_append_left _ hu, h1⟩, v, List.mem_append_left _ hv, h2⟩
/-- The log, and the list of what was put. -/
structure Bg (W wr : World) (g a p : Nat) (v : Value) (k : Nat) (zs : List RecV) : Prop where
  all : ∃ o S F, Lg W.heap.size W wr g a p 0 o S F 2 ∧ Jp S 0 o (MayP zs) ∧ S.sectors = 40 ∧ (∀ x ∈ S.disks, x.waits.length ≤ 4 * k) ∧ (∀ b, v.ownBlock = some b → ¬ With F a b ∧ b ≠ g)
  own : wr.ownsRow W.heap.size 24 3 v zs.length (rowsOf zs)
  ok : ∀ z ∈ zs, RecOk W z
section
variable {W wr w' : World} {g a p k : Nat} {v : Value} {zs : List RecV}
theorem Bg.bel (h : Bg W wr g a p v k zs) : Below W.heap.size W wr := by obtain ⟨_, _, _, L, _⟩ := h.all; exact L.dv.on.bel
theorem Bg.next (h : Bg W wr g a p v k zs) : Bg W wr g a p v (k + 1) zs := by
  obtain ⟨o, S, F, h1, h2, h3, h4, h5⟩ := h.all
  exact ⟨⟨o, S, F, h1, h2, h3, fun x hx => by have := h4 x hx; omega, h5⟩, h.own, h.ok⟩
theorem Bg.grown (h : Bg W wr g a p v k zs) (hb : Below wr.heap.size wr w') : Bg W w' g a p v k zs := by
  obtain ⟨o, S, F, h1, h2⟩ := h.all
  exact ⟨⟨o, S, F, h1.grown hb, h2⟩, Sh.same_row h.own (fun b e => hb.block b (h.own.lt b e).2), h.ok⟩
/-- What moves of the log leaves the list alone. -/
theorem row_moves {F F' : Nat → Prop} (hO : wr.ownsRow W.heap.size 24 3 v zs.length (rowsOf zs)) (hN : ∀ b, v.ownBlock = some b → ¬ F b ∧ b ≠ g) (hM : Sh.Moves F wr F' w') :
    w'.ownsRow W.heap.size 24 3 v zs.length (rowsOf zs) ∧ ∀ b, v.ownBlock = some b → ¬ F' b ∧ b ≠ g := by
  refine ⟨Sh.same_row hO (fun b e => hM.1.block b (hO.lt b e).2 (hN b e).1), fun b e => ⟨fun e2 => ?_, (hN b e).2⟩⟩
  rcases hM.2 b e2 with e3 | e3
  · exact (hN b e).1 e3
  · have := (hO.lt b e).2; omega
theorem Bg.put (h : Bg W wr g a p v k zs) (hA : All W) (hk : k ≤ 300) (slot : Int) (hsl : I64 slot) (z : RecV) (hz : RecOk W z) (hin : slot = 1 → z ∈ zs) :
    Calls Tryd.prog 20 #[.pointer (some ⟨g, 0, none⟩), .int .i64 slot, z.val] wr fun e w' => (∃ y : Int, e = .returned (.int .i64 y)) ∧ Bg W w' g a p v (k + 1) zs := by
  obtain ⟨o, S, F, h1, h2, h3, h4, h5⟩ := h.all
  refine (put_any (P' := MayP zs) h1 hA h2 slot hsl z hz (by decide) (by rw [h3, blk40]; decide) h4 (by omega) (fun _ e => e) ?_).mono ?_
  · intro j x t e hj hs hq hx ht hl c hc
    obtain rfl | rfl : j = 0 ∨ j = 1 := by omega
    · exact ⟨hc, hc⟩
    · have hm := hin e
      refine ⟨?_, .inr ⟨⟨z, hm, x, t, hs, hq, hx, ht, rfl⟩, z, hm, rfl⟩⟩
      rcases hc with hc | ⟨hc, _⟩
      · exact .inl hc
      · exact .inr ⟨hc, z, hm, rfl⟩
  · rintro e w' ⟨hy, o', S', ⟨F', L', hM⟩, j', s', l'⟩
    obtain ⟨q1, q2⟩ := row_moves h.own h5 hM
    exact ⟨hy, ⟨o', S', F', L', j', s'.trans h3, fun x hx => by have := l' x hx; omega, q2⟩, q1, h.ok⟩
theorem Bg.clear (h : Bg W wr g a p v k zs) (hA : All W) (hk : k ≤ 300) (slot : Int) (hsl : I64 slot) :
    Calls Tryd.prog 21 #[.pointer (some ⟨g, 0, none⟩), .int .i64 slot] wr fun e w' => (∃ y : Int, e = .returned (.int .i64 y)) ∧ Bg W w' g a p v (k + 1) zs := by
  obtain ⟨o, S, F, h1, h2, h3, h4, h5⟩ := h.all
  refine (clear_any (P' := MayP zs) h1 hA h2 slot hsl (by decide) (by rw [h3, blk40]; decide) h4 (by omega) (fun _ e => e) ?_).mono ?_
  · intro j e hj c hc
    obtain rfl | rfl : j = 0 ∨ j = 1 := by omega
    · exact hc
    · exact .inl rfl
  · rintro e w' ⟨hy, o', S', ⟨F', L', hM⟩, j', s', l'⟩
    obtain ⟨q1, q2⟩ := row_moves h.own h5 hM
    exact ⟨hy, ⟨o', S', F', L', j', s'.trans h3, fun x hx => by have := l' x hx; omega, q2⟩, q1, h.ok⟩
theorem Bg.app (h : Bg W wr g a p v k zs) (z : RecV) (hz : RecOk W z) {v5 : Value} {w5 : World} (own5 : w5.ownsRow W.heap.size 24 3 v5 (zs.length + 1) (rowsOf zs ++ z.cells3)) (hg5 : wr.grownBy w5 v.ownBlock) (hob : v5.ownBlock = v.ownBlock ∨ v5.ownBlock = some wr.heap.size) :
    Bg W w5 g a p v5 k (zs ++ [z]) := by
  obtain ⟨o, S, F, h1, h2, h3, h4, h5⟩ := h.all
  have ho : Sh.Only (fun b => v.ownBlock = some b) wr w5 := ⟨hg5.os, hg5.tape, hg5.output, hg5.size, fun k hk hne => hg5.block k hk (fun e => hne e.symm)⟩
  refine ⟨⟨o, S, F, h1.away ho (fun b e => ⟨(h5 b e).1, (h5 b e).2, (h.own.lt b e).1⟩), h2.more (fun c e => e.more z), h3, h4, fun b e => ?_⟩, ?_, fun y hy => ?_⟩
  · rcases hob with e2 | e2
    · rw [e2] at e; exact h5 b e
    · rw [e2] at e
      injection e with e
      subst e
      exact ⟨fun e => Nat.lt_irrefl _ (h1.lt _ e), fun e => by have := h1.log.lt; omega⟩
  · rw [List.length_append, rowsOf_snoc]; exact own5
  · rcases List.mem_append.1 hy with hy | hy
    · exact h.ok y hy
    · simp only [List.mem_singleton] at hy
      subst hy
      exact hz
/-- A row of the list. -/
theorem row_cell {base : Nat} {A : Option Addr} {c : Nat} (h : wr.ownsRow base 24 3 (.slice A zs.length c) zs.length (rowsOf zs)) (h0 : 0 < zs.length) :
    ∃ gm, A = some ⟨gm, 0, none⟩ ∧ gm < wr.heap.size ∧ ∀ i, i < zs.length → wr.cell? ⟨gm, i * 3, none⟩ = some (.int .i64 (zf zs i).s) ∧ wr.cell? ⟨gm, i * 3 + 1, none⟩ = some (.int .i64 (zf zs i).q) ∧ wr.cell? ⟨gm, i * 3 + 2, none⟩ = some (.slice (zf zs i).A (zf zs i).n (zf zs i).c) := by
  have hl := h.lt
  have h' := h
  rcases h.2 with ⟨e, _⟩ | ⟨gm, cap, cur, e, _, hh, _⟩
  · injection e with e1 e2; omega
  · injection e with e1 e2 e3
    subst e1
    refine ⟨gm, rfl, (hl gm rfl).2, fun i hi => ?_⟩
    have q := fun r (hr : r < 3) => (World.ownsRow.cellAt h' (i * 3 + r) (by omega)).trans (rowsOf_get zs i r hi hr)
    exact ⟨q 0 (by decide), q 1 (by decide), q 2 (by decide)⟩
end
end Go.Proofs.YtohdieddocogkaaDoor.U
