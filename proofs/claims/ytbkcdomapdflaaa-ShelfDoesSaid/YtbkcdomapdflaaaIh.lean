/-
  A call that came in by value.
  Conditions: each theorem's own.
-/
import Derived.Test.YtbkcdomapdflaaaIg
namespace Go.Proofs.Ytbkcdomapdflaaa.Sh
open Go.ChangeShapes Go.WideShapes Go.ChangeAt Go.RowKit Go.Maps

section
variable {H : Type} {enc : TypeId × Value → H} {W : World}
set_option maxRecDepth 20000 in
theorem op_val {m : Nat} {cs : List Value} {y : DataW H × List MemPlace} (hl : cs.length = 6) (h : DataW.trod enc Try.prog W 0 (fun _ => true) true m 33 cs = some y) :
    ∃ v : OpV, cs = [.int .i64 v.kind, .int .i64 v.d, .int .i64 v.n, .int .i64 v.at_, .int .u8 (v.x : Int), .slice v.A v.m v.c] ∧ v.x < 256 := by
  obtain ⟨xs, k, rfl, _, _, hxs, hf⟩ := DataW.trod_struct Try.underlying33 h
  match cs, hl with
  | [v0, v1, v2, v3, v4, v5], _ =>
    have hs : xs.length = 6 := hxs
    have g : ∀ i, i < 6 → ∃ z, xs[i]? = some z := fun i hi => ⟨_, List.getElem?_eq_getElem (by omega)⟩
    have f0 := hf 0 _ rfl
    have f1 := hf 1 _ rfl
    have f2 := hf 2 _ rfl
    have f3 := hf 3 _ rfl
    have f4 := hf 4 _ rfl
    have f5 := hf 5 _ rfl
    obtain ⟨z0, e0⟩ := g 0 (by decide)
    obtain ⟨z1, e1⟩ := g 1 (by decide)
    obtain ⟨z2, e2⟩ := g 2 (by decide)
    obtain ⟨z3, e3⟩ := g 3 (by decide)
    obtain ⟨z4, e4⟩ := g 4 (by decide)
    obtain ⟨z5, e5⟩ := g 5 (by decide)
    rw [e0] at f0
    rw [e1] at f1
    rw [e2] at f2
    rw [e3] at f3
    rw [e4] at f4
    rw [e5] at f5
    obtain ⟨kind, rfl, a0, a0'⟩ := int_of (v := v0) (show DataW.trod enc Try.prog W 0 (fun _ => true) true k 3 [v0] = some z0 from f0)
    obtain ⟨d, rfl, a1, a1'⟩ := int_of (v := v1) (show DataW.trod enc Try.prog W 0 (fun _ => true) true k 3 [v1] = some z1 from f1)
    obtain ⟨n, rfl, a2, a2'⟩ := int_of (v := v2) (show DataW.trod enc Try.prog W 0 (fun _ => true) true k 3 [v2] = some z2 from f2)
    obtain ⟨at_, rfl, a3, a3'⟩ := int_of (v := v3) (show DataW.trod enc Try.prog W 0 (fun _ => true) true k 3 [v3] = some z3 from f3)
    obtain ⟨x, rfl, a4⟩ := u8_of (v := v4) (show DataW.trod enc Try.prog W 0 (fun _ => true) true k 5 [v4] = some z4 from f4)
    have g5 := show DataW.trod enc Try.prog W 0 (fun _ => true) true k 31 [v5] = some z5 from f5
    obtain ⟨A', n', c', rfl⟩ : ∃ A' n' c', v5 = .slice A' n' c' := by
      rcases DataW.trod_slice Try.underlying31 g5 with ⟨h0, _⟩ | ⟨a, len, cap, _, _, _, _, h0, _⟩
      · simp only [List.cons.injEq, and_true] at h0; exact ⟨_, _, _, h0⟩
      · simp only [List.cons.injEq, and_true] at h0; exact ⟨_, _, _, h0⟩
    exact ⟨⟨kind, d, n, at_, x, A', n', c', []⟩, rfl, a4⟩
set_option maxRecDepth 20000 in
theorem op_came {base : Nat} {v : Value} {d : DataW H} {ps : List MemPlace} (hv : Value.okWide Try.prog W .any base 33 v) (h : DataW.Trod enc Try.prog W 0 (fun _ => true) true 33 v d ps) :
    ∃ z : OpV, v = .agg #[.int .i64 z.kind, .int .i64 z.d, .int .i64 z.n, .int .i64 z.at_, .int .u8 (z.x : Int), .slice z.A z.m z.c] := by
  unfold Value.okWide at hv
  rw [Try.underlying33] at hv
  obtain ⟨cs, rfl, hs, _⟩ := hv
  rw [cellsOp] at hs
  obtain ⟨fuel, hf⟩ := h
  obtain ⟨z, hz, _⟩ := op_val (m := fuel) (cs := cs.toList) (by simpa using hs) (by simpa [Value.cells] using hf)
  refine ⟨z, ?_⟩
  congr 1
  apply Array.ext'
  simpa using hz
end
end Go.Proofs.Ytbkcdomapdflaaa.Sh
