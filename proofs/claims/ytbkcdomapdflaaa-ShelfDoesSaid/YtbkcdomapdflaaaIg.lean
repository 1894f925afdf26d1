/-
  Slices of calls and of lists of numbers that came in.
  Conditions: each theorem's own.
-/
import Derived.Test.YtbkcdomapdflaaaIf
namespace Go.Proofs.Ytbkcdomapdflaaa.Sh
open Go.ChangeShapes Go.WideShapes Go.ChangeAt Go.RowKit Go.Maps

section
variable {H : Type} {enc : TypeId × Value → H} {W : World}
theorem cellsInt : Try.prog.cellsOf 3 = 1 := by kernel_rfl
theorem cellsInts : Try.prog.cellsOf 59 = 1 := by kernel_rfl
theorem cellsU8 : Try.prog.cellsOf 5 = 1 := by kernel_rfl
theorem cellsIntss : Try.prog.cellsOf 31 = 1 := by kernel_rfl
theorem cellsOp : Try.prog.cellsOf 33 = 6 := by kernel_rfl
theorem cells_get {base n : Nat} {a : Addr} {xs : List Value} (h : W.cells? base a n = some xs) : xs.length = n ∧ ∀ k, k < n → ∃ v, xs[k]? = some v ∧ W.cell? (a.add k) = some v := by
  unfold World.cells? at h
  split at h
  · have hl : xs.length = n := by simpa using mapM_some_length h
    refine ⟨hl, fun k hk => ?_⟩
    have := mapM_some_get h k k (by simp [hk])
    rw [List.getElem?_eq_getElem (by omega)] at this
    exact ⟨_, List.getElem?_eq_getElem (by omega), this⟩
  · cases h
theorem int_of {m : Nat} {v : Value} {y : DataW H × List MemPlace} (h : DataW.trod enc Try.prog W 0 (fun _ => true) true m 3 [v] = some y) : ∃ z : Int, v = .int .i64 z ∧ -9223372036854775808 ≤ z ∧ z ≤ 9223372036854775807 := by
  cases m with
  | zero => simp [DataW.trod] at h
  | succ m =>
    simp only [DataW.trod, Try.underlying3] at h
    cases v <;> simp at h
    rename_i k b
    obtain ⟨⟨rfl, hw⟩, _⟩ := h
    exact ⟨b, rfl, bounds_i64 hw⟩
theorem u8_of {m : Nat} {v : Value} {y : DataW H × List MemPlace} (h : DataW.trod enc Try.prog W 0 (fun _ => true) true m 5 [v] = some y) : ∃ z : Nat, v = .int .u8 (z : Int) ∧ z < 256 := by
  cases m with
  | zero => simp [DataW.trod] at h
  | succ m =>
    simp only [DataW.trod, Try.underlying5] at h
    cases v <;> simp at h
    rename_i k b
    obtain ⟨⟨rfl, hw⟩, _⟩ := h
    have := bounds_u8 hw
    exact ⟨b.toNat, by rw [Int.toNat_of_nonneg this.1], by omega⟩
/-- A slice that came in, of elements of one cell. -/
theorem each_in {t e : TypeId} {fuel n c : Nat} {A : Option Addr} {x : DataW H × List MemPlace} (ht : Try.prog.underlying t = some (.slice e)) (hc : Try.prog.cellsOf e = 1)
    (h : DataW.trod enc Try.prog W 0 (fun _ => true) true fuel t [.slice A n c] = some x) :
    (A = none ∧ n = 0) ∨ ∃ (ad : Addr) (m : Nat), A = some ad ∧ n ≤ 9223372036854775807 ∧ ∀ i, i < n → ∃ v y, W.cell? (ad.add i) = some v ∧ DataW.trod enc Try.prog W 0 (fun _ => true) true m e [v] = some y := by
  rcases DataW.trod_slice ht h with ⟨h0, hx⟩ | ⟨a, len, cap, elems, rest, m, _, h0, hx, _, hl, hm, hlen, hel, _⟩
  · simp only [List.cons.injEq, Value.slice.injEq, and_true] at h0
    obtain ⟨rfl, rfl, rfl⟩ := h0
    exact .inl ⟨rfl, rfl⟩
  · simp only [List.cons.injEq, Value.slice.injEq, and_true] at h0
    obtain ⟨rfl, rfl, rfl⟩ := h0
    refine .inr ⟨a, m, rfl, by unfold maxLen at hm; omega, fun i hi => ?_⟩
    have h1 := hel i hi
    rw [hc, Nat.mul_one, List.getElem?_eq_getElem (by omega), Option.bind_eq_some_iff] at h1
    obtain ⟨cs, hcs, hy⟩ := h1
    obtain ⟨hl1, hg⟩ := cells_get hcs
    obtain ⟨v, hv, hcv⟩ := hg 0 (by decide)
    have e : cs = [v] := by
      match cs, hl1, hv with
      | [u], _, hv => simpa using hv
    subst e
    have e2 : (a.add i).add 0 = a.add i := by unfold Addr.add; simp
    rw [e2] at hcv
    exact ⟨v, _, hcv, hy⟩
theorem ints_in {fuel n c : Nat} {A : Option Addr} {x : DataW H × List MemPlace} (h : DataW.trod enc Try.prog W 0 (fun _ => true) true fuel 59 [.slice A n c] = some x) :
    ∃ l : List Int, n ≤ 9223372036854775807 ∧ Reads W W.heap.size A n (ints l) ∧ (0 < n → ∀ a, A = some a → a.block < W.heap.size) := by
  rcases each_in Try.underlying59 cellsInt h with ⟨rfl, rfl⟩ | ⟨ad, m, rfl, hn, hel⟩
  · exact ⟨[], by decide, Reads.none_, fun h => absurd h (by decide)⟩
  · have hz : ∀ i, ∃ z : Int, i < n → W.cell? (ad.add i) = some (.int .i64 z) := by
      intro i
      by_cases hi : i < n
      · obtain ⟨v, y, hv, hy⟩ := hel i hi
        obtain ⟨z, rfl, _⟩ := int_of hy
        exact ⟨z, fun _ => hv⟩
      · exact ⟨0, fun h => absurd h hi⟩
    obtain ⟨f, hf⟩ := Classical.axiomOfChoice hz
    have hb : 0 < n → ad.block < W.heap.size := fun h0 => by
      have := World.block_lt_of_cell? W _ (hf 0 h0)
      rwa [block_of_add] at this
    refine ⟨(List.range n).map f, hn, ⟨by simp [ints], fun h0 => ⟨ad, rfl, hb h0, fun j u hu => ?_⟩⟩, fun h0 a ha => by injection ha with ha; subst ha; exact hb h0⟩
    have hj : j < n := by
      rcases Nat.lt_or_ge j n with h | h
      · exact h
      · rw [List.getElem?_eq_none (by simpa [ints] using h)] at hu; cases hu
    rw [hf j hj, ← hu]
    simp [ints, hj]
theorem keep_in {fuel n c : Nat} {A : Option Addr} {x : DataW H × List MemPlace} (h : DataW.trod enc Try.prog W 0 (fun _ => true) true fuel 31 [.slice A n c] = some x) :
    ∃ ks : List (List Int), n ≤ 9223372036854775807 ∧ KeepIs W (Old W) A n ks := by
  rcases each_in Try.underlying31 cellsInts h with ⟨rfl, rfl⟩ | ⟨ad, m, rfl, hn, hel⟩
  · exact ⟨[], by decide, rfl, fun h => absurd h (by decide)⟩
  · have hz : ∀ i, ∃ l : List Int, i < n → ∃ A' m c, W.cell? (ad.add i) = some (.slice A' m c) ∧ m ≤ 9223372036854775807 ∧ Reads W W.heap.size A' m (ints l) ∧ (0 < m → ∀ a', A' = some a' → Old W a'.block) := by
      intro i
      by_cases hi : i < n
      · obtain ⟨v, y, hv, hy⟩ := hel i hi
        obtain ⟨A', n', c', rfl⟩ : ∃ A' n' c', v = .slice A' n' c' := by
          rcases DataW.trod_slice Try.underlying59 hy with ⟨h0, _⟩ | ⟨a, len, cap, _, _, _, _, h0, _⟩
          · simp only [List.cons.injEq, and_true] at h0; exact ⟨_, _, _, h0⟩
          · simp only [List.cons.injEq, and_true] at h0; exact ⟨_, _, _, h0⟩
        obtain ⟨l, h1, h2, h3⟩ := ints_in hy
        exact ⟨l, fun _ => ⟨A', n', c', hv, h1, h2, h3⟩⟩
      · exact ⟨[], fun h => absurd h hi⟩
    obtain ⟨f, hf⟩ := Classical.axiomOfChoice hz
    refine ⟨(List.range n).map f, hn, by simp, fun h0 => ⟨ad, rfl, ?_, fun j hj => ?_⟩⟩
    · obtain ⟨_, _, _, h1, _⟩ := hf 0 h0
      have := World.block_lt_of_cell? W _ h1
      rwa [block_of_add] at this
    · have e : ((List.range n).map f).getD j [] = f j := by simp [List.getD, hj]
      rw [e]
      exact hf j hj
/-- A call of the statements' own kind. -/
structure OpV where
  kind : Int
  d : Int
  n : Int
  at_ : Int
  x : Nat
  A : Option Addr
  m : Nat
  c : Nat
  ks : List (List Int)
def I64 (z : Int) : Prop := -9223372036854775808 ≤ z ∧ z ≤ 9223372036854775807
/-- Six cells that hold a call. -/
structure OpIs (W : World) (b o : Nat) (v : OpV) : Prop where
  c0 : W.cell? ⟨b, o, none⟩ = some (.int .i64 v.kind)
  c1 : W.cell? ⟨b, o + 1, none⟩ = some (.int .i64 v.d)
  c2 : W.cell? ⟨b, o + 2, none⟩ = some (.int .i64 v.n)
  c3 : W.cell? ⟨b, o + 3, none⟩ = some (.int .i64 v.at_)
  c4 : W.cell? ⟨b, o + 4, none⟩ = some (.int .u8 (v.x : Int))
  c5 : W.cell? ⟨b, o + 5, none⟩ = some (.slice v.A v.m v.c)
  b0 : I64 v.kind
  b1 : I64 v.d
  b2 : I64 v.n
  b3 : I64 v.at_
  b4 : v.x < 256
  b5 : v.m ≤ 9223372036854775807
  keep : KeepIs W (Old W) v.A v.m v.ks
def OpsAre (W : World) (A : Option Addr) (n : Nat) (f : Nat → OpV) : Prop := n ≤ 9223372036854775807 ∧ (0 < n → ∃ b off, A = some ⟨b, off, none⟩ ∧ b < W.heap.size ∧ ∀ i, i < n → OpIs W b (off + i * 6) (f i))
set_option maxRecDepth 20000 in
theorem op_in {b o m : Nat} {cs : List Value} {y : DataW H × List MemPlace} (hl : cs.length = 6) (hc : ∀ k, k < 6 → ∃ v, cs[k]? = some v ∧ W.cell? ⟨b, o + k, none⟩ = some v) (h : DataW.trod enc Try.prog W 0 (fun _ => true) true m 33 cs = some y) : ∃ v : OpV, OpIs W b o v := by
  obtain ⟨xs, k, rfl, _, _, hxs, hf⟩ := DataW.trod_struct Try.underlying33 h
  match cs, hl with
  | [v0, v1, v2, v3, v4, v5], _ =>
    have hs : xs.length = 6 := hxs
    have g : ∀ i, i < 6 → ∃ z, xs[i]? = some z := fun i hi => ⟨_, List.getElem?_eq_getElem (by omega)⟩
    have f0 := hf 0 _ rfl
    have f1 := hf 1 _ rfl
    have f2 := hf 2 _ rfl
    have f3 := hf 3 _ rfl
    have f4 := hf 4 _ rfl
    have f5 := hf 5 _ rfl
    obtain ⟨z0, e0⟩ := g 0 (by decide)
    obtain ⟨z1, e1⟩ := g 1 (by decide)
    obtain ⟨z2, e2⟩ := g 2 (by decide)
    obtain ⟨z3, e3⟩ := g 3 (by decide)
    obtain ⟨z4, e4⟩ := g 4 (by decide)
    obtain ⟨z5, e5⟩ := g 5 (by decide)
    rw [e0] at f0
    rw [e1] at f1
    rw [e2] at f2
    rw [e3] at f3
    rw [e4] at f4
    rw [e5] at f5
    obtain ⟨kind, rfl, a0, a0'⟩ := int_of (v := v0) (show DataW.trod enc Try.prog W 0 (fun _ => true) true k 3 [v0] = some z0 from f0)
    obtain ⟨d, rfl, a1, a1'⟩ := int_of (v := v1) (show DataW.trod enc Try.prog W 0 (fun _ => true) true k 3 [v1] = some z1 from f1)
    obtain ⟨n, rfl, a2, a2'⟩ := int_of (v := v2) (show DataW.trod enc Try.prog W 0 (fun _ => true) true k 3 [v2] = some z2 from f2)
    obtain ⟨at_, rfl, a3, a3'⟩ := int_of (v := v3) (show DataW.trod enc Try.prog W 0 (fun _ => true) true k 3 [v3] = some z3 from f3)
    obtain ⟨x, rfl, a4⟩ := u8_of (v := v4) (show DataW.trod enc Try.prog W 0 (fun _ => true) true k 5 [v4] = some z4 from f4)
    have g5 := show DataW.trod enc Try.prog W 0 (fun _ => true) true k 31 [v5] = some z5 from f5
    obtain ⟨A', n', c', rfl⟩ : ∃ A' n' c', v5 = .slice A' n' c' := by
      rcases DataW.trod_slice Try.underlying31 g5 with ⟨h0, _⟩ | ⟨a, len, cap, _, _, _, _, h0, _⟩
      · simp only [List.cons.injEq, and_true] at h0; exact ⟨_, _, _, h0⟩
      · simp only [List.cons.injEq, and_true] at h0; exact ⟨_, _, _, h0⟩
    obtain ⟨ks, h1, h2⟩ := keep_in g5
    have cc : ∀ k, k < 6 → ∀ u, [Value.int .i64 kind, .int .i64 d, .int .i64 n, .int .i64 at_, .int .u8 (x : Int), .slice A' n' c'][k]? = some u → W.cell? ⟨b, o + k, none⟩ = some u := fun k hk u hu => by
      obtain ⟨v, hv, hcv⟩ := hc k hk
      rw [hu] at hv
      injection hv with hv
      rw [hv]; exact hcv
    exact ⟨⟨kind, d, n, at_, x, A', n', c', ks⟩, cc 0 (by decide) _ rfl, cc 1 (by decide) _ rfl, cc 2 (by decide) _ rfl, cc 3 (by decide) _ rfl, cc 4 (by decide) _ rfl, cc 5 (by decide) _ rfl, ⟨a0, a0'⟩, ⟨a1, a1'⟩, ⟨a2, a2'⟩, ⟨a3, a3'⟩, a4, h1, h2⟩
theorem ops_in {fuel n c : Nat} {A : Option Addr} {x : DataW H × List MemPlace} (h : DataW.trod enc Try.prog W 0 (fun _ => true) true fuel 22 [.slice A n c] = some x) : ∃ f, OpsAre W A n f := by
  rcases DataW.trod_slice Try.underlying22 h with ⟨h0, hx⟩ | ⟨a, len, cap, elems, rest, m, _, h0, hx, _, hl, hm, hlen, hel, _⟩
  · simp only [List.cons.injEq, Value.slice.injEq, and_true] at h0
    obtain ⟨rfl, rfl, rfl⟩ := h0
    exact ⟨fun _ => ⟨0, 0, 0, 0, 0, none, 0, 0, []⟩, by decide, fun h => absurd h (by decide)⟩
  · simp only [List.cons.injEq, Value.slice.injEq, and_true] at h0
    obtain ⟨rfl, rfl, rfl⟩ := h0
    have hcs : ∀ i, i < n → ∃ cs y, cs.length = 6 ∧ (∀ k, k < 6 → ∃ v, cs[k]? = some v ∧ W.cell? ((a.add (i * 6)).add k) = some v) ∧ DataW.trod enc Try.prog W 0 (fun _ => true) true m 33 cs = some y := by
      intro i hi
      have h1 := hel i hi
      rw [cellsOp, List.getElem?_eq_getElem (by omega), Option.bind_eq_some_iff] at h1
      obtain ⟨cs, hcs, hy⟩ := h1
      obtain ⟨hl1, hg⟩ := cells_get hcs
      exact ⟨cs, _, hl1, hg, hy⟩
    rcases Nat.eq_zero_or_pos n with h0 | h0
    · exact ⟨fun _ => ⟨0, 0, 0, 0, 0, none, 0, 0, []⟩, by unfold maxLen at hm; omega, fun h => by omega⟩
    · obtain ⟨b, off, spot⟩ := a
      obtain ⟨cs, y, _, hg, _⟩ := hcs 0 h0
      obtain ⟨v, _, hv⟩ := hg 0 (by decide)
      have hspot : spot = none := by simpa [Addr.add] using World.cell?_spot hv
      subst hspot
      have hblt := World.block_lt_of_cell? W _ hv
      rw [block_of_add, block_of_add] at hblt
      have hz : ∀ i, ∃ v : OpV, i < n → OpIs W b (off + i * 6) v := by
        intro i
        by_cases hi : i < n
        · obtain ⟨cs, y, hl6, hg, hy⟩ := hcs i hi
          obtain ⟨v, hv⟩ := op_in (b := b) (o := off + i * 6) hl6 (fun k hk => by
            obtain ⟨v, h1, h2⟩ := hg k hk
            rw [add_of_add, add_plain, ← Nat.add_assoc] at h2
            exact ⟨v, h1, h2⟩) hy
          exact ⟨v, fun _ => hv⟩
        · exact ⟨⟨0, 0, 0, 0, 0, none, 0, 0, []⟩, fun h => absurd h hi⟩
      obtain ⟨f, hf⟩ := Classical.axiomOfChoice hz
      exact ⟨f, by unfold maxLen at hm; omega, fun _ => ⟨b, off, rfl, hblt, hf⟩⟩
end
end Go.Proofs.Ytbkcdomapdflaaa.Sh
