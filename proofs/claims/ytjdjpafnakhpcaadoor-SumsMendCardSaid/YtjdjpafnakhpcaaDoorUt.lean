/-
  Slices of lists of numbers that came in.
  Conditions: each theorem's own.
-/
import Derived.Test.YtjdjpafnakhpcaaDoorFrame
import Derived.ChangeSlices
namespace Go.Proofs.YtjdjpafnakhpcaaDoor.Sh
open Go.ChangeShapes Go.WideShapes Go.ChangeAt Go.RowKit Go.Maps

section
variable {H : Type} {enc : TypeId × Value → H} {W : World}
theorem cellsInt : Tryd.prog.cellsOf 3 = 1 := by kernel_rfl
theorem cellsInts : Tryd.prog.cellsOf 114 = 1 := by kernel_rfl
theorem cellsU8 : Tryd.prog.cellsOf 5 = 1 := by kernel_rfl
theorem cellsIntss : Tryd.prog.cellsOf 33 = 1 := by kernel_rfl
theorem cells_get {base n : Nat} {a : Addr} {xs : List Value} (h : W.cells? base a n = some xs) : xs.length = n ∧ ∀ k, k < n → ∃ v, xs[k]? = some v ∧ W.cell? (a.add k) = some v := by
  unfold World.cells? at h
  split at h
  · have hl : xs.length = n := by simpa using mapM_some_length h
    refine ⟨hl, fun k hk => ?_⟩
    have := mapM_some_get h k k (by simp [hk])
    rw [List.getElem?_eq_getElem (by omega)] at this
    exact ⟨_, List.getElem?_eq_getElem (by omega), this⟩
  · cases h
theorem int_of {m : Nat} {v : Value} {y : DataW H × List MemPlace} (h : DataW.trod enc Tryd.prog W 0 (fun _ => true) true m 3 [v] = some y) : ∃ z : Int, v = .int .i64 z ∧ -9223372036854775808 ≤ z ∧ z ≤ 9223372036854775807 := by
  cases m with
  | zero => simp [DataW.trod] at h
  | succ m =>
    simp only [DataW.trod, Tryd.underlying3] at h
    cases v <;> simp at h
    rename_i k b
    obtain ⟨⟨rfl, hw⟩, _⟩ := h
    exact ⟨b, rfl, bounds_i64 hw⟩
theorem u8_of {m : Nat} {v : Value} {y : DataW H × List MemPlace} (h : DataW.trod enc Tryd.prog W 0 (fun _ => true) true m 5 [v] = some y) : ∃ z : Nat, v = .int .u8 (z : Int) ∧ z < 256 := by
  cases m with
  | zero => simp [DataW.trod] at h
  | succ m =>
    simp only [DataW.trod, Tryd.underlying5] at h
    cases v <;> simp at h
    rename_i k b
    obtain ⟨⟨rfl, hw⟩, _⟩ := h
    have := bounds_u8 hw
    exact ⟨b.toNat, by rw [Int.toNat_of_nonneg this.1], by omega⟩
/-- A slice that came in, of elements of one cell. -/
theorem each_in {t e : TypeId} {fuel n c : Nat} {A : Option Addr} {x : DataW H × List MemPlace} (ht : Tryd.prog.underlying t = some (.slice e)) (hc : Tryd.prog.cellsOf e = 1)
    (h : DataW.trod enc Tryd.prog W 0 (fun _ => true) true fuel t [.slice A n c] = some x) :
    (A = none ∧ n = 0) ∨ ∃ (ad : Addr) (m : Nat), A = some ad ∧ n ≤ 9223372036854775807 ∧ ∀ i, i < n → ∃ v y, W.cell? (ad.add i) = some v ∧ DataW.trod enc Tryd.prog W 0 (fun _ => true) true m e [v] = some y := by
  rcases DataW.trod_slice ht h with ⟨h0, hx⟩ | ⟨a, len, cap, elems, rest, m, _, h0, hx, _, hl, hm, hlen, hel, _⟩
  · simp only [List.cons.injEq, Value.slice.injEq, and_true] at h0
    obtain ⟨rfl, rfl, rfl⟩ := h0
    exact .inl ⟨rfl, rfl⟩
  · simp only [List.cons.injEq, Value.slice.injEq, and_true] at h0
    obtain ⟨rfl, rfl, rfl⟩ := h0
    refine .inr ⟨a, m, rfl, by unfold maxLen at hm; omega, fun i hi => ?_⟩
    have h1 := hel i hi
    rw [hc, Nat.mul_one, List.getElem?_eq_getElem (by omega), Option.bind_eq_some_iff] at h1
    obtain ⟨cs, hcs, hy⟩ := h1
    obtain ⟨hl1, hg⟩ := cells_get hcs
    obtain ⟨v, hv, hcv⟩ := hg 0 (by decide)
    have e : cs = [v] := by
      match cs, hl1, hv with
      | [u], _, hv => simpa using hv
    subst e
    have e2 : (a.add i).add 0 = a.add i := by unfold Addr.add; simp
    rw [e2] at hcv
    exact ⟨v, _, hcv, hy⟩
theorem ints_in {fuel n c : Nat} {A : Option Addr} {x : DataW H × List MemPlace} (h : DataW.trod enc Tryd.prog W 0 (fun _ => true) true fuel 114 [.slice A n c] = some x) :
    ∃ l : List Int, n ≤ 9223372036854775807 ∧ Reads W W.heap.size A n (ints l) ∧ (0 < n → ∀ a, A = some a → a.block < W.heap.size) := by
  rcases each_in Tryd.underlying114 cellsInt h with ⟨rfl, rfl⟩ | ⟨ad, m, rfl, hn, hel⟩
  · exact ⟨[], by decide, Reads.none_, fun h => absurd h (by decide)⟩
  · have hz : ∀ i, ∃ z : Int, i < n → W.cell? (ad.add i) = some (.int .i64 z) := by
      intro i
      by_cases hi : i < n
      · obtain ⟨v, y, hv, hy⟩ := hel i hi
        obtain ⟨z, rfl, _⟩ := int_of hy
        exact ⟨z, fun _ => hv⟩
      · exact ⟨0, fun h => absurd h hi⟩
    obtain ⟨f, hf⟩ := Classical.axiomOfChoice hz
    have hb : 0 < n → ad.block < W.heap.size := fun h0 => by
      have := World.block_lt_of_cell? W _ (hf 0 h0)
      rwa [block_of_add] at this
    refine ⟨(List.range n).map f, hn, ⟨by simp [ints], fun h0 => ⟨ad, rfl, hb h0, fun j u hu => ?_⟩⟩, fun h0 a ha => by injection ha with ha; subst ha; exact hb h0⟩
    have hj : j < n := by
      rcases Nat.lt_or_ge j n with h | h
      · exact h
      · rw [List.getElem?_eq_none (by simpa [ints] using h)] at hu; cases hu
    rw [hf j hj, ← hu]
    simp [ints, hj]
theorem keep_in {fuel n c : Nat} {A : Option Addr} {x : DataW H × List MemPlace} (h : DataW.trod enc Tryd.prog W 0 (fun _ => true) true fuel 33 [.slice A n c] = some x) :
    ∃ ks : List (List Int), n ≤ 9223372036854775807 ∧ KeepIs W (Old W) A n ks := by
  rcases each_in Tryd.underlying33 cellsInts h with ⟨rfl, rfl⟩ | ⟨ad, m, rfl, hn, hel⟩
  · exact ⟨[], by decide, rfl, fun h => absurd h (by decide)⟩
  · have hz : ∀ i, ∃ l : List Int, i < n → ∃ A' m c, W.cell? (ad.add i) = some (.slice A' m c) ∧ m ≤ 9223372036854775807 ∧ Reads W W.heap.size A' m (ints l) ∧ (0 < m → ∀ a', A' = some a' → Old W a'.block) := by
      intro i
      by_cases hi : i < n
      · obtain ⟨v, y, hv, hy⟩ := hel i hi
        obtain ⟨A', n', c', rfl⟩ : ∃ A' n' c', v = .slice A' n' c' := by
          rcases DataW.trod_slice Tryd.underlying114 hy with ⟨h0, _⟩ | ⟨a, len, cap, _, _, _, _, h0, _⟩
          · simp only [List.cons.injEq, and_true] at h0; exact ⟨_, _, _, h0⟩
          · simp only [List.cons.injEq, and_true] at h0; exact ⟨_, _, _, h0⟩
        obtain ⟨l, h1, h2, h3⟩ := ints_in hy
        exact ⟨l, fun _ => ⟨A', n', c', hv, h1, h2, h3⟩⟩
      · exact ⟨[], fun h => absurd h hi⟩
    obtain ⟨f, hf⟩ := Classical.axiomOfChoice hz
    refine ⟨(List.range n).map f, hn, by simp, fun h0 => ⟨ad, rfl, ?_, fun j hj => ?_⟩⟩
    · obtain ⟨_, _, _, h1, _⟩ := hf 0 h0
      have := World.block_lt_of_cell? W _ h1
      rwa [block_of_add] at this
    · have e : ((List.range n).map f).getD j [] = f j := by simp [List.getD, hj]
      rw [e]
      exact hf j hj
end
end Go.Proofs.YtjdjpafnakhpcaaDoor.Sh
