/-
  What every statement of rate shares: floats, slices of floats and rows of floats that came in; the witness's world.
  Conditions: each theorem's own.
-/
import Derived.Test.YthnjnpighnlodaaRl
import Derived.ProofKit
import Derived.OpenShut
import Derived.ChangeOld
import Derived.SizedLaws
import Derived.ChangeSlices
import Derived.Laws.Cover2
import Derived.Deep.DeepHandedRow
import Derived.LaidHandle
import Derived.LaidLaws
namespace Go.Proofs.Ythnjnpighnlodaa
open Go.ChangeShapes Go.WideShapes Go.ChangeAt Go.RowKit

theorem own : ownKnob Try.prog.godebug = none := by kernel_rfl
theorem laidOut : laidOutB Try.prog = true := by kernel_rfl
theorem cellsF : Try.prog.cellsOf 23 = 1 := by kernel_rfl
theorem cellsFs : Try.prog.cellsOf 22 = 1 := by kernel_rfl
theorem bytesF : Try.prog.bytesOf 23 = 8 := by kernel_rfl
theorem bytesFs : Try.prog.bytesOf 22 = 24 := by kernel_rfl
abbrev laidBoth : List (String × DataW Unit) := []
noncomputable def laidWorld (os : Os) : World := World.holding Try.prog os ⟨#[], #[], []⟩
theorem tabs_of_laid {W : World} (_ : laidMetH Try.prog laidBoth W) : True := trivial

theorem wf_lt {b : Nat} (h : (Lit.float .f64 b).wf = true) : b < 18446744073709551616 := by simpa [Lit.wf] using h

section
variable {H : Type} {enc : TypeId × Value → H} {W : World}
theorem cells1_of {base : Nat} {a : Addr} {xs : List Value} (h : W.cells? base a 1 = some xs) : ∃ v, xs = [v] ∧ W.cell? a = some v := by
  unfold World.cells? at h
  split at h
  · have e : (List.range 1) = [0] := rfl
    rw [e] at h
    simp only [List.mapM_cons, List.mapM_nil] at h
    have e2 : a.add 0 = a := by unfold Addr.add; simp
    rw [e2] at h
    cases hc : W.cell? a with
    | none => rw [hc] at h; simp at h
    | some v => rw [hc] at h; simp at h; exact ⟨v, h.symm, rfl⟩
  · cases h
/-- A SLICE THAT CAME IN: each of its elements. -/
theorem each_in {t e : TypeId} {fuel n c : Nat} {A : Option Addr} {x : DataW H × List MemPlace} (ht : Try.prog.underlying t = some (.slice e)) (hc : Try.prog.cellsOf e = 1)
    (h : DataW.trod enc Try.prog W 0 (fun _ => true) true fuel t [.slice A n c] = some x) :
    (A = none ∧ n = 0 ∧ x.1 = .nil) ∨ ∃ (ad : Addr) (elems rest : List (DataW H × List MemPlace)) (m : Nat), A = some ad ∧ n ≤ c ∧ elems.length = n ∧ x.1 = .slice (elems.map (·.1)) (rest.map (·.1)) ∧
      ∀ i, i < n → ∃ v y, elems[i]? = some y ∧ W.cell? (ad.add i) = some v ∧ DataW.trod enc Try.prog W 0 (fun _ => true) true m e [v] = some y := by
  rcases DataW.trod_slice ht h with ⟨h0, hx⟩ | ⟨a, len, cap, elems, rest, m, _, h0, hx, _, hl, _, hlen, hel, _⟩
  · simp only [List.cons.injEq, Value.slice.injEq, and_true] at h0
    obtain ⟨rfl, rfl, rfl⟩ := h0
    exact .inl ⟨rfl, rfl, by rw [hx]⟩
  · simp only [List.cons.injEq, Value.slice.injEq, and_true] at h0
    obtain ⟨rfl, rfl, rfl⟩ := h0
    refine .inr ⟨a, elems, rest, m, rfl, hl, hlen, by rw [hx], fun i hi => ?_⟩
    have h1 := hel i hi
    rw [hc, Nat.mul_one, List.getElem?_eq_getElem (by omega), Option.bind_eq_some_iff] at h1
    obtain ⟨cs, hcs, hy⟩ := h1
    obtain ⟨v, rfl, hv⟩ := cells1_of hcs
    exact ⟨v, _, List.getElem?_eq_getElem (by omega), hv, hy⟩
theorem flt_of {m : Nat} {v : Value} {y : DataW H × List MemPlace} (h : DataW.trod enc Try.prog W 0 (fun _ => true) true m 23 [v] = some y) : ∃ b, v = .float .f64 b ∧ b < 18446744073709551616 := by
  cases m with
  | zero => simp [DataW.trod] at h
  | succ m =>
    simp only [DataW.trod, Try.underlying23] at h
    cases v <;> simp at h
    rename_i k b
    obtain ⟨⟨rfl, hw⟩, _⟩ := h
    exact ⟨b, rfl, wf_lt hw⟩
def fAt (W : World) (ad : Addr) (i : Nat) : Nat := match W.cell? (ad.add i) with | some (.float _ b) => b | _ => 0
def flist (W : World) (A : Option Addr) (n : Nat) : List Nat := match A with | some ad => (List.range n).map (fAt W ad) | none => []
theorem flts_in {fuel n c : Nat} {A : Option Addr} {x : DataW H × List MemPlace} (h : DataW.trod enc Try.prog W 0 (fun _ => true) true fuel 22 [.slice A n c] = some x) (hlt : ∀ a : Addr, A = some a → 0 < n → a.block < W.heap.size)
    (hw : ∀ k ∈ x.1.weights Try.prog 22, k ≤ reachBytes) : Reads W W.heap.size A n (fls (flist W A n)) ∧ Words (flist W A n) ∧ n * 8 ≤ 140737488351232 := by
  rcases each_in Try.underlying22 cellsF h with ⟨rfl, rfl, _⟩ | ⟨ad, elems, rest, m, rfl, hnc, hlen, hx, hel⟩
  · exact ⟨Reads.none_, fun _ hx => by simp [flist] at hx, by omega⟩
  · have hf : ∀ i, i < n → W.cell? (ad.add i) = some (.float .f64 (fAt W ad i)) ∧ fAt W ad i < 18446744073709551616 := by
      intro i hi
      obtain ⟨v, y, _, hv, hy⟩ := hel i hi
      obtain ⟨b, rfl, hb⟩ := flt_of hy
      have e : fAt W ad i = b := by unfold fAt; rw [hv]
      rw [e]; exact ⟨hv, hb⟩
    refine ⟨⟨by simp [fls, flist], fun hn => ⟨ad, rfl, hlt ad rfl hn, fun j u hu => ?_⟩⟩, fun z hz => ?_, ?_⟩
    · have hj : j < n := by
        rcases Nat.lt_or_ge j n with h | h
        · exact h
        · rw [List.getElem?_eq_none (by simpa [fls, flist] using h)] at hu; cases hu
      rw [(hf j hj).1, ← hu]
      simp [fls, flist, hj]
    · simp only [flist, List.mem_map, List.mem_range] at hz
      obtain ⟨i, hi, rfl⟩ := hz
      exact (hf i hi).2
    · rw [hx] at hw
      have h1 := hw ((elems.map (·.1)).length * 8 + (rest.map (·.1)).length * 8) (by simp [DataW.weights, Try.underlying22, bytesF, Nat.add_mul])
      simp only [List.length_map, hlen, reachBytes] at h1
      omega
def rAt (W : World) (ad : Addr) (i : Nat) : Row := match W.cell? (ad.add i) with | some (.slice A n c) => ⟨A, n, c, flist W A n⟩ | _ => ⟨none, 0, 0, []⟩
def rlist (W : World) (A : Option Addr) (n : Nat) : List Row := match A with | some ad => (List.range n).map (rAt W ad) | none => []
theorem weights_all {P : Program} {e : TypeId} : ∀ {l : List (DataW H)} {i : Nat} {d : DataW H}, l[i]? = some d → ∀ k ∈ d.weights P e, k ∈ DataW.weightsAll P e l
  | [], _, _, h, _, _ => by simp at h
  | d :: r, 0, _, h, k, hk => by
    simp only [List.getElem?_cons_zero, Option.some.injEq] at h
    subst h
    rw [DataW.weightsAll]
    exact List.mem_append_left _ hk
  | d :: r, i + 1, _, h, k, hk => by
    rw [List.getElem?_cons_succ] at h
    rw [DataW.weightsAll]
    exact List.mem_append_right _ (weights_all h k hk)
theorem block_lt_of {fuel n c : Nat} {A : Option Addr} {x : DataW H × List MemPlace} {t e : TypeId} (ht : Try.prog.underlying t = some (.slice e)) (hc : Try.prog.cellsOf e = 1) (h : DataW.trod enc Try.prog W 0 (fun _ => true) true fuel t [.slice A n c] = some x) :
    ∀ a : Addr, A = some a → 0 < n → a.block < W.heap.size := by
  intro a ha hn
  rcases each_in ht hc h with ⟨rfl, _⟩ | ⟨ad, _, _, _, h1, _, _, _, hel⟩
  · cases ha
  · rw [h1] at ha
    injection ha with ha
    subst ha
    obtain ⟨v, _, _, hv, _⟩ := hel 0 hn
    have := World.block_lt_of_cell? W _ hv
    rwa [block_of_add] at this
theorem rows_in {fuel n c : Nat} {A : Option Addr} {x : DataW H × List MemPlace} (h : DataW.trod enc Try.prog W 0 (fun _ => true) true fuel 38 [.slice A n c] = some x)
    (hw : ∀ k ∈ x.1.weights Try.prog 38, k ≤ reachBytes) : RowsAre W W.heap.size A n (rlist W A n) ∧ n ≤ 140737488351232 := by
  have hblk := block_lt_of Try.underlying38 cellsFs h
  rcases each_in Try.underlying38 cellsFs h with ⟨rfl, rfl, _⟩ | ⟨ad, elems, rest, m, rfl, hnc, hlen, hx, hel⟩
  · exact ⟨⟨Reads.none_, fun _ hx => by simp [rlist] at hx⟩, by omega⟩
  · rw [hx] at hw
    have hf : ∀ i, i < n → W.cell? (ad.add i) = some (rAt W ad i).val ∧ Reads W W.heap.size (rAt W ad i).A (rAt W ad i).n (fls (rAt W ad i).l) ∧ Words (rAt W ad i).l ∧ (rAt W ad i).n ≤ 140737488351232 := by
      intro i hi
      obtain ⟨v, y, hy1, hv, hy⟩ := hel i hi
      obtain ⟨A', n', c', rfl⟩ : ∃ A' n' c', v = .slice A' n' c' := by
        rcases DataW.trod_slice Try.underlying22 hy with ⟨h0, _⟩ | ⟨a, len, cap, _, _, _, _, h0, _⟩
        · simp only [List.cons.injEq, and_true] at h0; exact ⟨_, _, _, h0⟩
        · simp only [List.cons.injEq, and_true] at h0; exact ⟨_, _, _, h0⟩
      have e : rAt W ad i = ⟨A', n', c', flist W A' n'⟩ := by unfold rAt; rw [hv]
      rw [e]
      have hwi : ∀ k ∈ y.1.weights Try.prog 22, k ≤ reachBytes := fun k hk => hw k (by
        have h2 := weights_all (P := Try.prog) (e := 22) (l := elems.map (·.1)) (i := i) (d := y.1) (by rw [List.getElem?_map, hy1]; rfl) k hk
        simp only [DataW.weights, Try.underlying38, List.mem_cons, List.mem_append]
        exact .inr (.inl h2))
      have hfl := flts_in hy (block_lt_of Try.underlying22 cellsF hy) hwi
      exact ⟨hv, hfl.1, hfl.2.1, by have := hfl.2.2; show n' ≤ 140737488351232; omega⟩
    refine ⟨⟨⟨by simp [rlist], fun hn => ⟨ad, rfl, hblk ad rfl hn, fun j u hu => ?_⟩⟩, fun r hr => ?_⟩, ?_⟩
    · have hj : j < n := by
        rcases Nat.lt_or_ge j n with h | h
        · exact h
        · rw [List.getElem?_eq_none (by simpa [rlist] using h)] at hu; cases hu
      rw [(hf j hj).1, ← hu]
      simp [rlist, hj]
    · simp only [rlist, List.mem_map, List.mem_range] at hr
      obtain ⟨i, hi, rfl⟩ := hr
      exact (hf i hi).2
    · have h1 := hw ((elems.map (·.1)).length * 24 + (rest.map (·.1)).length * 24) (by simp [DataW.weights, Try.underlying38, bytesFs, Nat.add_mul])
      simp only [List.length_map, hlen, reachBytes] at h1
      omega
end
end Go.Proofs.Ythnjnpighnlodaa
