/-
  What every statement on path shares: texts and lists of texts that came in; the witness's world.
  Conditions: each theorem's own.
-/
import Derived.Test.YtblkfiaeifckjaaN11
import Derived.ProofKit
import Derived.OpenShut
import Derived.ChangeOld
import Derived.SizedLaws
import Derived.ChangeSlices
import Derived.SliceStrings
import Derived.ShutString
import Derived.Laws.Cover2
import Derived.Deep.Slices
import Derived.Deep.DeepHandedRow
import Derived.LaidHandle
import Derived.LaidLaws
namespace Go.Proofs.Ytblkfiaeifckjaa
open Go.ChangeShapes Go.WideShapes Go.ChangeAt Go.RowKit

theorem own : ownKnob Try.prog.godebug = none := by kernel_rfl
theorem laidOut : laidOutB Try.prog = true := by kernel_rfl
theorem cellsS : Try.prog.cellsOf 9 = 1 := by kernel_rfl
theorem bytesS : Try.prog.bytesOf 9 = 16 := by kernel_rfl
abbrev laidBoth : List (String × DataW Unit) := []
noncomputable def laidWorld (os : Os) : World := World.holding Try.prog os ⟨#[], #[], []⟩

section
variable {H : Type} {enc : TypeId × Value → H} {W : World} {base : Nat} {spare : Nat → Bool} {held : Bool}
/-- A TEXT THAT CAME IN. -/
theorem str_in {v : Value} {d : DataW H} {ps : List MemPlace} (hval : Value.okWide Try.prog W .any base 9 v) (h : DataW.Trod enc Try.prog W 0 (fun _ => true) true 9 v d ps)
    (hw : ∀ k ∈ d.weights Try.prog 9, k ≤ reachBytes) : ∃ s : ByteArray, v = .string s ∧ d = .lit (.string s.data.toList) ∧ ps = [] ∧ s.size ≤ 140737488351232 := by
  obtain ⟨s, rfl⟩ : ∃ s, v = .string s := by
    simp only [Value.okWide, Try.underlying9, Cell.okWide] at hval
    cases v <;> simp_all [Cell.ok]
  obtain ⟨fuel, hf⟩ := h
  cases fuel with
  | zero => simp [DataW.trod] at hf
  | succ n =>
    simp only [DataW.trod, Value.cells, Try.underlying9] at hf
    by_cases hs : s.size ≤ maxLen
    · simp [hs] at hf
      obtain ⟨rfl, rfl⟩ := hf
      refine ⟨s, rfl, rfl, rfl, ?_⟩
      have h1 := hw s.data.toList.length (by simp [DataW.weights])
      rw [Lib.size_eq]
      simpa [reachBytes] using h1
    · simp [hs] at hf
theorem shut_str {s : ByteArray} (hs : s.size ≤ 140737488351232) : DataW.Trod enc Try.prog W base spare held 9 (.string s) (.lit (.string s.data.toList)) [] :=
  Go.Deep.shut_string_cell Try.underlying9 (by unfold maxLen; omega)
theorem weights_all {P : Program} {e : TypeId} : ∀ {l : List (DataW H)} {i : Nat} {d : DataW H}, l[i]? = some d → ∀ k ∈ d.weights P e, k ∈ DataW.weightsAll P e l
  | [], _, _, h, _, _ => by simp at h
  | d :: r, 0, _, h, k, hk => by
    simp only [List.getElem?_cons_zero, Option.some.injEq] at h
    subst h
    rw [DataW.weightsAll]
    exact List.mem_append_left _ hk
  | d :: r, i + 1, _, h, k, hk => by
    rw [List.getElem?_cons_succ] at h
    rw [DataW.weightsAll]
    exact List.mem_append_right _ (weights_all h k hk)
/-- A LIST OF TEXTS THAT CAME IN. -/
theorem strs_in {fuel n c : Nat} {A : Option Addr} {x : DataW H × List MemPlace} (h : DataW.trod enc Try.prog W 0 (fun _ => true) true fuel 26 [.slice A n c] = some x)
    (hw : ∀ k ∈ x.1.weights Try.prog 26, k ≤ reachBytes) : ∃ l : List Bs, Reads W W.heap.size A n (svs l) ∧ Fine l ∧ n * 16 ≤ 140737488351232 ∧ n ≤ c := by
  rcases open_strings Try.underlying26 Try.underlying9 cellsS h with ⟨h0, rfl⟩ | ⟨a, len, cap, ss, h0, _, hlc, _, hlen, rfl, hcl, _⟩
  · simp only [List.cons.injEq, Value.slice.injEq, and_true] at h0
    obtain ⟨rfl, rfl, rfl⟩ := h0
    exact ⟨[], Reads.none_, fun j x hx => by simp at hx, by omega, Nat.le_refl _⟩
  · simp only [List.cons.injEq, Value.slice.injEq, and_true] at h0
    obtain ⟨rfl, rfl, rfl⟩ := h0
    simp only [if_true] at hlen
    have hget : ∀ j y, ((ss.take n).map (·.data.toList))[j]? = some y → j < n ∧ ∃ s, ss[j]? = some s ∧ y = s.data.toList := fun j y hy => by
      rw [List.getElem?_map] at hy
      obtain ⟨s, hs, rfl⟩ := Option.map_eq_some_iff.1 hy
      rw [List.getElem?_take] at hs
      split at hs
      · exact ⟨by assumption, s, hs, rfl⟩
      · cases hs
    refine ⟨(ss.take n).map (·.data.toList), ⟨by rw [svs_length]; simp; omega, fun hn => ⟨a, rfl, ?_, fun j u hu => ?_⟩⟩, fun j y hy => ?_, ?_, hlc⟩
    · have := hcl 0 (by omega)
      have h1 := World.block_lt_of_cell? W _ this
      rwa [block_of_add] at h1
    · unfold svs at hu
      rw [List.getElem?_map] at hu
      obtain ⟨y, hy, rfl⟩ := Option.map_eq_some_iff.1 hu
      obtain ⟨hj, s, hs, rfl⟩ := hget j y hy
      rw [hcl j (by omega), List.getD_eq_getElem?_getD, hs, sv_of rfl]; rfl
    · obtain ⟨hj, s, hs, rfl⟩ := hget j y hy
      have h1 := weights_all (P := Try.prog) (e := 9) (l := strs (H := H) (ss.take n)) (i := j) (d := .lit (.string s.data.toList)) (by
        unfold strs
        rw [List.getElem?_map, List.getElem?_take, if_pos hj, hs]; rfl) s.data.toList.length (by simp [DataW.weights])
      have h2 := hw s.data.toList.length (by
        simp only [DataW.weights, Try.underlying26, List.mem_cons, List.mem_append]
        exact .inr (.inl h1))
      simp only [reachBytes] at h2
      omega
    · have h1 := hw ((strs (H := H) (ss.take n)).length * 16 + (strs (H := H) (ss.drop n)).length * 16) (by
        simp [DataW.weights, Try.underlying26, bytesS, Nat.add_mul])
      simp only [strs, List.length_map, List.length_take, reachBytes] at h1
      omega
end
end Go.Proofs.Ytblkfiaeifckjaa
