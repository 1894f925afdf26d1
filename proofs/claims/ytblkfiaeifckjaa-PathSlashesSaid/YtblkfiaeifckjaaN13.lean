/-
  The definition's Split handed over as the program's is; what the statements' cases share.
  Conditions: none.
-/
import Derived.Test.YtblkfiaeifckjaaN12
namespace Go.Proofs.Ytblkfiaeifckjaa
open Go.RowKit

theorem refSplit_eq (p : ByteArray) (r : Int × List Bs) (w : World) (hs : p.size ≤ 4611686018427387904) (hr : splitE p.data.toList = r) :
    Calls Try.prog 14 #[.string p] w fun e W' => ∃ A c, e = .returned (.tuple #[.slice A r.2.length c, .int .i64 r.1]) ∧ r.2.length ≤ c ∧ Reads W' W'.heap.size A r.2.length (svs r.2) ∧ Below w.heap.size w W' := by
  subst hr
  refine (refSplit p w hs).mono ?_
  rintro e W' ⟨v, rfl, hrow, hb⟩
  obtain ⟨A, c, hv, hc⟩ := own_slice hrow
  subst hv
  exact ⟨A, c, rfl, hc, Reads.of_own hrow, hb⟩
/-- The three cases of a path. -/
theorem split_cases (p : Bs) : (∃ e, e ≠ 0 ∧ splitE p = (e, []) ∧ parentE p = (e, [], [])) ∨ (splitE p = (0, []) ∧ parentE p = (25, [], [])) ∨
    ∃ l k, splitE p = (0, l) ∧ l.length = k + 1 ∧ k < 16 ∧ ∃ x, l[k]? = some x ∧ parentE p = (0, l.take k, x) := by
  obtain ⟨r, hr⟩ : ∃ r, splitE p = r := ⟨_, rfl⟩
  obtain ⟨e, l⟩ := r
  have hnil := splitE_err_nil p
  rw [hr] at hnil
  dsimp only at hnil
  by_cases he : e ≠ 0
  · refine .inl ⟨e, he, ?_, ?_⟩
    · rw [hr, hnil he]
    · unfold parentE; rw [hr]; dsimp only; rw [if_pos he]
  · obtain rfl : e = 0 := by omega
    by_cases hl : l = []
    · subst hl
      refine .inr (.inl ⟨hr, ?_⟩)
      unfold parentE; rw [hr]; rfl
    · obtain ⟨k, hk⟩ : ∃ k, l.length = k + 1 := ⟨l.length - 1, by have := List.length_pos_iff.2 hl; omega⟩
      have h16 : l.length ≤ 16 := by
        have hs : l = pieces p ∧ scan 0 (pieces p) = 0 := by
          unfold splitE at hr
          split at hr
          · cases hr
          · split at hr
            · cases hr
            · split at hr
              · injection hr with h1 h2
                exact absurd h2.symm hl
              · injection hr with h1 h2
                rename_i h3
                exact ⟨h2.symm, by omega⟩
        have := scan_len 0 (pieces p) (by omega) hs.2
        rw [hs.1]; omega
      have hlast : l[k]? = some (l.getLastD []) := by
        rw [List.getLastD_eq_getLast?, List.getLast?_eq_getElem?, hk]
        simp
        rw [List.getElem?_eq_getElem (by omega)]; simp
      refine .inr (.inr ⟨l, k, hr, hk, by omega, l.getLastD [], hlast, ?_⟩)
      unfold parentE
      rw [hr]
      dsimp only
      rw [if_neg (by decide), if_neg hl, hk]; rfl
theorem sv_eq_empty : sv [] = .string ⟨#[]⟩ := rfl
end Go.Proofs.Ytblkfiaeifckjaa
