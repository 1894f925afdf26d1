/-
  What comes back: names that were joined are split into these; more slashes change nothing.
  Conditions: none.
-/
import Derived.Test.YtblkfiaeifckjaaN14
namespace Go.Proofs.Ytblkfiaeifckjaa
open Go.RowKit

theorem piecesA_word : ∀ (x cur t : Bs), (∀ b ∈ x, b ≠ 47) → piecesA cur (x ++ t) = piecesA (cur ++ x) t
  | [], cur, t, _ => by simp
  | b :: r, cur, t, h => by
    have hb : ¬ b = 47 := h b (by simp)
    rw [List.cons_append, piecesA, if_neg hb, piecesA_word r (cur ++ [b]) t fun c hc => h c (by simp [hc])]
    simp
theorem piecesA_slash {cur t : Bs} (h : cur ≠ []) : piecesA cur (47 :: t) = cur :: pieces (47 :: t) := by
  simp [piecesA, h, pieces]
theorem nameE_word {x : Bs} (h : nameE x = 0) : x ≠ [] ∧ ∀ b ∈ x, b ≠ 47 := by
  have hb : anyBad x = false := by
    cases hc : anyBad x with
    | false => rfl
    | true => rw [nameE_bad hc] at h; exact absurd h (by decide)
  refine ⟨fun e => by subst e; exact absurd h (by decide), fun b hm e => ?_⟩
  subst e
  obtain ⟨i, hi⟩ := List.getElem?_of_mem hm
  exact absurd (anyBad_get hb i _ hi) (by decide)
theorem flat_cases : ∀ l : List Bs, (l = [] ∧ flat l = []) ∨ ∃ t, flat l = 47 :: t
  | [] => .inl ⟨rfl, rfl⟩
  | x :: r => .inr ⟨x ++ flat r, rfl⟩
theorem pieces_flat : ∀ {l : List Bs}, firstE l = 0 → pieces (flat l) = l
  | [], _ => rfl
  | x :: r, h => by
    rw [firstE] at h
    by_cases hx : nameE x ≠ 0
    · rw [if_pos hx] at h; exact absurd h hx
    · rw [if_neg hx] at h
      have hx0 : nameE x = 0 := by omega
      obtain ⟨h1, h2⟩ := nameE_word hx0
      have ih := pieces_flat h
      show piecesA [] (47 :: (x ++ flat r)) = x :: r
      rw [piecesA, if_pos rfl, if_pos rfl, piecesA_word x [] (flat r) h2, List.nil_append]
      rcases flat_cases r with ⟨rfl, e⟩ | ⟨t, e⟩
      · rw [e, piecesA, if_neg h1]
      · rw [e, piecesA_slash h1, ← e, ih]
theorem pieces_pathOf {l : List Bs} (h : firstE l = 0) : pieces (pathOf l) = l := by
  unfold pathOf
  split
  · rename_i e; rw [e]; rfl
  · exact pieces_flat h
theorem pathOf_head (l : List Bs) : (pathOf l).head? = some 47 := by
  unfold pathOf
  split
  · rfl
  · rename_i h
    rcases flat_cases l with ⟨e, _⟩ | ⟨t, e⟩
    · exact absurd e h
    · rw [e]; rfl
theorem scan_first : ∀ (k : Nat) (l : List Bs), firstE l = 0 → k + l.length ≤ 16 → scan k l = 0
  | _, [], _, _ => rfl
  | k, x :: r, h, hk => by
    rw [firstE] at h
    by_cases hx : nameE x ≠ 0
    · rw [if_pos hx] at h; exact absurd h hx
    · rw [if_neg hx] at h
      simp only [List.length_cons] at hk
      rw [scan, if_neg hx, if_neg (by omega)]
      exact scan_first (k + 1) r h (by omega)
theorem first_scan : ∀ (k : Nat) (l : List Bs), scan k l = 0 → firstE l = 0
  | _, [], _ => rfl
  | k, x :: r, h => by
    rw [scan] at h
    by_cases hx : nameE x ≠ 0
    · rw [if_pos hx] at h; exact absurd h hx
    · rw [if_neg hx] at h
      by_cases hk : k = 16
      · rw [if_pos hk] at h; exact absurd h (by decide)
      · rw [if_neg hk] at h
        rw [firstE, if_neg hx]
        exact first_scan (k + 1) r h
theorem splitE_of {p : Bs} (h : p.head? = some 47) (h2 : ¬ 255 < p.length) (h3 : scan 0 (pieces p) = 0) : splitE p = (0, pieces p) := by
  unfold splitE; rw [if_neg (not_not_intro h), if_neg h2, if_neg (not_not_intro h3)]
/-- Names that were joined. -/
theorem join_split {l : List Bs} {q : Bs} (h : joinE l = (0, q)) : splitE q = (0, l) := by
  unfold joinE at h
  split at h
  · rename_i h1; injection h with h2; exact absurd h2 h1
  · rename_i h1
    have hf : firstE l = 0 := by omega
    split at h
    · cases h
    · rename_i h2
      split at h
      · cases h
      · rename_i h3
        injection h with _ e
        subst e
        have hp := pieces_pathOf hf
        rw [splitE_of (pathOf_head l) h3 (by rw [hp]; exact scan_first 0 l hf (by omega)), hp]
theorem flat_pieces : ∀ (cur t : Bs), (flat (piecesA cur t)).length ≤ 1 + cur.length + t.length
  | cur, [] => by
    by_cases h : cur = []
    · subst h; simp [piecesA, flat]
    · simp only [piecesA, if_neg h, flat, List.append_nil, List.length_cons, List.length_nil]; omega
  | cur, b :: r => by
    by_cases hb : b = 47
    · subst hb
      have ih := flat_pieces [] r
      simp only [List.length_nil] at ih
      by_cases h : cur = []
      · subst h; simp only [piecesA, if_true, List.length_cons, List.length_nil]; omega
      · simp only [piecesA, if_true, if_neg h, flat, List.length_cons, List.length_append]; omega
    · have ih := flat_pieces (cur ++ [b]) r
      rw [piecesA, if_neg hb]
      simp only [List.length_append, List.length_cons, List.length_nil] at ih ⊢
      omega
theorem pathOf_pieces {p : Bs} (h : p.head? = some 47) : (pathOf (pieces p)).length ≤ p.length := by
  cases p with
  | nil => simp at h
  | cons b t =>
    simp at h
    subst h
    have := flat_pieces [] t
    have e : pieces (47 :: t) = piecesA [] t := by simp [pieces, piecesA]
    unfold pathOf
    rw [e]
    split
    · simp
    · simp only [List.length_nil, List.length_cons] at this ⊢; omega
/-- A path that was split, and joined. -/
theorem split_join {p : Bs} {l : List Bs} (h : splitE p = (0, l)) : ∃ r, joinE l = (0, r) ∧ splitE r = (0, l) ∧ r.length ≤ p.length := by
  unfold splitE at h
  split at h
  · cases h
  · rename_i h1
    have h1' : p.head? = some 47 := Classical.not_not.1 h1
    split at h
    · cases h
    · rename_i h2
      split at h
      · rename_i h3; injection h with h4; exact absurd h4 h3
      · rename_i h3
        injection h with _ e
        subst e
        have hs : scan 0 (pieces p) = 0 := by omega
        have hf := first_scan 0 _ hs
        have hl := scan_len 0 _ (by omega) hs
        have hp := pathOf_pieces h1'
        have hj : joinE (pieces p) = (0, pathOf (pieces p)) := joinE_ok hf (by omega) (by omega)
        exact ⟨_, hj, join_split hj, hp⟩
theorem piecesA_twice : ∀ (a cur b : Bs), piecesA cur (a ++ 47 :: 47 :: b) = piecesA cur (a ++ 47 :: b)
  | [], cur, b => by
    by_cases h : cur = [] <;> simp [piecesA, h]
  | x :: r, cur, b => by
    rw [List.cons_append, List.cons_append, piecesA, piecesA, piecesA_twice r [] b, piecesA_twice r (cur ++ [x]) b]
theorem piecesA_end : ∀ (a cur : Bs), piecesA cur (a ++ [47]) = piecesA cur a
  | [], cur => by by_cases h : cur = [] <;> simp [piecesA, h]
  | x :: r, cur => by
    rw [List.cons_append, piecesA, piecesA, piecesA_end r [], piecesA_end r (cur ++ [x])]
/-- More slashes. -/
theorem split_slashes {p : Bs} {l : List Bs} {i : Nat} (h : splitE p = (0, l)) (hi : p[i]? = some 47) (hl : p.length ≤ 253) :
    splitE (p.take i ++ [47] ++ p.drop i ++ [47]) = (0, l) := by
  have hlt := (List.getElem?_eq_some_iff.1 hi).1
  have hd : p.drop i = 47 :: p.drop (i + 1) := by rw [List.drop_eq_getElem_cons hlt, (List.getElem?_eq_some_iff.1 hi).2]
  have hp : pieces (p.take i ++ [47] ++ p.drop i ++ [47]) = pieces p := by
    unfold pieces
    rw [piecesA_end, hd, List.append_assoc, List.singleton_append, piecesA_twice, ← hd, List.take_append_drop]
  have hh : p.head? = some 47 ∧ scan 0 (pieces p) = 0 ∧ pieces p = l := by
    unfold splitE at h
    split at h
    · cases h
    · rename_i h1
      split at h
      · cases h
      · split at h
        · rename_i h3; injection h with h4; exact absurd h4 h3
        · rename_i h3
          injection h with _ e
          exact ⟨Classical.not_not.1 h1, by omega, e⟩
  rw [splitE_of ?_ ?_ (by rw [hp]; exact hh.2.1), hp, hh.2.2]
  · cases i with
    | zero => simp
    | succ i =>
      cases p with
      | nil => simp at hlt
      | cons b r => simpa using hh.1
  · simp only [List.length_append, List.length_take, List.length_drop, List.length_cons, List.length_nil]
    omega
theorem firstE_all : ∀ {l : List Bs}, firstE l = 0 → ∀ (j : Nat) y, l[j]? = some y → nameE y = 0
  | [], _, j, y, h => by simp at h
  | x :: r, h, j, y, hy => by
    rw [firstE] at h
    by_cases hx : nameE x ≠ 0
    · rw [if_pos hx] at h; exact absurd h hx
    · rw [if_neg hx] at h
      cases j with
      | zero => simp at hy; subst hy; omega
      | succ j => exact firstE_all h j y (by simpa using hy)
theorem joinE_fine {l : List Bs} {r : Bs} (h : joinE l = (0, r)) : Fine l ∧ l.length ≤ 16 ∧ r.length ≤ 255 := by
  unfold joinE at h
  split at h
  · rename_i h1; injection h with h2; exact absurd h2 h1
  · rename_i h1
    split at h
    · cases h
    · split at h
      · cases h
      · injection h with _ e
        subst e
        refine ⟨fun j x hx => ?_, by omega, by omega⟩
        have := nameE_len (firstE_all (show firstE l = 0 by omega) j x hx)
        omega
end Go.Proofs.Ytblkfiaeifckjaa
