/-
  One row after the other put in ahead of the first that it stands above gives the same order as counting, for each row, how many stand ahead of it.
  Conditions: 'above' is a strict weak order.
-/
import Derived.Lib.Hide
namespace Go.Proofs.Ythnjnpighnlodaa.Rk

/-- p ahead of the first one that it stands above, else at the end. -/
def ins (abv : Nat → Nat → Bool) (p : Nat) : List Nat → List Nat
  | [] => [p]
  | q :: l => if abv p q then p :: q :: l else q :: ins abv p l
def rankTo (abv : Nat → Nat → Bool) : Nat → List Nat
  | 0 => []
  | m + 1 => ins abv m (rankTo abv m)
/-- k stands ahead of i. -/
def ahd (abv : Nat → Nat → Bool) (k i : Nat) : Bool := abv k i || (!abv i k && decide (k < i))
def cntA (abv : Nat → Nat → Bool) (n i : Nat) : Nat := (List.range n).countP (fun k => ahd abv k i)
def refRank (abv : Nat → Nat → Bool) (n : Nat) : List Nat := (List.range n).flatMap fun a => (List.range n).filter fun i => cntA abv n i == a

structure Weak (abv : Nat → Nat → Bool) : Prop where
  asym : ∀ a b, abv a b = true → abv b a = false
  neg : ∀ a b c, abv a b = false → abv b c = false → abv a c = false

variable {abv : Nat → Nat → Bool}
theorem Weak.irr (h : Weak abv) (a : Nat) : abv a a = false := by
  cases e : abv a a with
  | false => rfl
  | true => have := h.asym a a e; rw [e] at this; cases this
theorem ahd_irr (h : Weak abv) (a : Nat) : ahd abv a a = false := by simp [ahd, h.irr]
theorem ahd_asym (h : Weak abv) {a b : Nat} (e : ahd abv a b = true) : ahd abv b a = false := by
  simp only [ahd, Bool.or_eq_true, Bool.and_eq_true, Bool.not_eq_true', decide_eq_true_eq] at e
  rcases e with e | ⟨e, hlt⟩
  · have := h.asym _ _ e
    simp [ahd, this, e]
  · have : ¬ b < a := by omega
    simp [ahd, e, this]

theorem ins_perm (p : Nat) : ∀ l : List Nat, (ins abv p l).Perm (p :: l)
  | [] => List.Perm.refl _
  | q :: l => by
    unfold ins
    split
    · exact List.Perm.refl _
    · exact ((ins_perm p l).cons q).trans (List.Perm.swap p q l)
theorem rank_perm : ∀ m : Nat, (rankTo abv m).Perm (List.range m)
  | 0 => List.Perm.refl _
  | m + 1 => by
    unfold rankTo
    refine (ins_perm m _).trans ?_
    rw [List.range_succ]
    exact ((rank_perm m).cons m).trans (List.perm_append_singleton m _).symm
theorem rank_lt {m x : Nat} (h : x ∈ rankTo abv m) : x < m := List.mem_range.1 ((rank_perm m).mem_iff.1 h)
theorem rank_length (m : Nat) : (rankTo abv m).length = m := by rw [(rank_perm m).length_eq, List.length_range]
theorem ins_length (p : Nat) (l : List Nat) : (ins abv p l).length = l.length + 1 := by rw [(ins_perm p l).length_eq, List.length_cons]

theorem ins_sorted (h : Weak abv) (p : Nat) : ∀ l : List Nat, (∀ x ∈ l, x < p) → l.Pairwise (fun a b => ahd abv a b = true) → (ins abv p l).Pairwise (fun a b => ahd abv a b = true)
  | [], _, _ => by simp [ins]
  | q :: l, hlt, hs => by
    have hq : q < p := hlt q (List.mem_cons_self ..)
    have hs1 := (List.pairwise_cons.1 hs).1
    have hs2 := (List.pairwise_cons.1 hs).2
    unfold ins
    split
    · rename_i e
      refine List.pairwise_cons.2 ⟨?_, hs⟩
      intro x hx
      rcases List.mem_cons.1 hx with rfl | hx
      · simp [ahd, e]
      · have hqx := hs1 x hx
        have hnx : abv x q = false := by
          simp only [ahd, Bool.or_eq_true, Bool.and_eq_true, Bool.not_eq_true', decide_eq_true_eq] at hqx
          rcases hqx with e2 | ⟨e2, _⟩
          · exact h.asym _ _ e2
          · exact e2
        cases e3 : abv p x with
        | true => simp [ahd, e3]
        | false =>
          have := h.neg p x q e3 hnx
          rw [e] at this
          cases this
    · rename_i e
      have e' : abv p q = false := by simpa using e
      refine List.pairwise_cons.2 ⟨?_, ins_sorted h p l (fun x hx => hlt x (List.mem_cons_of_mem _ hx)) hs2⟩
      intro x hx
      rcases List.mem_cons.1 ((ins_perm p l).mem_iff.1 hx) with rfl | hx
      · simp [ahd, e', hq]
      · exact hs1 x hx
theorem rank_sorted (h : Weak abv) : ∀ m : Nat, (rankTo abv m).Pairwise (fun a b => ahd abv a b = true)
  | 0 => List.Pairwise.nil
  | m + 1 => ins_sorted h m _ (fun _ hx => rank_lt hx) (rank_sorted h m)

/-- In a sorted row, as many stand ahead of the one at the place j as j says. -/
theorem cnt_at (h : Weak abv) {L : List Nat} (hs : L.Pairwise (fun a b => ahd abv a b = true)) (j : Nat) (hj : j < L.length) : L.countP (fun k => ahd abv k L[j]) = j := by
  have e : L = L.take j ++ L[j] :: L.drop (j + 1) := by
    rw [← List.drop_eq_getElem_cons hj, List.take_append_drop]
  have hs2 : (L.take j ++ L[j] :: L.drop (j + 1)).Pairwise (fun a b => ahd abv a b = true) := by rw [← e]; exact hs
  have hp := List.pairwise_append.1 hs2
  have hx : ∀ z, L.countP (fun k => ahd abv k z) = (L.take j).countP (fun k => ahd abv k z) + (L[j] :: L.drop (j + 1)).countP (fun k => ahd abv k z) := by
    intro z
    conv => lhs; rw [e]
    rw [List.countP_append]
  rw [hx, List.countP_cons]
  have h1 : (L.take j).countP (fun k => ahd abv k L[j]) = j := by
    rw [List.countP_eq_length.2 (fun a ha => hp.2.2 a ha L[j] (List.mem_cons_self ..)), List.length_take]
    omega
  have h2 : (L.drop (j + 1)).countP (fun k => ahd abv k L[j]) = 0 := by
    rw [List.countP_eq_zero]
    intro a ha
    have := (List.pairwise_cons.1 hp.2.1).1 a ha
    simp [ahd_asym h this]
  rw [h1, h2, ahd_irr h]
  simp

theorem filter_at (h : Weak abv) (n : Nat) (j : Nat) (hj : j < (rankTo abv n).length) : ((List.range n).filter fun i => cntA abv n i == j) = [(rankTo abv n)[j]] := by
  have hperm := rank_perm (abv := abv) n
  have hc : ∀ i, cntA abv n i = (rankTo abv n).countP (fun k => ahd abv k i) := fun i => (hperm.countP_eq _).symm
  have hs := rank_sorted h n
  have h1 : ((rankTo abv n).filter fun i => cntA abv n i == j) = [(rankTo abv n)[j]] := by
    generalize rankTo abv n = L at *
    have e : L = L.take j ++ L[j] :: L.drop (j + 1) := by rw [← List.drop_eq_getElem_cons hj, List.take_append_drop]
    have hgen : ∀ i (hi : i < L.length), (cntA abv n L[i] == j) = decide (i = j) := by
      intro i hi
      rw [hc, cnt_at h hs i hi]
      by_cases e : i = j
      · simp [e]
      · simp [e]
    have hx : (L.filter fun i => cntA abv n i == j) = ((L.take j).filter fun i => cntA abv n i == j) ++ ((L[j] :: L.drop (j + 1)).filter fun i => cntA abv n i == j) := by
      conv => lhs; rw [e]
      rw [List.filter_append]
    rw [hx, List.filter_cons_of_pos (by rw [hgen j hj]; simp)]
    have ha : ((L.take j).filter fun i => cntA abv n i == j) = [] := by
      rw [List.filter_eq_nil_iff]
      intro a ha
      obtain ⟨i, hi, rfl⟩ := List.mem_iff_getElem.1 ha
      have hi2 : i < j := by simp at hi; omega
      rw [List.getElem_take, hgen i (by simp at hi; omega)]
      simp; omega
    have hb : ((L.drop (j + 1)).filter fun i => cntA abv n i == j) = [] := by
      rw [List.filter_eq_nil_iff]
      intro a ha
      obtain ⟨i, hi, rfl⟩ := List.mem_iff_getElem.1 ha
      have hi2 : j + 1 + i < L.length := by simp at hi; omega
      rw [List.getElem_drop, hgen (j + 1 + i) hi2]
      simp; omega
    rw [ha, hb]; rfl
  have h2 : ((List.range n).filter fun i => cntA abv n i == j).Perm [(rankTo abv n)[j]] := by
    rw [← h1]; exact (hperm.filter _).symm
  exact List.perm_singleton.1 h2

theorem flat_single {f : Nat → List Nat} {L : List Nat} : ∀ m : Nat, (∀ j (hj : j < L.length), j < m → f j = [L[j]]) → m ≤ L.length → (List.range m).flatMap f = L.take m
  | 0, _, _ => by simp
  | m + 1, hf, hm => by
    rw [List.range_succ, List.flatMap_append, flat_single m (fun j hj hlt => hf j hj (by omega)) (by omega)]
    rw [List.take_succ_eq_append_getElem (by omega)]
    simp [hf m (by omega) (by omega)]

/-- BOTH ORDERS ARE ONE. -/
theorem rank_eq (h : Weak abv) (n : Nat) : refRank abv n = rankTo abv n := by
  unfold refRank
  have hl := rank_length (abv := abv) n
  rw [flat_single (L := rankTo abv n) n (fun j hj _ => filter_at h n j hj) (by omega), List.take_of_length_le (by omega)]
end Go.Proofs.Ythnjnpighnlodaa.Rk
