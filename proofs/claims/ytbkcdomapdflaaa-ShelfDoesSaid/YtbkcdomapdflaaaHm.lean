/-
  Plain facts for the shelf: writes that wait, the last one of each sector, and what is sure behind a flush or a crash.
  Conditions: each lemma's own. Nothing of the program is imported here.
-/
namespace Go.Proofs.Ytbkcdomapdflaaa.Sh

abbrev Bs := List Nat
/-- A disk: what is sure, what waits, whether it is dead. -/
structure Dk where
  sure : List Bs
  waits : List (Nat × Bs)
  dead : Bool
instance : Inhabited Dk := ⟨⟨[], [], false⟩⟩
/-- A shelf. -/
structure Sf where
  disks : List Dk
  sectors : Nat
  count : Int
  off : Bool
  left : Nat

/-- The number of the last write of a sector. -/
def lastGo (n : Int) : List (Nat × Bs) → Nat → Option Nat → Option Nat
  | [], _, r => r
  | x :: t, i, r => lastGo n t (i + 1) (if (x.1 : Int) = n then some i else r)
def lastOf (l : List (Nat × Bs)) (n : Int) : Option Nat := lastGo n l 0 none
theorem lastGo_snoc (n : Int) (x : Nat × Bs) : ∀ (l : List (Nat × Bs)) (i : Nat) (r : Option Nat), lastGo n (l ++ [x]) i r = if (x.1 : Int) = n then some (i + l.length) else lastGo n l i r
  | [], i, r => by simp [lastGo]
  | y :: t, i, r => by
    simp only [List.cons_append, lastGo, List.length_cons]
    rw [lastGo_snoc n x t]
    split
    · congr 1; omega
    · rfl
theorem lastOf_nil (n : Int) : lastOf [] n = none := rfl
theorem lastOf_snoc (l : List (Nat × Bs)) (x : Nat × Bs) (n : Int) : lastOf (l ++ [x]) n = if (x.1 : Int) = n then some l.length else lastOf l n := by
  unfold lastOf; rw [lastGo_snoc]; simp

/-- What was written last to a sector. -/
def latest : List (Nat × Bs) → Nat → Bs → Bs
  | [], _, d => d
  | x :: t, n, d => latest t n (if x.1 = n then x.2 else d)
theorem latest_snoc (x : Nat × Bs) (n : Nat) : ∀ (l : List (Nat × Bs)) (d : Bs), latest (l ++ [x]) n d = if x.1 = n then x.2 else latest l n d
  | [], d => rfl
  | y :: t, d => by simp only [List.cons_append, latest]; rw [latest_snoc x n t]
theorem snoc_cases {α : Type} (l : List α) : l = [] ∨ ∃ t x, l = t ++ [x] := by
  rcases List.eq_nil_or_concat l with h | ⟨t, x, h⟩
  · exact .inl h
  · exact .inr ⟨t, x, by simpa using h⟩
theorem snoc_ind {α : Type} {P : List α → Prop} (h0 : P []) (h1 : ∀ t x, P t → P (t ++ [x])) : ∀ l, P l := by
  intro l
  generalize hn : l.length = n
  induction n generalizing l with
  | zero => rw [List.eq_nil_of_length_eq_zero hn]; exact h0
  | succ n ih =>
    rcases snoc_cases l with rfl | ⟨t, x, rfl⟩
    · exact h0
    · exact h1 t x (ih t (by simpa using hn))
theorem lastOf_spec (l : List (Nat × Bs)) (n : Nat) (d : Bs) : match lastOf l n with
    | some j => j < l.length ∧ ∃ b, l[j]? = some (n, b) ∧ latest l n d = b
    | none => latest l n d = d ∧ ∀ x ∈ l, x.1 ≠ n := by
  refine snoc_ind (P := fun l => match lastOf l n with
    | some j => j < l.length ∧ ∃ b, l[j]? = some (n, b) ∧ latest l n d = b
    | none => latest l n d = d ∧ ∀ x ∈ l, x.1 ≠ n) ⟨rfl, by simp⟩ ?_ l
  intro t x ih
  rw [lastOf_snoc]
  by_cases hx : x.1 = n
  · rw [if_pos (by omega)]
    refine ⟨by simp, x.2, ?_, by rw [latest_snoc, if_pos hx]⟩
    simp [← hx]
  · rw [if_neg (by omega)]
    split
    · rename_i j hj
      rw [hj] at ih
      obtain ⟨h1, b, h2, h3⟩ := ih
      exact ⟨by simp; omega, b, by rw [List.getElem?_append_left h1]; exact h2, by rw [latest_snoc, if_neg hx]; exact h3⟩
    · rename_i hj
      rw [hj] at ih
      refine ⟨by rw [latest_snoc, if_neg hx]; exact ih.1, ?_⟩
      intro y hy
      rcases List.mem_append.1 hy with h | h
      · exact ih.2 y h
      · simp at h; subst h; exact hx
theorem lastOf_some {l : List (Nat × Bs)} {n j : Nat} (d : Bs) (h : lastOf l n = some j) : j < l.length ∧ l[j]? = some (n, latest l n d) := by
  have := lastOf_spec l n d
  rw [h] at this
  obtain ⟨h1, b, h2, h3⟩ := this
  exact ⟨h1, by rw [h3]; exact h2⟩
theorem lastOf_none {l : List (Nat × Bs)} {n : Nat} (d : Bs) (h : lastOf l n = none) : latest l n d = d := by
  have := lastOf_spec l n d
  rw [h] at this
  exact this.1
theorem lastOf_isSome (l : List (Nat × Bs)) (n : Int) : (lastOf l n).isSome = l.any fun x => decide ((x.1 : Int) = n) := by
  refine snoc_ind (P := fun l => (lastOf l n).isSome = l.any fun x => decide ((x.1 : Int) = n)) rfl ?_ l
  intro t x ih
  rw [lastOf_snoc, List.any_append, ← ih]
  by_cases hx : (x.1 : Int) = n <;> simp [hx]

/-- What is sure behind the end of all waiting: those writes whose numbers are kept. -/
def stl (kp : Nat → Bool) : List (Nat × Bs) → Nat → List Bs → List Bs
  | [], _, s => s
  | x :: t, i, s => stl kp t (i + 1) (if kp i then s.set x.1 x.2 else s)
theorem stl_snoc (kp : Nat → Bool) (x : Nat × Bs) : ∀ (l : List (Nat × Bs)) (i : Nat) (s : List Bs), stl kp (l ++ [x]) i s = if kp (i + l.length) then (stl kp l i s).set x.1 x.2 else stl kp l i s
  | [], i, s => by simp [stl]
  | y :: t, i, s => by
    simp only [List.cons_append, stl, List.length_cons]
    rw [stl_snoc kp x t]
    have e : i + 1 + t.length = i + (t.length + 1) := by omega
    rw [e]
theorem stl_length (kp : Nat → Bool) : ∀ (l : List (Nat × Bs)) (i : Nat) (s : List Bs), (stl kp l i s).length = s.length
  | [], _, _ => rfl
  | x :: t, i, s => by
    unfold stl
    rw [stl_length kp t]
    split
    · simp
    · rfl
/-- What is sure when so many writes have been looked at. -/
def stlTo (kp : Nat → Bool) (l : List (Nat × Bs)) (k : Nat) (s : List Bs) : List Bs := stl kp (l.take k) 0 s
theorem stlTo_zero (kp : Nat → Bool) (l : List (Nat × Bs)) (s : List Bs) : stlTo kp l 0 s = s := rfl
theorem stlTo_all (kp : Nat → Bool) (l : List (Nat × Bs)) (s : List Bs) : stlTo kp l l.length s = stl kp l 0 s := by unfold stlTo; rw [List.take_length]
theorem stlTo_succ (kp : Nat → Bool) (l : List (Nat × Bs)) (k : Nat) (s : List Bs) {n : Nat} {b : Bs} (h : l[k]? = some (n, b)) :
    stlTo kp l (k + 1) s = if kp k then (stlTo kp l k s).set n b else stlTo kp l k s := by
  unfold stlTo
  obtain ⟨hk, he⟩ := List.getElem?_eq_some_iff.1 h
  rw [List.take_succ_eq_append_getElem hk, he, stl_snoc]
  simp [Nat.min_eq_left (Nat.le_of_lt hk)]
theorem stlTo_length (kp : Nat → Bool) (l : List (Nat × Bs)) (k : Nat) (s : List Bs) : (stlTo kp l k s).length = s.length := stl_length _ _ _ _
/-- What holds of all that is sure and of all that waits, holds of what is sure then. -/
theorem stl_all {p : Bs → Prop} (kp : Nat → Bool) : ∀ (l : List (Nat × Bs)) (i : Nat) (s : List Bs), (∀ x ∈ l, p x.2) → (∀ b ∈ s, p b) → ∀ b ∈ stl kp l i s, p b
  | [], _, _, _, hs => hs
  | x :: t, i, s, hl, hs => by
    unfold stl
    refine stl_all kp t _ _ (fun y hy => hl y (List.mem_cons_of_mem _ hy)) ?_
    split
    · intro b hb
      rcases List.mem_or_eq_of_mem_set hb with h | h
      · exact hs b h
      · rw [h]; exact hl x (List.mem_cons_self ..)
    · exact hs
/-- All are kept: the last one of each sector counts. -/
theorem stl_true (n : Nat) : ∀ (l : List (Nat × Bs)) (i : Nat) (s : List Bs), n < s.length → (stl (fun _ => true) l i s)[n]? = some (latest l n (s.getD n []))
  | [], _, s, h => by simp [stl, latest, List.getD, h]
  | x :: t, i, s, h => by
    simp only [stl, if_true, latest]
    rw [stl_true n t _ _ (by simpa using h)]
    congr 2
    by_cases hx : x.1 = n
    · subst hx; simp [List.getD, h]
    · simp [List.getD, hx]
theorem stl_false (l : List (Nat × Bs)) (i : Nat) (s : List Bs) : stl (fun _ => false) l i s = s := by
  induction l generalizing i with
  | nil => rfl
  | cons x t ih => unfold stl; rw [if_neg (by simp)]; exact ih _
/-- A sector has what was sure, or what one of the writes had. -/
theorem stl_mem (kp : Nat → Bool) (n : Nat) : ∀ (l : List (Nat × Bs)) (i : Nat) (s : List Bs), n < s.length → (stl kp l i s)[n]? = s[n]? ∨ ∃ x ∈ l, x.1 = n ∧ (stl kp l i s)[n]? = some x.2
  | [], _, _, _ => .inl rfl
  | x :: t, i, s, h => by
    have h' : n < (if kp i then s.set x.1 x.2 else s).length := by split <;> simpa using h
    rcases stl_mem kp n t (i + 1) _ h' with e | ⟨y, hy, hn, e⟩
    · unfold stl
      rw [e]
      split
      · by_cases hx : x.1 = n
        · right
          refine ⟨x, List.mem_cons_self .., hx, ?_⟩
          subst hx
          simp [h]
        · left
          rw [List.getElem?_set_ne hx]
      · exact .inl rfl
    · right
      exact ⟨y, List.mem_cons_of_mem _ hy, hn, e⟩
theorem stl_other (kp : Nat → Bool) (n : Nat) (l : List (Nat × Bs)) (i : Nat) (s : List Bs) (h : ∀ x ∈ l, x.1 ≠ n) : (stl kp l i s)[n]? = s[n]? := by
  induction l generalizing i s with
  | nil => rfl
  | cons x t ih =>
    unfold stl
    rw [ih _ _ (fun y hy => h y (List.mem_cons_of_mem _ hy))]
    split
    · rw [List.getElem?_set_ne (h x (List.mem_cons_self ..))]
    · rfl

/-- Which sectors still wait when so many writes have been looked at. -/
def stillIn (l : List (Nat × Bs)) (k : Nat) (n : Int) : Bool := (l.any fun x => decide ((x.1 : Int) = n)) && !((l.take k).any fun x => decide ((x.1 : Int) = n))
theorem stillIn_zero (l : List (Nat × Bs)) (n : Int) : stillIn l 0 n = (lastOf l n).isSome := by rw [lastOf_isSome]; simp [stillIn]
theorem stillIn_all (l : List (Nat × Bs)) (n : Int) : stillIn l l.length n = false := by simp [stillIn]
theorem stillIn_succ (l : List (Nat × Bs)) (k : Nat) (n : Int) {m : Nat} {b : Bs} (h : l[k]? = some (m, b)) : stillIn l (k + 1) n = if (m : Int) = n then false else stillIn l k n := by
  obtain ⟨hk, he⟩ := List.getElem?_eq_some_iff.1 h
  unfold stillIn
  rw [List.take_succ_eq_append_getElem hk, he, List.any_append]
  by_cases hm : (m : Int) = n <;> simp [hm]

/-- A disk's calls. -/
def Dk.val (k : Dk) (n : Nat) : Bs := latest k.waits n (k.sure.getD n [])
def Dk.write (k : Dk) (n : Nat) (b : Bs) : Dk := { k with waits := k.waits ++ [(n, b)] }
def Dk.settle (k : Dk) (kp : Nat → Bool) : Dk := { k with sure := stl kp k.waits 0 k.sure, waits := [] }
def Sf.setDisk (s : Sf) (d : Nat) (k : Dk) : Sf := { s with disks := s.disks.set d k }
def noughts : Bs := List.replicate 128 0
def newDk (sectors : Nat) : Dk := { sure := List.replicate sectors noughts, waits := [], dead := false }
def newSf (disks sectors : Nat) : Sf := { disks := List.replicate disks (newDk sectors), sectors := sectors, count := 0, off := false, left := 0 }
end Go.Proofs.Ytbkcdomapdflaaa.Sh
