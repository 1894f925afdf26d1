/-
  Plain facts: two sums put into their sector, and when a block is good.
  Conditions: each lemma's own.
-/
import Derived.Test.YtjdjpafnakhpcaaDoorUg
import Derived.Laws.CopyOwn
namespace Go.Proofs.YtjdjpafnakhpcaaDoor.U
open Go.RowKit Go.Maps

theorem getN_putL (x n : Nat) : getN (putL x n) = x % 2 ^ (8 * n) := by
  induction n with
  | zero => simp [putL, getN, Nat.mod_one]
  | succ n ih =>
    have h : putL x (n + 1) = putL x n ++ [x / 2 ^ (8 * n) % 256] := by simp [putL, List.range_succ]
    rw [h, getN_snoc, ih, putL_length]
    have e : 8 * (n + 1) = 8 * n + 8 := by omega
    rw [e, Nat.pow_add, Nat.mod_mul]
    have : (2 : Nat) ^ 8 = 256 := by decide
    rw [this, Nat.mul_comm (2 ^ (8 * n))]
/-- Bytes put into a text at a place. -/
def putAt (l : List Nat) (i : Nat) (c : List Nat) : List Nat := l.take i ++ (c ++ l.drop (i + c.length))
theorem putAt_bts (l c : List Nat) (i : Nat) : splice (bts l) i (bts c) = bts (putAt l i c) := by
  simp [splice, putAt, bts, List.map_take, List.map_drop]
theorem putAt_length {l c : List Nat} {i : Nat} (h : i + c.length ≤ l.length) : (putAt l i c).length = l.length := by
  simp [putAt]; omega
theorem putAt_small {l c : List Nat} {i : Nat} (hl : Small l) (hc : Small c) : Small (putAt l i c) := by
  intro x hx
  rcases List.mem_append.1 hx with hx | hx
  · exact hl x (List.mem_of_mem_take hx)
  · rcases List.mem_append.1 hx with hx | hx
    · exact hc x hx
    · exact hl x (List.mem_of_mem_drop hx)
theorem cut_put_same {l c : List Nat} {i : Nat} (h : i ≤ l.length) : cutAt (putAt l i c) i c.length = c := by
  unfold cutAt putAt
  rw [List.drop_left' (by simp; omega), List.take_left' rfl]
theorem putAt_get {l c : List Nat} {i x : Nat} (h : i + c.length ≤ l.length) (hx : x < i ∨ i + c.length ≤ x) : (putAt l i c)[x]? = l[x]? := by
  unfold putAt
  rcases hx with hx | hx
  · rw [List.getElem?_append_left (by simp; omega), List.getElem?_take, if_pos hx]
  · rw [List.getElem?_append_right (by simp; omega), List.getElem?_append_right (by simp; omega), List.getElem?_drop]
    congr 1
    simp
    omega
theorem cut_put_other {l c : List Nat} {i j m : Nat} (h : i + c.length ≤ l.length) (hj : j + m ≤ i ∨ i + c.length ≤ j) : cutAt (putAt l i c) j m = cutAt l j m := by
  unfold cutAt
  apply List.ext_getElem?
  intro x
  rw [List.getElem?_take, List.getElem?_take]
  split
  · rw [List.getElem?_drop, List.getElem?_drop, putAt_get h (by omega)]
  · rfl
/-- A sector of sums with other ones for a block. -/
def setPair (l : List Nat) (k x y : Nat) : List Nat := putAt (putAt l (k % 16 * 8) (putL x 4)) (k % 16 * 8 + 4) (putL y 4)
section
variable {l : List Nat} {k x y : Nat}
theorem setPair_length (hl : l.length = 128) : (setPair l k x y).length = 128 := by
  unfold setPair
  rw [putAt_length (by rw [putAt_length (by rw [putL_length]; omega), putL_length]; omega), putAt_length (by rw [putL_length]; omega), hl]
theorem setPair_small (hl : Small l) : Small (setPair l k x y) := putAt_small (putAt_small hl (putL_small _ _)) (putL_small _ _)
theorem setPair_sec (h : Sh.Sec l) : Sh.Sec (setPair l k x y) := ⟨setPair_length h.1, setPair_small h.2⟩
theorem pr_set_0 (hl : l.length = 128) (hx : x < 4294967296) : pr (setPair l k x y) k 0 = x := by
  have h1 : (putAt l (k % 16 * 8) (putL x 4)).length = 128 := by rw [putAt_length (by rw [putL_length]; omega), hl]
  unfold pr setPair
  simp only [Nat.zero_mul, Nat.add_zero]
  rw [cut_put_other (by rw [putL_length]; omega) (.inl (by omega))]
  have := cut_put_same (l := l) (c := putL x 4) (i := k % 16 * 8) (by omega)
  rw [putL_length] at this
  rw [this, getN_putL, Nat.mod_eq_of_lt hx]
theorem pr_set_1 (hl : l.length = 128) (hy : y < 4294967296) : pr (setPair l k x y) k 1 = y := by
  have h1 : (putAt l (k % 16 * 8) (putL x 4)).length = 128 := by rw [putAt_length (by rw [putL_length]; omega), hl]
  unfold pr setPair
  rw [Nat.one_mul]
  have := cut_put_same (l := putAt l (k % 16 * 8) (putL x 4)) (c := putL y 4) (i := k % 16 * 8 + 4) (by omega)
  rw [putL_length] at this
  rw [this, getN_putL, Nat.mod_eq_of_lt hy]
theorem pr_set_other (hl : l.length = 128) {j i : Nat} (hj : j % 16 ≠ k % 16) (hi : i < 2) : pr (setPair l k x y) j i = pr l j i := by
  have h1 : (putAt l (k % 16 * 8) (putL x 4)).length = 128 := by rw [putAt_length (by rw [putL_length]; omega), hl]
  unfold pr setPair
  rw [cut_put_other (by rw [putL_length]; omega) (by rw [putL_length]; omega), cut_put_other (by rw [putL_length]; omega) (by rw [putL_length]; omega)]
end
theorem sumL_lt {d k : Int} {b : List Nat} (hb : Small b) : sumL d k b < 4294967296 := Nums.sum_lt hb (Nums.sum_lt (putL_small _ _) (Nums.sum_lt (putL_small _ _) (by decide)))
/-- Is a block good, whose sum is s, whose two sums are x and y, and whose bytes are b? -/
def goodB (s x y : Nat) (b : Sh.Bs) : Bool := decide (s = x) || (decide (s = y) || (decide (x = 0 ∧ y = 0) && decide (b = Sh.noughts)))
/-- A block of a disk, of whose sums' sector and whose own one these are the bytes. -/
def goodL (d k : Nat) (sec b : Sh.Bs) : Bool := goodB (sumL d k b) (pr sec k 0) (pr sec k 1) b
theorem goodL_of {d k : Nat} {sec b : Sh.Bs} (h : sumL d k b = pr sec k 0 ∨ sumL d k b = pr sec k 1) : goodL d k sec b = true := by
  unfold goodL goodB
  rcases h with h | h <;> simp [h]
/-- What another block has in a sector of sums, is as it was. -/
theorem goodL_other {d k j x y : Nat} {sec b : Sh.Bs} (hl : sec.length = 128) (hj : j % 16 ≠ k % 16) : goodL d j (setPair sec k x y) b = goodL d j sec b := by
  unfold goodL
  rw [pr_set_other hl hj (by decide), pr_set_other hl hj (by decide)]
theorem sum_of_lt {k : Nat} {n : Nat} (h : k < blk n) : dataOf k < n ∧ sumOf k < n ∧ sumOf k ≠ dataOf k := by
  unfold blk at h; unfold dataOf sumOf; omega
theorem dataOf_inj {j k : Nat} (h : dataOf j = dataOf k) : j = k := by unfold dataOf at h; omega
theorem data_ne_sum (j k : Nat) : dataOf j ≠ sumOf k := by unfold dataOf sumOf; omega
theorem sumOf_eq {j k : Nat} (h : sumOf j = sumOf k) (hj : j ≠ k) : j % 16 ≠ k % 16 := by unfold sumOf at h; omega
end Go.Proofs.YtjdjpafnakhpcaaDoor.U
