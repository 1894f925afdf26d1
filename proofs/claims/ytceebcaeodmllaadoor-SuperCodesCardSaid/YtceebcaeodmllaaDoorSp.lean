/-
  Plain facts for super: what stands in a block that was encoded, and that no other block is like it but in all its bytes.
  Conditions: each lemma's own.
-/
import Derived.Test.YtceebcaeodmllaaDoorSk
namespace Go.Proofs.YtceebcaeodmllaaDoor.S
open Go.RowKit

theorem putL_succ (x n : Nat) : putL x (n + 1) = putL x n ++ [x / 2 ^ (8 * n) % 256] := by simp [putL, List.range_succ]
theorem getN_putL (x n : Nat) : getN (putL x n) = x % 2 ^ (8 * n) := by
  induction n with
  | zero => simp [putL, getN, Nat.mod_one]
  | succ n ih =>
    rw [putL_succ, getN_snoc, putL_length, ih, show 8 * (n + 1) = 8 * n + 8 by omega, Nat.pow_add, Nat.mod_mul]
    rw [Nat.mul_comm (2 ^ (8 * n))]
theorem putL_small (x n : Nat) : Small (putL x n) := by
  intro y hy
  simp only [putL, List.mem_map] at hy
  obtain ⟨i, _, rfl⟩ := hy
  exact Nat.mod_lt _ (by decide)
theorem putL_inj {x y n : Nat} (hx : x < 2 ^ (8 * n)) (hy : y < 2 ^ (8 * n)) (h : putL x n = putL y n) : x = y := by
  have := congrArg getN h
  rwa [getN_putL, getN_putL, Nat.mod_eq_of_lt hx, Nat.mod_eq_of_lt hy] at this
theorem preTo_on (ns : List Nat) (j : Nat) : ∀ i, ∃ r, preTo ns (j + i) = preTo ns j ++ r
  | 0 => ⟨[], by simp⟩
  | i + 1 => by
    obtain ⟨r, hr⟩ := preTo_on ns j i
    refine ⟨r ++ putL (ns.getD (j + i) 0) (widL.getD (j + i) 0), ?_⟩
    rw [show j + (i + 1) = (j + i) + 1 from rfl, preTo, hr, List.append_assoc]
theorem encTo_take (ns : List Nat) : (encTo ns 8).take 124 = preTo ns 8 ++ List.replicate 96 0 := by
  have h : (preTo ns 8).length = 28 := preTo_length ns 8 (by decide)
  rw [encTo, List.take_append, List.take_of_length_le (by omega), h, List.take_replicate]
  rfl
theorem encL_length (ns : List Nat) : (encL ns).length = 128 := by
  show ((encTo ns 8).take 124 ++ putL _ 4).length = 128
  rw [List.length_append, List.length_take, encTo_length ns 8 (by decide), putL_length]
  rfl
theorem encL_small (ns : List Nat) : Small (encL ns) := by
  intro x hx
  rcases List.mem_append.1 hx with hx | hx
  · exact encTo_small ns 8 x (List.mem_of_mem_take hx)
  · exact putL_small _ _ x hx
/-- A number is where it was put. -/
theorem encL_cut (ns : List Nat) (j : Nat) (h : j < 8) : cutAt (encL ns) (offL.getD j 0) (widL.getD j 0) = putL (ns.getD j 0) (widL.getD j 0) := by
  obtain ⟨r, hr⟩ := preTo_on ns (j + 1) (8 - (j + 1))
  rw [show j + 1 + (8 - (j + 1)) = 8 by omega] at hr
  have h1 : (preTo ns j).length = offL.getD j 0 := preTo_length ns j (by omega)
  have e : encL ns = preTo ns j ++ (putL (ns.getD j 0) (widL.getD j 0) ++ (r ++ List.replicate 96 0 ++ putL (Nums.sum 0 ((encTo ns 8).take 124)) 4)) := by
    show (encTo ns 8).take 124 ++ _ = _
    rw [encTo_take, hr, preTo]
    simp only [List.append_assoc]
  unfold cutAt
  rw [e, List.drop_left' h1, List.take_left' (putL_length _ _)]
theorem encL_num (ns : List Nat) (j : Nat) (h : j < 8) (hb : ns.getD j 0 < 2 ^ (8 * widL.getD j 0)) : getN (cutAt (encL ns) (offL.getD j 0) (widL.getD j 0)) = ns.getD j 0 := by
  rw [encL_cut ns j h, getN_putL, Nat.mod_eq_of_lt hb]
/-- What a block's bytes say, be it right or not. -/
def numAt (l : List Nat) (j : Nat) : Nat := getN (cutAt l (offL.getD j 0) (widL.getD j 0))
def supOf (l : List Nat) : Sup :=
  ⟨IntKind.i64.wrap (numAt l 0 : Nat), (numAt l 1 : Nat), (numAt l 2 : Nat), (numAt l 5 : Nat), (numAt l 3 : Nat), IntKind.i8.wrap (numAt l 4 : Nat), (numAt l 6 : Nat), (numAt l 7 : Nat)⟩
theorem right_parts {s : Sup} (hr : s.right = true) : (1 ≤ s.gen ∧ s.gen ≤ 4611686018427387904) ∧ (3 ≤ s.mem ∧ s.mem ≤ 16) ∧ (0 ≤ s.disk ∧ s.disk ≤ s.mem) ∧ (1 ≤ s.str ∧ s.str ≤ 1024) ∧ (1 ≤ s.logs ∧ s.logs ≤ 8) ∧ (-1 ≤ s.spare ∧ s.spare ≤ s.mem - 1) ∧ (0 ≤ s.mark ∧ s.mark ≤ s.most) ∧ (0 ≤ s.cur ∧ s.cur ≤ s.str - 1) := by
  simp only [Sup.right, Bool.and_eq_true, decide_eq_true_eq] at hr
  obtain ⟨⟨⟨⟨⟨⟨⟨h1, h2⟩, h3⟩, h4⟩, h5⟩, h6⟩, h7⟩, h8⟩ := hr
  exact ⟨h1, h2, h3, h4, h5, h6, h7, h8⟩
theorem supOf_enc {s : Sup} (hr : s.right = true) : supOf (encL s.nums) = s := by
  obtain ⟨h1, h2, h3, h4, h5, h6, h7, h8⟩ := right_parts hr
  have hm : s.most ≤ 1024 := by unfold Sup.most; split <;> omega
  have n0 : numAt (encL s.nums) 0 = s.gen.toNat := encL_num s.nums 0 (by decide) (by show s.gen.toNat < 2 ^ 64; omega)
  have n1 : numAt (encL s.nums) 1 = s.mem.toNat := encL_num s.nums 1 (by decide) (by show s.mem.toNat < 2 ^ 8; omega)
  have n2 : numAt (encL s.nums) 2 = s.disk.toNat := encL_num s.nums 2 (by decide) (by show s.disk.toNat < 2 ^ 8; omega)
  have n3 : numAt (encL s.nums) 3 = s.logs.toNat := encL_num s.nums 3 (by decide) (by show s.logs.toNat < 2 ^ 8; omega)
  have n4 : numAt (encL s.nums) 4 = (s.spare % 256).toNat := encL_num s.nums 4 (by decide) (by show (s.spare % 256).toNat < 2 ^ 8; omega)
  have n5 : numAt (encL s.nums) 5 = s.str.toNat := encL_num s.nums 5 (by decide) (by show s.str.toNat < 2 ^ 32; omega)
  have n6 : numAt (encL s.nums) 6 = s.mark.toNat := encL_num s.nums 6 (by decide) (by show s.mark.toNat < 2 ^ 32; omega)
  have n7 : numAt (encL s.nums) 7 = s.cur.toNat := encL_num s.nums 7 (by decide) (by show s.cur.toNat < 2 ^ 32; omega)
  unfold supOf
  rw [n0, n1, n2, n3, n4, n5, n6, n7]
  have e0 : IntKind.i64.wrap ((s.gen.toNat : Nat) : Int) = s.gen := by rw [IntKind.wrap_i64]; omega
  have e4 : IntKind.i8.wrap (((s.spare % 256).toNat : Nat) : Int) = s.spare := by
    simp [IntKind.wrap, IntKind.bits, IntKind.signed]
    omega
  have e1 : ((s.mem.toNat : Nat) : Int) = s.mem := by omega
  have e2 : ((s.disk.toNat : Nat) : Int) = s.disk := by omega
  have e3 : ((s.logs.toNat : Nat) : Int) = s.logs := by omega
  have e5 : ((s.str.toNat : Nat) : Int) = s.str := by omega
  have e6 : ((s.mark.toNat : Nat) : Int) = s.mark := by omega
  have e7 : ((s.cur.toNat : Nat) : Int) = s.cur := by omega
  rw [e0, e1, e2, e3, e4, e5, e6, e7]
/-- A block of which one byte is another one is no block. -/
theorem enc_turned (ns ms : List Nat) (i v : Nat) (hi : i < 128) (hv : v < 256) (hne : v ≠ (encL ns).getD i 0) : encL ms ≠ (encL ns).set i v := by
  intro h
  have hl : ∀ ks, ((encTo ks 8).take 124).length = 124 := fun ks => by rw [List.length_take, encTo_length ks 8 (by decide)]; rfl
  have hs : ∀ ks, Small ((encTo ks 8).take 124) := fun ks => (encTo_small ks 8).take 124
  have e1 : encL ms = (encTo ms 8).take 124 ++ putL (Nums.sum 0 ((encTo ms 8).take 124)) 4 := rfl
  have e2 : encL ns = (encTo ns 8).take 124 ++ putL (Nums.sum 0 ((encTo ns 8).take 124)) 4 := rfl
  rw [e1, e2] at h
  rw [e2] at hne
  have q1 := hl ns
  have q2 := hl ms
  have s1 := hs ns
  have s2 := hs ms
  generalize (encTo ns 8).take 124 = c at *
  generalize (encTo ms 8).take 124 = c' at *
  by_cases h124 : i < 124
  · rw [List.set_append_left _ _ (by omega)] at h
    obtain ⟨hc, hp⟩ := List.append_inj h (by rw [List.length_set]; omega)
    have hsum := putL_inj (sum_lt s2) (sum_lt s1) hp
    have hne2 : v ≠ c.getD i 0 := by
      intro e; apply hne
      rw [e, List.getD, List.getD, List.getElem?_append_left (by omega)]
    have := Nums.sum_set_ne s1 (s := 0) (by decide) i (by omega) v hv hne2
    rw [hc] at hsum
    exact this hsum.symm
  · rw [List.set_append_right _ _ (by omega)] at h
    obtain ⟨hc, hp⟩ := List.append_inj h (by omega)
    subst hc
    have e : (putL (Nums.sum 0 c') 4).getD (i - c'.length) 0 = ((putL (Nums.sum 0 c') 4).set (i - c'.length) v).getD (i - c'.length) 0 := congrArg (fun l => l.getD (i - c'.length) 0) hp
    have hlt : i - c'.length < (putL (Nums.sum 0 c') 4).length := by rw [putL_length]; omega
    apply hne
    rw [List.getD, List.getElem?_append_right (by omega)]
    have e3 : ((putL (Nums.sum 0 c') 4).set (i - c'.length) v).getD (i - c'.length) 0 = v := by
      rw [List.getD, List.getElem?_set_self hlt]; rfl
    rw [e3] at e
    rw [← e]; rfl
end Go.Proofs.YtceebcaeodmllaaDoor.S
