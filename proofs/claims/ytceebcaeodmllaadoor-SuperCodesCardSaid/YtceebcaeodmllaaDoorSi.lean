/-
  What disks say, put behind one another; what came in of it; who says the same.
  Conditions: each theorem's own.
-/
import Derived.Test.YtceebcaeodmllaaDoorSy
import Derived.Test.YtceebcaeodmllaaDoorSm
import Derived.Maps.AppendAt
import Derived.OwnWalk
namespace Go.Proofs.YtceebcaeodmllaaDoor.S
open Go.ChangeShapes Go.WideShapes Go.ChangeAt Go.RowKit

/-- The cells of what disks say, one behind the other. -/
def flat : List Sup → List Value
  | [] => []
  | s :: t => s.cells.toList ++ flat t
theorem flat_len : ∀ ss : List Sup, (flat ss).length = ss.length * 8
  | [] => rfl
  | s :: t => by
    rw [flat, List.length_append, flat_len t, List.length_cons]
    have : s.cells.toList.length = 8 := rfl
    omega
theorem flat_at : ∀ (ss : List Sup) (i r : Nat), i < ss.length → r < 8 → (flat ss)[i * 8 + r]? = (supAt ss i).cells[r]?
  | [], _, _, h, _ => by simp at h
  | s :: t, 0, r, _, hr => by
    rw [flat, Nat.zero_mul, Nat.zero_add, List.getElem?_append_left (by show r < 8; exact hr)]
    show s.cells.toList[r]? = s.cells[r]?
    simp
  | s :: t, i + 1, r, h, hr => by
    have h8 : s.cells.toList.length = 8 := rfl
    rw [flat, List.getElem?_append_right (by omega), h8, show (i + 1) * 8 + r - 8 = i * 8 + r by omega]
    exact flat_at t i r (by simpa using h) hr
theorem flat_one : ∀ (ss : List Sup), ∀ u ∈ flat ss, u.oneCell' = true
  | [], _, h => by simp [flat] at h
  | s :: t, u, h => by
    rcases List.mem_append.1 h with h | h
    · simp [Sup.cells] at h
      rcases h with rfl | rfl | rfl | rfl | rfl | rfl | rfl | rfl <;> rfl
    · exact flat_one t u h
theorem run_append_nil {P : Program} (w : World) (base : Nat) (t ty e : TypeId) (i : TypeInfo) (size : Nat) (ht : P.underlying t = some (.slice e)) (hi : P.info? e = some i)
    (v : Value) (n : Nat) (xs : List Value) (hown : w.ownsRow base e size v n xs) (c : Nat) : (Builtin.append_ #[t, t] ty #[v, .slice none 0 c]).run P w = .ok v w := by
  rcases hown.2 with ⟨rfl, rfl⟩ | ⟨g, cap, cur, rfl, _, _, hnc, _⟩
  · simp [Builtin.append_, run_underlying ht, sizeOf, typeInfo, hi, Builtin.lenOf, Builtin.firstCells]
  · simp [Builtin.append_, run_underlying ht, sizeOf, typeInfo, hi, Builtin.lenOf, Builtin.firstCells, hnc, storeCells]
theorem appendSups {ops : Array Oper} {rest : List Oper} {o : Oper} {a : Act} {Q : Exit → Act → World → Prop} (w : World) (hgd : o.guard = none) (s x : Operand)
    (ho : o.op = .call { callee := .builtin .append, args := #[s, x], argTypes := #[35, 35] })
    (base : Nat) (i : TypeInfo) (z : Value) (hi : Tryd.prog.info? 23 = some i) (hz : i.zero = some z) (hsize : i.size = 8) (hby : i.bytes = 64) (hzs : z.cells.size = 8)
    (v : Value) (hs : a.eval s = v) (hown : w.ownsRow base 23 8 v 0 [])
    (L : Nat) (A : Option Addr) (m c : Nat) (ss : List Sup) (hx : a.eval x = .slice A m c) (hr : SupsAre w L A m ss) (hm : m ≤ 1000) (w0 : World) (hbel : Below base w0 w) (hbase : base ≤ w.heap.size)
    (h : ∀ v' w', w'.ownsRow base 23 8 v' m (flat ss) → Below base w0 w' → wpList Tryd.prog ops Q rest (a.put o.dst v') w') : wpList Tryd.prog ops Q (o :: rest) a w := by
  have hl := hr.1
  have hrow : ∀ g, v.ownBlock = some g → base ≤ g := fun g hg => (hown.lt g hg).1
  rcases A with _ | ad
  · have hm0 : m = 0 := by
      rcases Nat.eq_zero_or_pos m with h0 | h0
      · exact h0
      · obtain ⟨b, off, e, _⟩ := hr.2 h0
        cases e
    subst hm0
    obtain rfl : ss = [] := List.eq_nil_of_length_eq_zero hl
    refine wpList_plain hgd fun K hK => ?_
    unfold Oper.wp execOp
    have hrun := run_append_nil (P := Tryd.prog) w base 35 o.type 23 i 8 Tryd.underlying35 hi v 0 [] hown c
    simp only [ho, resolve, invoke, builtin, Sem.run_bind, Sem.run_pure, Result.andThen_ok, List.map_toArray, List.map_cons, List.map_nil, hs, hx, hrun]
    exact hK _ _ (h v w hown hbel)
  · have hcells : ∀ j u, (flat ss)[j]? = some u → w.cell? (ad.add j) = some u := by
      intro j u hu
      have hj : j < m * 8 := by
        have := (List.getElem?_eq_some_iff.1 hu).1
        rw [flat_len, hl] at this; exact this
      obtain ⟨b, off, e, _, hc⟩ := hr.2 (by omega)
      injection e with e
      subst e
      have hq : j / 8 * 8 + j % 8 = j := by omega
      have h1 : j / 8 < ss.length := by omega
      rw [← hq, flat_at ss (j / 8) (j % 8) h1 (by omega)] at hu
      have hs2 : ss[j / 8]? = some (supAt ss (j / 8)) := by simp [supAt, List.getD, List.getElem?_eq_getElem h1]
      have := hc (j / 8) _ hs2 (j % 8) u hu
      have hadd : (⟨b, off, none⟩ : Addr).add j = ⟨b, off + j / 8 * 8 + j % 8, none⟩ := by unfold Addr.add; split <;> simp_all; omega
      rw [hadd]; exact this
    refine wpList_plain hgd fun K hK => ?_
    refine wp_append_own w s x 35 ho base 23 i z 8 64 Tryd.underlying35 hi hz hsize hby hzs (by decide) v 0 [] hs hown ad m c (flat ss) hx (by rw [flat_len, hl]) hcells (flat_one ss) (by unfold maxLen; omega) (by omega) hbase ?_
    intro v' w' hown' hg _
    rw [Nat.zero_add, List.nil_append] at hown'
    exact hK _ _ (h v' w' hown' (hbel.grown hg hbase hrow))
theorem sups_of_own {w : World} {base n : Nat} {v : Value} {ss : List Sup} (h : w.ownsRow base 23 8 v n (flat ss)) (hl : ss.length = n) : ∃ A c, v = .slice A n c ∧ SupsAre w w.heap.size A n ss := by
  rcases h.2 with ⟨rfl, rfl⟩ | ⟨g, cap, cur, rfl, hb, hh, hnc, hm, hs, ht⟩
  · exact ⟨none, 0, rfl, hl, fun h => absurd h (by decide)⟩
  · refine ⟨some ⟨g, 0, none⟩, cap, rfl, hl, fun _ => ⟨g, 0, rfl, ?_, fun i s hs' j u hu => ?_⟩⟩
    · rcases Nat.lt_or_ge g w.heap.size with h | h
      · exact h
      · rw [Array.getElem?_eq_none h] at hh; cases hh
    · have hi : i < n := by have := (List.getElem?_eq_some_iff.1 hs').1; omega
      have hj : j < 8 := (Array.getElem?_eq_some_iff.1 hu).1
      have e : s = supAt ss i := by simp [supAt, List.getD, hs']
      subst e
      rw [cell_of_row _ _ (0 + i * 8 + j) _ _ _ hh, Nat.zero_add]
      have h1 := flat_at ss i j (by omega) hj
      rw [hu, ← ht, List.getElem?_take, if_pos (by omega)] at h1
      rw [← Array.getElem?_toList]; exact h1

section
variable {H : Type} {enc : TypeId × Value → H} {W : World}
theorem cells_get {base n : Nat} {a : Addr} {xs : List Value} (h : W.cells? base a n = some xs) : xs.length = n ∧ ∀ k, k < n → ∃ v, xs[k]? = some v ∧ W.cell? (a.add k) = some v := by
  unfold World.cells? at h
  split at h
  · have hl : xs.length = n := by simpa using mapM_some_length h
    refine ⟨hl, fun k hk => ?_⟩
    have := mapM_some_get h k k (by simp [hk])
    rw [List.getElem?_eq_getElem (by omega)] at this
    exact ⟨_, List.getElem?_eq_getElem (by omega), this⟩
  · cases h
theorem add_plain (b o k : Nat) : (⟨b, o, none⟩ : Addr).add k = ⟨b, o + k, none⟩ := by unfold Addr.add; split <;> simp_all
theorem sups_in {fuel n c : Nat} {A : Option Addr} {x : DataW H × List MemPlace} (h : DataW.trod enc Tryd.prog W 0 (fun _ => true) true fuel 35 [.slice A n c] = some x)
    (hw : ∀ k ∈ x.1.weights Tryd.prog 35, k ≤ reachBytes) : ∃ ss, SupsAre W W.heap.size A n ss ∧ n * 64 ≤ 140737488351232 := by
  rcases DataW.trod_slice Tryd.underlying35 h with ⟨h0, hx⟩ | ⟨a, len, cap, elems, rest, m, _, h0, hx, _, hl, hm, hlen, hel, _⟩
  · simp only [List.cons.injEq, Value.slice.injEq, and_true] at h0
    obtain ⟨rfl, rfl, rfl⟩ := h0
    exact ⟨[], ⟨rfl, fun h => absurd h (by decide)⟩, by decide⟩
  · simp only [List.cons.injEq, Value.slice.injEq, and_true] at h0
    obtain ⟨rfl, rfl, rfl⟩ := h0
    have hbd : n * 64 ≤ 140737488351232 := by
      rw [hx] at hw
      have h1 := hw ((elems.map (·.1)).length * 64 + (rest.map (·.1)).length * 64) (by simp [DataW.weights, Tryd.underlying35, bytesSup, Nat.add_mul])
      simp only [List.length_map, hlen, reachBytes] at h1
      omega
    have hcs : ∀ i, i < n → ∃ cs y, cs.length = 8 ∧ (∀ k, k < 8 → ∃ v, cs[k]? = some v ∧ W.cell? ((a.add (i * 8)).add k) = some v) ∧ DataW.trod enc Tryd.prog W 0 (fun _ => true) true m 23 cs = some y := by
      intro i hi
      have h1 := hel i hi
      rw [cellsSup, List.getElem?_eq_getElem (by omega), Option.bind_eq_some_iff] at h1
      obtain ⟨cs, hcs, hy⟩ := h1
      obtain ⟨hl1, hg⟩ := cells_get hcs
      exact ⟨cs, _, hl1, hg, hy⟩
    rcases Nat.eq_zero_or_pos n with h0 | h0
    · subst h0
      exact ⟨[], ⟨rfl, fun h => absurd h (by decide)⟩, by decide⟩
    · obtain ⟨b, off, spot⟩ := a
      obtain ⟨cs, y, _, hg, _⟩ := hcs 0 h0
      obtain ⟨v, _, hv⟩ := hg 0 (by decide)
      have hspot : spot = none := by simpa [Addr.add] using World.cell?_spot hv
      subst hspot
      have hblt := World.block_lt_of_cell? W _ hv
      rw [block_of_add, block_of_add] at hblt
      have hz : ∀ i, ∃ s : Sup, i < n → ∀ j v, s.cells[j]? = some v → W.cell? ⟨b, off + i * 8 + j, none⟩ = some v := by
        intro i
        by_cases hi : i < n
        · obtain ⟨cs, y, hl6, hg, hy⟩ := hcs i hi
          obtain ⟨s, rfl, _⟩ := sup_val hl6 hy
          refine ⟨s, fun _ j v hv => ?_⟩
          have hj : j < 8 := (Array.getElem?_eq_some_iff.1 hv).1
          obtain ⟨u, h1, h2⟩ := hg j hj
          rw [add_of_add, add_plain, ← Nat.add_assoc] at h2
          rw [Array.getElem?_toList, hv] at h1
          injection h1 with h1
          rw [h1]; exact h2
        · exact ⟨sup0, fun h => absurd h hi⟩
      obtain ⟨f, hf⟩ := Classical.axiomOfChoice hz
      refine ⟨(List.range n).map f, ⟨by simp, fun _ => ⟨b, off, rfl, hblt, fun i s hs => ?_⟩⟩, hbd⟩
      have hi : i < n := by have := (List.getElem?_eq_some_iff.1 hs).1; simpa using this
      have e : s = f i := by simpa [hi] using hs.symm
      rw [e]
      exact hf i hi
end

/-! ### who says the same -/
theorem xor1_ne (x : Int) (_ : -9223372036854775808 ≤ x) (_ : x ≤ 9223372036854775807) : bits .xor .i64 x 1 ≠ x := by
  intro h
  have h1 : IntKind.i64.wrap (((BitVec.ofInt 64 x ^^^ BitVec.ofInt 64 1).toNat : Nat) : Int) = x := h
  rw [IntKind.wrap_i64] at h1
  have hb := BitVec.toNat_ofInt (n := 64) x
  have hlt : (BitVec.ofInt 64 x ^^^ BitVec.ofInt 64 1).toNat < 2 ^ 64 := BitVec.isLt _
  have e1 : (BitVec.ofInt 64 x ^^^ BitVec.ofInt 64 1).toNat = (BitVec.ofInt 64 x).toNat ^^^ 1 := by
    rw [BitVec.toNat_xor]; rfl
  rw [e1] at h1 hlt
  have e2 : (BitVec.ofInt 64 x).toNat ^^^ 1 = (BitVec.ofInt 64 x).toNat := by
    generalize (BitVec.ofInt 64 x).toNat = b at *
    generalize b ^^^ 1 = q at *
    omega
  have e3 : (BitVec.ofInt 64 x).toNat ^^^ 1 = (BitVec.ofInt 64 x).toNat ^^^ 0 := by rw [e2, Nat.xor_zero]
  exact absurd (Nums.xor_cancel_left e3) (by decide)
theorem alike_yes (x0 x1 x2 x3 x4 x5 x6 x7 d : Int) (w : World) :
    Calls Tryd.prog 19 #[.agg #[.int .i64 x0, .int .i64 x1, .int .i64 x2, .int .i64 x3, .int .i64 x4, .int .i64 x5, .int .i64 x6, .int .i64 x7], .agg #[.int .i64 x0, .int .i64 x1, .int .i64 d, .int .i64 x3, .int .i64 x4, .int .i64 x5, .int .i64 x6, .int .i64 x7]] w
      fun e w' => e = .returned (.bool true) ∧ Below w.heap.size w w' := by
  go_enter Tryd.func19, Tryd.ntmps19
  go_wp2_with fail
  go_ret
  exact ⟨rfl, ((Below.refl _ _).alloc (Nat.le_refl _) _).alloc (by simp) _⟩
theorem alike_no (x0 x1 x2 x3 x4 x5 x6 x7 m : Int) (hm : m ≠ x6) (w : World) :
    Calls Tryd.prog 19 #[.agg #[.int .i64 x0, .int .i64 x1, .int .i64 x2, .int .i64 x3, .int .i64 x4, .int .i64 x5, .int .i64 x6, .int .i64 x7], .agg #[.int .i64 x0, .int .i64 x1, .int .i64 x2, .int .i64 x3, .int .i64 x4, .int .i64 x5, .int .i64 m, .int .i64 x7]] w
      fun e w' => e = .returned (.bool false) ∧ Below w.heap.size w w' := by
  have h1 : (x6 == m) = false := by rw [beq_eq_false_iff_ne]; exact Ne.symm hm
  go_enter Tryd.func19, Tryd.ntmps19
  go_wp2_with fail
  go_ret
  exact ⟨rfl, ((Below.refl _ _).alloc (Nat.le_refl _) _).alloc (by simp) _⟩
end Go.Proofs.YtceebcaeodmllaaDoor.S
