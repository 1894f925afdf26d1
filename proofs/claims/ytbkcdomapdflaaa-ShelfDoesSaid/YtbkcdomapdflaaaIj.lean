/-
  Bytes that lie in the midst of a block of one's own: one more behind them.
  Conditions: each theorem's own.
-/
import Derived.Test.YtbkcdomapdflaaaIi
import Derived.Deep.AppendSrc
import Derived.Deep.AppendLies
import Derived.Deep.MidRow
namespace Go.Proofs.Ytbkcdomapdflaaa.Sh
open Go.RowKit Go.Maps

/-- n bytes in a block, c cells that may be written. -/
structure Mid (w : World) (g off n c : Nat) (l : Bs) : Prop where
  len : l.length = n
  le : n ≤ c
  lt : g < w.heap.size
  there : ∀ j, j < c → (w.cell? ⟨g, off + j, none⟩).isSome = true
  free : ∀ j, j < c → w.frozen? ⟨g, off + j, none⟩ = false
  at_ : ∀ j, j < n → w.cell? ⟨g, off + j, none⟩ = some (.int .u8 ((l.getD j 0 : Nat) : Int))
theorem Mid.same {w w' : World} {g off n c : Nat} {l : Bs} (h : Mid w g off n c l) (hb : w'.heap[g]? = w.heap[g]?) (hs : w.heap.size ≤ w'.heap.size) : Mid w' g off n c l :=
  ⟨h.len, h.le, Nat.lt_of_lt_of_le h.lt hs, fun j hj => by rw [World.cell?_of_block (w := w) hb]; exact h.there j hj, fun j hj => by rw [World.frozen?_of_block (w := w) hb]; exact h.free j hj, fun j hj => by rw [World.cell?_of_block (w := w) hb]; exact h.at_ j hj⟩
theorem Mid.last {w : World} {g off n c : Nat} {l : Bs} (h : Mid w g off n c l) (hn : 0 < n) : Mid w g (off + (n - 1)) 1 (c - (n - 1)) [l.getD (n - 1) 0] := by
  refine ⟨rfl, by have := h.le; omega, h.lt, fun j hj => ?_, fun j hj => ?_, fun j hj => ?_⟩
  · rw [Nat.add_assoc]; exact h.there _ (by omega)
  · rw [Nat.add_assoc]; exact h.free _ (by omega)
  · obtain rfl : j = 0 := by omega
    exact h.at_ (n - 1) (by omega)
theorem getD_snoc_old (l : Bs) (x j : Nat) (h : j < l.length) : (l ++ [x]).getD j 0 = l.getD j 0 := by simp [List.getD, List.getElem?_append_left h]
theorem getD_snoc_new (l : Bs) (x : Nat) : (l ++ [x]).getD l.length 0 = x := by simp [List.getD]
theorem getElem?_zero_cells (k i : Nat) (h : i < k) : ∃ u, (Builtin.zeroCells #[Value.int .u8 0] k)[i]? = some u := ⟨_, Array.getElem?_eq_getElem (by simp [Builtin.zeroCells]; exact h)⟩
theorem info_byte : (Try.prog.info? 5).map (fun i => (i.zero, i.size, i.bytes)) = some (some (.int .u8 0), 1, 1) := by kernel_rfl
set_option maxRecDepth 20000 in
theorem run_append_mid (ty : TypeId) {w : World} {g off n c cc x : Nat} {l : Bs} (h : Mid w g off n c l) {ad : Addr} (hx : w.cell? ad = some (.int .u8 (x : Int))) (hn : n ≤ 100000) :
    ∃ g' off' c' w', (Builtin.append_ #[36, 36] ty #[.slice (some ⟨g, off, none⟩) n c, .slice (some ad) 1 cc]).run Try.prog w = .ok (.slice (some ⟨g', off', none⟩) (n + 1) c') w' ∧ Mid w' g' off' (n + 1) c' (l ++ [x]) ∧ w.grownBy w' (some g) ∧ (g' = g ∨ g' = w.heap.size) := by
  obtain ⟨i, hi, hz, hsz, hby⟩ := info_parts info_byte
  have hadd : ad.add 0 = ad := by unfold Addr.add; simp
  have hs : Src Try.prog i.size 36 (.slice (some ad) 1 cc) 1 [.int .u8 (x : Int)] w := by
    rw [hsz]
    refine Src.ofSlice w Try.underlying36 ad 1 cc _ rfl (fun j u hu => ?_) (fun u hu => by simp at hu; subst hu; rfl)
    match j, hu with
    | 0, hu => rw [hadd, hx]; exact hu
  by_cases hr : n + 1 ≤ c
  · refine ⟨g, off, c, _, run_append_room_src w _ _ ty _ i Try.underlying36 hi g off n c _ 1 _ hs hr (fun j hj => ?_) (fun j hj => ?_), ?_, ?_, .inl rfl⟩
    · rw [hsz]
      obtain rfl : j = 0 := by simpa using hj
      rw [Nat.mul_one]; exact h.there n (by omega)
    · rw [hsz]
      obtain rfl : j = 0 := by simpa using hj
      rw [Nat.mul_one]; exact h.free n (by omega)
    · rw [hsz]
      have hin : ∀ j, j < ([Value.int .u8 (x : Int)]).length → (w.cell? ⟨g, off + n * 1 + j, none⟩).isSome = true := fun j hj => by
        obtain rfl : j = 0 := by simpa using hj
        rw [Nat.mul_one]; exact h.there n (by omega)
      refine ⟨by simp [h.len], hr, ?_, fun j hj => World.isSome_setCells _ _ _ _ _ (h.there j hj), fun j hj => by rw [World.frozen?_setCells]; exact h.free j hj, fun j hj => ?_⟩
      · have := World.block_lt_of_cell? (w.setCells g (off + n * 1) [.int .u8 (x : Int)]) _ (World.cell?_setCells_in g _ _ w hin 0 (by simp))
        exact this
      · by_cases e : j = n
        · subst e
          rw [← h.len, getD_snoc_new, h.len]
          have := World.cell?_setCells_in g _ _ w hin 0 (by simp)
          simpa using this
        · rw [World.cell?_setCells_out g _ _ w _ (fun _ _ => .inl (by show off + j < off + n * 1; omega)), h.at_ j (by omega), getD_snoc_old _ _ _ (by rw [h.len]; omega)]
    · rw [hsz]
      show w.grownBy (w.setCell ⟨g, off + n * 1, none⟩ (.int .u8 (x : Int))) (some g)
      have hO : Only (fun b => b = g) w (w.setCell ⟨g, off + n * 1, none⟩ (.int .u8 (x : Int))) := (Only.refl (fun b => b = g) w).setCell (p := ⟨g, off + n * 1, none⟩) (.inl rfl) _
      exact ⟨hO.os, hO.tape, hO.output, hO.size, fun k _ hk => heap_set_other w ⟨g, off + n * 1, none⟩ _ (fun e => hk (by rw [e]))⟩
  · have hcn : c = n := by have := h.le; omega
    subst hcn
    have hold : (Builtin.firstCells i.size c (.slice (some ⟨g, off, none⟩) c c)).run Try.prog w.drew = .ok (bts l).toArray w.drew := by
      rw [hsz]
      refine run_firstCells_some w.drew 1 c ⟨g, off, none⟩ c c (bts l) (by rw [bts_length, h.len, Nat.mul_one]) (fun j v hv => ?_)
      have hj : j < l.length := by
        rcases Nat.lt_or_ge j l.length with h | h
        · exact h
        · rw [List.getElem?_eq_none (by simpa [bts] using h)] at hv; cases hv
      rw [bts_get l j hj] at hv
      rw [Addr.add_mid]
      exact (h.at_ j (by rw [← h.len]; exact hj)).trans hv
    have hg := grownCap_ge w (c + 1) c 5
    refine ⟨w.heap.size, 0, _, _, run_append_grow_src w _ _ ty _ i _ Try.underlying36 hi hz (some ⟨g, off, none⟩) c c (bts l) hold _ 1 _ hs (by omega) (by omega) (by rw [hby]; have := nextslicecap_le (need := c + 1) (old := c) (by omega); omega), ?_, ?_, .inr rfl⟩
    · generalize hG : grownCap w (c + 1) c 5 = G at *
      have hrow : (w.drew.alloc (.cells ((bts l ++ [Value.int .u8 (x : Int)]).toArray ++ Builtin.zeroCells (Value.int .u8 0).cells (G - (c + 1))) 5)).heap[w.heap.size]? = _ := heap_alloc_new w.drew _
      have hlen : (bts l ++ [Value.int .u8 (x : Int)]).toArray.size = c + 1 := by simp [bts_length, h.len]
      have hat : ∀ j, j < c + 1 → ((bts l ++ [Value.int .u8 (x : Int)]).toArray ++ Builtin.zeroCells (Value.int .u8 0).cells (G - (c + 1)))[j]? = some (Value.int .u8 (((l ++ [x]).getD j 0 : Nat) : Int)) := fun j hj => by
        rw [Array.getElem?_append_left (by rw [hlen]; exact hj)]
        have e : bts l ++ [Value.int .u8 (x : Int)] = bts (l ++ [x]) := by simp [bts]
        rw [e, List.getElem?_toArray]
        exact bts_get _ j (by simp [h.len]; omega)
      refine ⟨by simp [h.len], hg, by simp, fun j hj => ?_, fun j _ => frozen_of_row _ _ _ _ _ hrow, fun j hj => ?_⟩
      · rw [Nat.zero_add, cell_of_row _ _ j _ _ _ hrow]
        by_cases hjc : j < c + 1
        · rw [hat j hjc]; rfl
        · rw [Array.getElem?_append_right (by rw [hlen]; omega), hlen]
          obtain ⟨u, hu⟩ := getElem?_zero_cells (G - (c + 1)) (j - (c + 1)) (by omega)
          exact (congrArg Option.isSome hu).trans rfl
      · rw [Nat.zero_add, cell_of_row _ _ j _ _ _ hrow]
        exact hat j hj
    · exact ⟨rfl, rfl, rfl, by simp, fun k hk _ => heap_alloc_old w.drew _ hk⟩
theorem wpList_append_mid {ops : Array Oper} {rest : List Oper} {o : Oper} {a : Act} {Q : Exit → Act → World → Prop} {w : World} (hgd : o.guard = none) (s x : Operand)
    (ho : o.op = .call { callee := .builtin .append, args := #[s, x], argTypes := #[36, 36] })
    {g off n c cc b : Nat} {l : Bs} {ad : Addr} (hs : a.eval s = .slice (some ⟨g, off, none⟩) n c) (hx : a.eval x = .slice (some ad) 1 cc) (h : Mid w g off n c l) (hb : w.cell? ad = some (.int .u8 (b : Int))) (hn : n ≤ 100000)
    (H : Nat) (hH : w.heap.size = H)
    (hk : ∀ g' off' c' w', Mid w' g' off' (n + 1) c' (l ++ [b]) → w.grownBy w' (some g) → (g' = g ∨ g' = H) → wpList Try.prog ops Q rest (a.put o.dst (.slice (some ⟨g', off', none⟩) (n + 1) c')) w') : wpList Try.prog ops Q (o :: rest) a w := by
  refine wpList_plain hgd fun K hK => ?_
  obtain ⟨g', off', c', w', hr, h2, h3, h4⟩ := run_append_mid (cc := cc) o.type h hb hn
  unfold Oper.wp execOp
  simp only [ho, resolve, invoke, builtin, Sem.run_bind, Sem.run_pure, Result.andThen_ok, List.map_toArray, List.map_cons, List.map_nil, hs, hx, hr]
  exact hK _ _ (hk g' off' c' w' h2 h3 (by rw [← hH]; exact h4))
end Go.Proofs.Ytbkcdomapdflaaa.Sh
