/-
  The contract of the definition's put onto a text of a constant's bytes: there is no room, a new row is laid.
  Conditions: each theorem's own.
-/
import Derived.Test.YtceebcaeodmllaaDoorSl
import Derived.Deep.AppendSrc
import Derived.Lib.SlBytesConst
namespace Go.Proofs.YtceebcaeodmllaaDoor.S
open Go.RowKit

theorem reads_onto {w : World} {base : Nat} {g n m cc : Nat} {ad : Addr} {l k : List Nat} (ty : TypeId) (i : TypeInfo) (hi : Tryd.prog.info? 5 = some i) (hz : i.zero = some (.int .u8 0)) (hsz : i.size = 1) (hby : i.bytes = 1)
    (hl : l.length = n) (hk : k.length = m) (hr : ∀ j v, (bts l)[j]? = some v → w.cell? ⟨g, j, none⟩ = some v) (hr2 : ∀ j v, (bts k)[j]? = some v → w.cell? (ad.add j) = some v) (hm : 0 < m) (hb : n + m ≤ 1000) (hbase : base ≤ w.heap.size) :
    ∃ v' w', (Builtin.append_ #[24, 24] ty #[.slice (some ⟨g, 0, none⟩) n n, .slice (some ad) m cc]).run Tryd.prog w = .ok v' w' ∧ w'.ownsRow base 5 1 v' (n + m) (bts (l ++ k)) ∧ Below base w w' := by
  have hs : Src Tryd.prog i.size 24 (.slice (some ad) m cc) m (bts k) w := by
    rw [hsz]
    exact Src.ofSlice w Tryd.underlying24 ad m cc _ (by rw [bts_length, hk, Nat.mul_one]) hr2 (bts_one k)
  have hold : (Builtin.firstCells i.size n (.slice (some ⟨g, 0, none⟩) n n)).run Tryd.prog w.drew = .ok (bts l).toArray w.drew := by
    rw [hsz]
    refine run_firstCells_some w.drew 1 n ⟨g, 0, none⟩ n n (bts l) (by rw [bts_length, hl, Nat.mul_one]) (fun j v hv => ?_)
    rw [add_plain, Nat.zero_add]
    exact hr j v hv
  have hg := grownCap_ge w (n + m) n 5
  have hg2 := grownCap_le_maxLen w (n + m) n 5 (by unfold maxLen; omega)
  have hrun := run_append_grow_src w 24 24 ty 5 i _ Tryd.underlying24 hi hz (some ⟨g, 0, none⟩) n n (bts l) hold _ m _ hs (by omega) (by omega) (by rw [hby]; have := nextslicecap_le (need := n + m) (old := n) (by omega); omega)
  refine ⟨_, _, hrun, ?_, ?_⟩
  · generalize grownCap w (n + m) n 5 = G at *
    have hlen : (bts (l ++ k)).length = n + m := by rw [bts_length, List.length_append, hl, hk]
    have hz2 : (Builtin.zeroCells (Value.int .u8 0).cells (G - (n + m))).size = G - (n + m) := by
      have h1 : (Value.int .u8 0).cells.size = 1 := rfl
      simp [Builtin.zeroCells, h1]
    rw [← bts_append]
    refine ⟨by omega, .inr ⟨w.heap.size, G, _, rfl, hbase, heap_alloc_new w.drew _, hg, hg2, ?_, ?_⟩⟩
    · rw [Array.size_append, hz2, List.size_toArray, hlen]; omega
    · rw [Array.toList_append, Nat.mul_one, List.take_append_of_le_length (by simp [hlen]), List.take_of_length_le (by simp [hlen])]
  · exact ((Below.refl base w).drew).alloc (by simpa using hbase) _
theorem appendFirst {ops : Array Oper} {rest : List Oper} {o : Oper} {a : Act} {Q : Exit → Act → World → Prop} (w : World) (hgd : o.guard = none) (s x : Operand)
    (ho : o.op = .call { callee := .builtin .append, args := #[s, x], argTypes := #[24, 24] }) (u y v' : Value) (w' : World) (hs : a.eval s = u) (hx : a.eval x = y)
    (hrun : (Builtin.append_ #[24, 24] o.type #[u, y]).run Tryd.prog w = .ok v' w') (h : wpList Tryd.prog ops Q rest (a.put o.dst v') w') : wpList Tryd.prog ops Q (o :: rest) a w := by
  refine wpList_plain hgd fun K hK => ?_
  unfold Oper.wp execOp
  simp only [ho, resolve, invoke, builtin, Sem.run_bind, Sem.run_pure, Result.andThen_ok, List.map_toArray, List.map_cons, List.map_nil, hs, hx, hrun]
  exact hK _ _ h
set_option maxHeartbeats 1000000 in
theorem refput_first (base g : Nat) (l : List Nat) (x : Nat) (w : World) (hl : l.length = 4) (hr : ∀ j v, (bts l)[j]? = some v → w.cell? ⟨g, j, none⟩ = some v) (hg : g < w.heap.size) (hbase : base ≤ w.heap.size) (hx : x < 2 ^ (8 * 8)) (hx2 : x < 9223372036854775808) :
    Calls Tryd.prog 21 #[.slice (some ⟨g, 0, none⟩) 4 4, .int .i64 x, .int .i64 8] w fun e w' => ∃ v', e = .returned v' ∧ w'.ownsRow base 5 1 v' 12 (bts (l ++ putL x 8)) ∧ Below base w w' := by
  obtain ⟨i0, hi, hz0, hz1, hz2⟩ := info_parts info_u8
  have q : Calls Tryd.prog 29 #[.int .u64 x, .int .i64 8] w (RefMade (putL x 8) w) := (refPut_any x 8 w (by decide) (by decide) (by omega)).mono fun e w' h => by
    unfold PutRef at h
    rwa [if_pos hx] at h
  clear hx
  go_enter Tryd.func21, Tryd.ntmps21
  go_wp2_with fail
  refine q.mono ?_
  clear q
  rintro e w1 ⟨v1, rfl, hown1, hb1⟩
  obtain ⟨A1, c1, rfl, hr1, _, _⟩ := own_shape hown1
  have hlen := putL_length x 8
  rw [hlen] at hr1
  obtain ⟨ad, rfl, _, hc1⟩ := hr1.2 (by decide)
  obtain ⟨v', w', hrun, hown', hb'⟩ := reads_onto (base := base) (n := 4) (m := 8) (cc := c1) 24 i0 hi hz0 hz1 hz2 hl hlen (fun j v hv => (hb1.cell (p := ⟨g, j, none⟩) hg).trans (hr j v hv)) hc1 (by decide) (by decide) (Nat.le_trans hbase hb1.size)
  have hbb := (hb1.mono hbase).trans hb'
  clear hown1 hr1 hc1
  go_wp2_with (at_builtin; refine appendFirst _ rfl (.tmp 16) (.tmp 17) rfl _ _ v' w' rfl rfl hrun ?_)
  go_ret
  exact ⟨v', rfl, hown', hbb⟩
end Go.Proofs.YtceebcaeodmllaaDoor.S
