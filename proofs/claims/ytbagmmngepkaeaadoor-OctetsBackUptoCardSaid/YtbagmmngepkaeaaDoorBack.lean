/-
  OctetsBack is true for every number, every width, and whatever stands ahead and behind: what is put is got.
  Conditions: what is handed in holds at most 1048576 values and letters together (the second form); the two tables of the sum hold what the program's text lays (the card ties that).
-/
import Derived.Test.YtbagmmngepkaeaaDoorFrame
namespace Go.Proofs.YtbagmmngepkaeaaDoor.octetsBack
open Go.ChangeShapes Go.WideShapes Go.ChangeAt Go.RowKit

theorem putL_succ (x n : Nat) : putL x (n + 1) = putL x n ++ [x / 2 ^ (8 * n) % 256] := by simp [putL, List.range_succ]
theorem getN_putL (x n : Nat) : getN (putL x n) = x % 2 ^ (8 * n) := by
  induction n with
  | zero => simp [putL, getN, Nat.mod_one]
  | succ n ih =>
    rw [putL_succ, getN_snoc, putL_length, ih, show 8 * (n + 1) = 8 * n + 8 by omega, Nat.pow_add, Nat.mod_mul]
    rw [Nat.mul_comm (2 ^ (8 * n))]
theorem putL_small (x n : Nat) : Small (putL x n) := by
  intro y hy
  simp only [putL, List.mem_map] at hy
  obtain ⟨i, _, rfl⟩ := hy
  exact Nat.mod_lt _ (by decide)
theorem cut_mid (a p b : List Nat) : cutAt ((a ++ p) ++ b) a.length p.length = p := by
  unfold cutAt
  rw [List.append_assoc, List.drop_left, List.take_left]

set_option maxHeartbeats 1000000 in
theorem walk_no {w : World} (x : Nat) (k : Int) (A : Option Addr) (n c : Nat) (B : Option Addr) (m d : Nat) (hT : Tabs w)
    (h : Calls Tryd.prog 12 #[.int .u64 x, .int .i64 k] w (Refused w)) :
    Calls Tryd.prog 4 #[.int .u64 x, .int .i64 k, .slice A n c, .slice B m d] w fun e w' => e = .returned (.bool true) ∧ Below w.heap.size w w' := by
  have H := Lib.hid h
  clear h
  go_enter Tryd.func4, Tryd.ntmps4
  go_wp2_with fail
  refine H.out.mono ?_
  rintro e w1 ⟨rfl, rfl⟩
  go_wp2_with fail
  refine (lives_yes w hT).mono ?_
  rintro e w2 ⟨rfl, hb2⟩
  go_wp2_with fail
  go_ret
  exact ⟨rfl, hb2⟩

set_option maxHeartbeats 1000000 in
theorem walk_yes {w : World} (x : Nat) (k : Nat) (hk1 : 1 ≤ k) (hk2 : k ≤ 8) (hx : x < 2 ^ (8 * k)) (A : Option Addr) (n c : Nat) (l : List Nat) (hl : Small l) (hr : Reads w w.heap.size A n (bts l)) (hn : n ≤ 1048576)
    (B : Option Addr) (m d : Nat) (q : List Nat) (hq : Small q) (hr2 : Reads w w.heap.size B m (bts q)) (hm : m ≤ 1048576) (hT : Tabs w) :
    Calls Tryd.prog 4 #[.int .u64 x, .int .i64 k, .slice A n c, .slice B m d] w fun e w' => e = .returned (.bool true) ∧ Below w.heap.size w w' := by
  have hsz := hT.size
  obtain ⟨i0, hi, hz0, hz1, hz2⟩ := info_parts info_u8
  have hlen := Lib.hid hr.len
  have hput := Lib.hid (put_ok x k w hk1 hk2 hx)
  have hpl := Lib.hid (putL_length x k)
  have hps := putL_small x k
  have hcut := Lib.hid (cut_mid l (putL x k) q)
  have hgot := Lib.hid (show getN (putL x k) = x by rw [getN_putL, Nat.mod_eq_of_lt hx])
  clear hx
  go_enter Tryd.func4, Tryd.ntmps4
  go_wp2_with fail
  refine hput.out.mono ?_
  rintro e w1 ⟨v1, rfl, hown1, hb1⟩
  rw [hpl.out] at hown1
  obtain ⟨A1, c1, rfl, hr1, _, _⟩ := own_shape hown1
  have hrA1 := reads_over hr hb1
  have hrB1 := reads_over hr2 hb1
  clear hown1 hr hr2
  go_wp2_with fail
  refine (lives_yes w1 (hT.below hsz hb1)).mono ?_
  rintro e w2 ⟨rfl, hb2⟩
  have hrA2 := reads_over hrA1 hb2
  have hrB2 := reads_over hrB1 hb2
  have hr12 := reads_over hr1 hb2
  have hbw2 := below_on hb1 hb2
  clear hrA1 hrB1 hr1 hb1 hb2
  generalize putL x k = p at *
  go_wp2_with (first
    | (at_builtin; refine appendAll _ rfl (.tmp 27) (.tmp 28) 23 rfl w2.heap.size 5 i0 (.int .u8 0) 1 Tryd.underlying23 hi hz0 hz1 hz2 rfl (.slice (some ⟨w2.heap.size, 0, none⟩) 0 0) 0 [] rfl (by exact World.ownsRow_made w2 #[] 0 (Nat.le_refl _) (by decide) rfl) w2.heap.size A n c (bts l) rfl (hrA2.alloc (Nat.le_refl _) _) (bts_one l) (by unfold maxLen; omega) (by omega) w2 (by exact (Below.refl _ _).alloc (Nat.le_refl _) _) (by simp) ?_; intro v3 w3 hown3 hgr3 hbel3)
    | (at_builtin; refine appendAll _ rfl (.tmp 29) (.tmp 30) 23 rfl w2.heap.size 5 i0 (.int .u8 0) 1 Tryd.underlying23 hi hz0 hz1 hz2 rfl v3 (0 + n) ([] ++ bts l) rfl (by exact hown3) w2.heap.size A1 k c1 (bts p) rfl (hr12.below hbel3) (bts_one p) (by unfold maxLen; omega) (by omega) w2 (by exact hbel3) hbel3.size ?_; intro v4 w4 hown4 hgr4 hbel4)
    | (at_builtin; refine appendAll _ rfl (.tmp 31) (.tmp 32) 23 rfl w2.heap.size 5 i0 (.int .u8 0) 1 Tryd.underlying23 hi hz0 hz1 hz2 rfl v4 (0 + n + k) (([] ++ bts l) ++ bts p) rfl (by exact hown4) w2.heap.size B m d (bts q) rfl (hrB2.below hbel4) (bts_one q) (by unfold maxLen; omega) (by omega) w2 (by exact hbel4) hbel4.size ?_; intro v5 w5 hown5 hgr5 hbel5))
  have e5 : (([] ++ bts l) ++ bts p) ++ bts q = bts ((l ++ p) ++ q) := by rw [bts_append, bts_append]; rfl
  rw [e5] at hown5
  obtain ⟨A5, c5, rfl, hr5, _, _⟩ := own_shape hown5
  have hsm : Small ((l ++ p) ++ q) := fun y hy => (List.mem_append.1 hy).elim (fun h => (List.mem_append.1 h).elim (hl y) (hps y)) (hq y)
  have hbw5 := below_on hbw2 hbel5
  clear hown3 hown4 hown5 hgr3 hgr4 hgr5 hbel3 hbel4 hbel5 e5 hrA2 hrB2 hr12 hbw2
  have hget := get_ok A5 _ c5 _ ((l ++ p) ++ q) n k w5 hk1 hk2 hsm hr5 (by unfold maxLen; omega) (by omega)
  have hcl := hcut.out
  rw [hlen.out, hpl.out] at hcl
  rw [hcl, hgot.out] at hget
  have Hget := Lib.hid hget
  clear hget hcl
  go_wp2_with fail
  refine Hget.out.mono ?_
  rintro e w' ⟨rfl, rfl⟩
  go_wp2_with fail
  go_ret
  exact ⟨rfl, hbw5⟩

theorem walk {w : World} (x : Nat) (_hx : x < 18446744073709551616) (k : Int) (_hk1 : -9223372036854775808 ≤ k) (_hk2 : k ≤ 9223372036854775807) (A : Option Addr) (n c : Nat) (l : List Nat) (hl : Small l) (hr : Reads w w.heap.size A n (bts l)) (hn : n ≤ 1048576)
    (B : Option Addr) (m d : Nat) (q : List Nat) (hq : Small q) (hr2 : Reads w w.heap.size B m (bts q)) (hm : m ≤ 1048576) (hT : Tabs w) :
    Calls Tryd.prog 4 #[.int .u64 x, .int .i64 k, .slice A n c, .slice B m d] w fun e w' => e = .returned (.bool true) ∧ Below w.heap.size w w' := by
  by_cases hk : 1 ≤ k ∧ k ≤ 8
  · obtain ⟨j, rfl⟩ := Int.eq_ofNat_of_zero_le (show 0 ≤ k by omega)
    by_cases hb : x < 2 ^ (8 * j)
    · exact walk_yes x j (by omega) (by omega) hb A n c l hl hr hn B m d q hq hr2 hm hT
    · exact walk_no x j A n c B m d hT (put_big x j w (by omega) (by omega) (by omega))
  · exact walk_no x k A n c B m d hT (put_wide x k w (by omega))

set_option maxRecDepth 100000 in
/-- WHAT THE WALK GIVES, FOR EVERY ARGUMENT AND EVERY WORLD THAT HOLDS THE TABLES. -/
theorem contract (H : Type) (enc : TypeId × Value → H) (W : World) (base : Nat) (args : Array Value) (ds gs : List (DataW H)) (before : List MemPlace)
    (hval : ∀ (j : Nat) t v, Tryd.f4.params[j]? = some t → args[j]? = some v → Value.okWide Tryd.prog W .any base t v)
    (hW : DataW.Whole enc Tryd.prog Tryd.f4.params.toList Rows.octetsBackSpec.vars false W args.toList ds gs before)
    (hsz : (DataW.weightsEach Tryd.prog (Tryd.f4.params.toList ++ (Rows.OpenSpec.upto Rows.octetsBackSpec).bare.plain.varTypes Tryd.prog) (ds ++ gs)).all (· ≤ reachBytes) = true) (hL : laidMetH Tryd.prog laidBoth W) (hbulk : Rows.uptoSmall H (ds ++ gs) = true) :
    Calls Tryd.prog 4 args W fun e W' => ∃ v, e = .returned v ∧ Rows.octetsBackSpec.post enc Tryd.prog Tryd.f4 false true false false W args v W' := by
  have hW' := hW
  obtain ⟨p, q, hA0, hV, rfl, hfz, hnd⟩ := hW
  have hA : DataW.TrodAll enc Tryd.prog W 0 (fun _ => true) true Tryd.f4.params.toList args.toList ds p := hA0
  have hsz2 : (DataW.weightsEach Tryd.prog (Tryd.f4.params.toList ++ []) (ds ++ gs)).all (· ≤ reachBytes) = true := hsz
  rw [Tryd.params4] at hA hval hsz2
  obtain ⟨v0, vs0, d0, ds0, p0, q0, hargs, rfl, rfl, h0, r0⟩ := trodAll_cons hA
  obtain ⟨v1, vs1, d1, ds1, p1, q1, rfl, rfl, rfl, h1, r1⟩ := trodAll_cons r0
  obtain ⟨v2, vs2, d2, ds2, p2, q2, rfl, rfl, rfl, h2, r2⟩ := trodAll_cons r1
  obtain ⟨v3, vs3, d3, ds3, p3, q3, rfl, rfl, rfl, h3, r3⟩ := trodAll_cons r2
  obtain ⟨rfl, rfl, rfl⟩ := trodAll_nil r3
  obtain rfl : args = #[v0, v1, v2, v3] := by cases args; simp_all
  obtain ⟨rfl, rfl⟩ := trodVars_none hV
  obtain ⟨a0, rfl, rfl, rfl, w0⟩ := open_int Tryd.underlying22 (hval 0 22 v0 rfl rfl) h0
  have bd0 := bounds_u64 w0
  obtain ⟨m0, hm0⟩ : ∃ m : Nat, a0 = (m : Int) := ⟨a0.toNat, by omega⟩
  obtain ⟨a1, rfl, rfl, rfl, w1⟩ := open_int Tryd.underlying3 (hval 1 3 v1 rfl rfl) h1
  have bd1 := bounds_i64 w1
  obtain ⟨A2, n2, c2, rfl⟩ := okWide_slice Tryd.underlying23 (hval 2 23 v2 rfl rfl)
  have k2 := h2
  have lt2 : ∀ x ∈ p2, x.block < W.heap.size := by obtain ⟨m, hm⟩ := k2; exact DataW.trod_lt m _ _ _ hm
  obtain ⟨l2, sl2, rd2, nc2, _, dd2⟩ : ∃ l, Small l ∧ Reads W W.heap.size A2 n2 (bts l) ∧ n2 ≤ c2 ∧ c2 ≤ maxLen ∧ ((d2 = .nil ∧ c2 = 0) ∨ ∃ es sp, d2 = .slice es sp ∧ es.length + sp.length = c2) := by obtain ⟨fuel, hf⟩ := h2; exact bytes_in (by simpa [Value.cells] using hf)
  have b2 : n2 ≤ 140737488351232 := by
    rcases dd2 with ⟨_, hc0⟩ | ⟨es, sp, hd, hc0⟩
    · omega
    · have := sized_slice (P := Tryd.prog) hsz2 (j := 2) (t := 23) (e := 5) rfl (by rw [hd]; rfl) Tryd.underlying23
      rw [bytesU8] at this; simp only [reachBytes] at this; omega
  have u2 : n2 ≤ 1048576 := by
    have hb := of_decide_eq_true hbulk
    rcases dd2 with ⟨_, hc0⟩ | ⟨es, sp, hd, hc0⟩
    · omega
    · have h2 := slice_le (H := H) es sp
      rw [hd] at hb
      simp only [List.append_nil, Rows.uptoBulkAll] at hb; omega
  obtain ⟨A3, n3, c3, rfl⟩ := okWide_slice Tryd.underlying23 (hval 3 23 v3 rfl rfl)
  have k3 := h3
  have lt3 : ∀ x ∈ p3, x.block < W.heap.size := by obtain ⟨m, hm⟩ := k3; exact DataW.trod_lt m _ _ _ hm
  obtain ⟨l3, sl3, rd3, nc3, _, dd3⟩ : ∃ l, Small l ∧ Reads W W.heap.size A3 n3 (bts l) ∧ n3 ≤ c3 ∧ c3 ≤ maxLen ∧ ((d3 = .nil ∧ c3 = 0) ∨ ∃ es sp, d3 = .slice es sp ∧ es.length + sp.length = c3) := by obtain ⟨fuel, hf⟩ := h3; exact bytes_in (by simpa [Value.cells] using hf)
  have b3 : n3 ≤ 140737488351232 := by
    rcases dd3 with ⟨_, hc0⟩ | ⟨es, sp, hd, hc0⟩
    · omega
    · have := sized_slice (P := Tryd.prog) hsz2 (j := 3) (t := 23) (e := 5) rfl (by rw [hd]; rfl) Tryd.underlying23
      rw [bytesU8] at this; simp only [reachBytes] at this; omega
  have u3 : n3 ≤ 1048576 := by
    have hb := of_decide_eq_true hbulk
    rcases dd3 with ⟨_, hc0⟩ | ⟨es, sp, hd, hc0⟩
    · omega
    · have h2 := slice_le (H := H) es sp
      rw [hd] at hb
      simp only [List.append_nil, Rows.uptoBulkAll] at hb; omega
  have hT := tabs_of_laid hL
  subst hm0
  refine (walk m0 (by omega) a1 bd1.1 bd1.2 A2 n2 c2 l2 sl2 rd2 u2 A3 n3 c3 l3 sl3 rd3 u3 hT).mono fun e W' ⟨he, bel⟩ => ?_
  subst he
  exact ⟨_, rfl, _, _, _, [], _, [], hW', trodAll_mk1 (shut_bool Tryd.underlying4 _), (trodAll_cons_mk (shut_int Tryd.underlying22 w0) (trodAll_cons_mk (shut_int Tryd.underlying3 w1) (trodAll_cons_mk (Below.trod laidOut (by kernel_rfl) (of_decide_eq_true (by kernel_rfl)) k2 bel lt2) (trodAll_cons_mk (Below.trod laidOut (by kernel_rfl) (of_decide_eq_true (by kernel_rfl)) k3 bel lt3) trodAll_mk0)))), rfl, bel.frame _, fun h => by cases h⟩

theorem laid_met (os : Os) : laidMetH Tryd.prog laidBoth ((laidWorld os).forCall (fun _ _ => 0) ⟨#[], #[.int .u64 0, .int .i64 0, .slice none 0 0, .slice none 0 0], []⟩).memory :=
  laidMetH_of_parts3 (fuel := 8) (laidMet_of_run' 8 (by kernel_rfl) (by kernel_rfl)) (by kernel_rfl) (by kernel_rfl)
theorem reads (os : Os) {H : Type} (enc : TypeId × Value → H) : ∃ places, DataW.whole enc Tryd.prog ((laidWorld os).forCall (fun _ _ => 0) ⟨#[], #[.int .u64 0, .int .i64 0, .slice none 0 0, .slice none 0 0], []⟩).memory Tryd.f4.params.toList Rows.octetsBackSpec.vars false (#[.int .u64 0, .int .i64 0, .slice none 0 0, .slice none 0 0] : Array Value).toList 8 = some ([.lit (.int .u64 0), .lit (.int .i64 0), .nil, .nil], [], places) :=
  ⟨[], by kernel_rfl⟩
set_option maxRecDepth 100000 in
theorem lifted (os : Os) (started : os.Started) (H : Type) (enc : TypeId × Value → H) (F : Stop.Interp) :
    ReturnsInHanded {} Tryd.checked os 4 .any ((Rows.OpenSpec.upto Rows.octetsBackSpec).preRow enc Tryd.prog Tryd.f4 Rows.octetsBackUptoRow.domain false Rows.octetsBackUptoRow.laid) (((Rows.OpenSpec.upto Rows.octetsBackSpec).at F).post enc Tryd.prog Tryd.f4 false true false false) := by
  obtain ⟨places, hx⟩ := reads os enc
  refine returnsInHanded_of_row (C := Tryd.checked) (s := (Rows.OpenSpec.upto Rows.octetsBackSpec)) own started (by kernel_rfl) Tryd.func4
    (witness_row_at (enc := enc) (C := Tryd.checked) false (laidWorld os) #[.int .u64 0, .int .i64 0, .slice none 0 0, .slice none 0 0] rfl (by kernel_rfl) (by kernel_rfl) (by kernel_rfl)
      (OpenSpec.preRow_of_cond 8 hx (by kernel_rfl) (fun k hk => by cases hk; kernel_rfl) (by kernel_rfl) (laid_met os))) ?_
  intro W base args ds gs before hval hW _ hcond hsz hL _ _
  exact contract H enc W base args ds gs before hval hW hsz hL (hcond _ rfl)
theorem said : Rows.OctetsBackUptoSaid :=
  OpenClaim.holds_of_cond 4 Tryd.f4 rfl rfl rfl rfl rfl rfl rfl ⟨rfl, rfl, rfl, rfl, rfl⟩ rfl rfl rfl rfl rfl (by kernel_rfl) Tryd.func4 (by kernel_rfl)
    (of_decide_eq_true (by kernel_rfl)) (by unfold Func.isWrapper; first | (rw [if_pos (by decide +kernel)]; kernel_rfl) | (rw [if_neg (by decide +kernel)]; exact ⟨rfl, rfl⟩))
    (fun os started H enc _ F => by rw [OpenClaim.pre_eq_preRow]; exact lifted os started H enc F)
theorem plain (f : FuncId) (fn : Func) (hf : Tryd.pinned.checked.prog.funcNamed "ashlar/ashlarlaw01.OctetsBack" = some f) (hfn : Tryd.pinned.checked.prog.funcs[f]? = some fn) :
    false = Tryd.pinned.checked.prog.looks [] ∧ ∀ (j : Nat) t, fn.params[j]? = some t → Tryd.pinned.checked.prog.wantsStandIn t = false := by
  obtain rfl : f = 4 := Option.some.inj ((show Tryd.prog.funcNamed "ashlar/ashlarlaw01.OctetsBack" = some 4 by kernel_rfl).symm.trans hf) |>.symm
  obtain rfl : fn = Tryd.f4 := (Option.some.inj (Tryd.func4.symm.trans hfn)).symm
  refine ⟨by kernel_rfl, fun j t ht => ?_⟩
  rw [Tryd.params4] at ht
  have hm : t ∈ [22, 3, 23, 23] := by simpa using Array.mem_of_getElem? ht
  have hall : ([22, 3, 23, 23].all fun u => !Tryd.prog.wantsStandIn u) = true := by kernel_rfl
  exact (show Tryd.prog.wantsStandIn t = false by simpa using List.all_eq_true.1 hall t hm)

/-- ████ THE CARD ████ -/
theorem card : Rows.OctetsBackUptoCardSaid :=
  Claim7.holds_tied_plain_at .later [] _ _ _ _ said (fun _ h => by cases h) (by kernel_rfl) (fun _ h => by cases h) octetsBackUpto_row_tie rfl ⟨rfl, rfl⟩ (by kernel_rfl) rfl plain (by kernel_rfl)
end Go.Proofs.YtbagmmngepkaeaaDoor.octetsBack
