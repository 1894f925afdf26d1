/-
  OctetsNumbers is true for every number, every width, every slice of bytes and every place: the program's Put and Get answer as the definition's.
  Conditions: none of its own; the two tables of the sum hold what the program's text lays (the card ties that).
-/
import Derived.Test.YtbagmmngepkaeaaDoorFrame
namespace Go.Proofs.YtbagmmngepkaeaaDoor.octetsNumbers
open Go.ChangeShapes Go.WideShapes Go.ChangeAt Go.RowKit

/-- What a call of Put leaves, of the program and of the definition: the same answer twice. -/
def PutSame (x : Nat) (n : Int) (w : World) (e : Ending) (w' : World) : Prop :=
  ∃ v l er, e = .returned (.tuple #[v, .int .i64 er]) ∧ w'.ownsRow w.heap.size 5 1 v l.length (bts l) ∧ Below w.heap.size w w' ∧
    ((1 ≤ n ∧ n ≤ 8 ∧ x < 2 ^ (8 * n.toNat) ∧ l = putL x n.toNat ∧ er = 0) ∨ (¬ (1 ≤ n ∧ n ≤ 8 ∧ x < 2 ^ (8 * n.toNat)) ∧ l = [] ∧ er = 1))
theorem putSame_refused {x : Nat} {n : Int} {w : World} {e : Ending} {w' : World} (h : ¬ (1 ≤ n ∧ n ≤ 8 ∧ x < 2 ^ (8 * n.toNat))) (he : e = .returned (.tuple #[.slice none 0 0, .int .i64 1])) (hb : Below w.heap.size w w') : PutSame x n w e w' :=
  ⟨.slice none 0 0, [], 1, he, World.ownsRow_nil _ _ _ _, hb, .inr ⟨h, rfl, rfl⟩⟩
theorem put_same (x : Nat) (n : Int) (w : World) : Calls Tryd.prog 12 #[.int .u64 x, .int .i64 n] w (PutSame x n w) := by
  by_cases hn : 1 ≤ n ∧ n ≤ 8
  · obtain ⟨m, rfl⟩ := Int.eq_ofNat_of_zero_le (show 0 ≤ n by omega)
    by_cases hb : x < 2 ^ (8 * m)
    · exact (put_ok x m w (by omega) (by omega) hb).mono fun e w' ⟨v, he, hown, hbel⟩ => ⟨v, putL x m, 0, he, hown, hbel, .inl ⟨hn.1, hn.2, by simpa using hb, by simp, rfl⟩⟩
    · exact (put_big x m w (by omega) (by omega) (by omega)).mono fun e w' ⟨he, hw⟩ => putSame_refused (fun h => hb (by simpa using h.2.2)) he (hw ▸ Below.refl _ _)
  · exact (put_wide x n w (by omega)).mono fun e w' ⟨he, hw⟩ => putSame_refused (fun h => hn ⟨h.1, h.2.1⟩) he (hw ▸ Below.refl _ _)
theorem refPut_same (x : Nat) (hx : x < 18446744073709551616) (n : Int) (w : World) : Calls Tryd.prog 13 #[.int .u64 x, .int .i64 n] w (PutSame x n w) := by
  by_cases hn : 1 ≤ n ∧ n ≤ 8
  · obtain ⟨m, rfl⟩ := Int.eq_ofNat_of_zero_le (show 0 ≤ n by omega)
    refine (refPut_any x m w (by omega) (by omega) hx).mono fun e w' h => ?_
    unfold PutRef at h
    by_cases hb : x < 2 ^ (8 * m)
    · rw [if_pos hb] at h
      obtain ⟨v, he, hown, hbel⟩ := h
      exact ⟨v, putL x m, 0, he, hown, hbel, .inl ⟨hn.1, hn.2, by simpa using hb, by simp, rfl⟩⟩
    · rw [if_neg hb] at h
      exact putSame_refused (fun h => hb (by simpa using h.2.2)) h.1 h.2
  · exact (refPut_wide x n w (by omega)).mono fun e w' ⟨he, hw⟩ => putSame_refused (fun h => hn ⟨h.1, h.2.1⟩) he hw

/-- What a call of Get tells, of the program and of the definition. -/
def GetSame (l : List Nat) (len : Nat) (i n : Int) (w : World) (e : Ending) (w' : World) : Prop :=
  ∃ (x : Nat) (er : Int), e = .returned (.tuple #[.int .u64 x, .int .i64 er]) ∧ w = w' ∧
    (((1 ≤ n ∧ n ≤ 8 ∧ 0 ≤ i ∧ i + n ≤ len) ∧ x = getN (cutAt l i.toNat n.toNat) ∧ er = 0) ∨ (¬ (1 ≤ n ∧ n ≤ 8 ∧ 0 ≤ i ∧ i + n ≤ len) ∧ x = 0 ∧ er = 1))
theorem get_same (A : Option Addr) (len c B : Nat) (l : List Nat) (i n : Int) (w : World) (hl : Small l) (hr : Reads w B A len (bts l)) (hlen : len ≤ maxLen) (hi : i ≤ 9223372036854775807) :
    Calls Tryd.prog 14 #[.slice A len c, .int .i64 i, .int .i64 n] w (GetSame l len i n w) := by
  by_cases hn : 1 ≤ n ∧ n ≤ 8
  · by_cases hin : 0 ≤ i ∧ i + n ≤ len
    · obtain ⟨m, rfl⟩ := Int.eq_ofNat_of_zero_le (show 0 ≤ n by omega)
      obtain ⟨j, rfl⟩ := Int.eq_ofNat_of_zero_le hin.1
      exact (get_ok A len c B l j m w (by omega) (by omega) hl hr hlen (by omega)).mono fun e w' ⟨he, hw⟩ => ⟨_, 0, he, hw, .inl ⟨⟨hn.1, hn.2, hin.1, hin.2⟩, by simp, rfl⟩⟩
    · exact (get_out A len c i n w hn.1 hn.2 hlen (by omega)).mono fun e w' ⟨he, hw⟩ => ⟨0, 1, he, hw, .inr ⟨fun h => hin h.2.2, rfl, rfl⟩⟩
  · exact (get_wide A len c i n w (by omega)).mono fun e w' ⟨he, hw⟩ => ⟨0, 1, he, hw, .inr ⟨fun h => hn ⟨h.1, h.2.1⟩, rfl, rfl⟩⟩
theorem refGet_same (A : Option Addr) (len c B : Nat) (l : List Nat) (i n : Int) (w : World) (hl : Small l) (hr : Reads w B A len (bts l)) (hlen : len ≤ maxLen) (hi : i ≤ 9223372036854775807) :
    Calls Tryd.prog 15 #[.slice A len c, .int .i64 i, .int .i64 n] w (GetSame l len i n w) := by
  by_cases hn : 1 ≤ n ∧ n ≤ 8
  · by_cases hin : 0 ≤ i ∧ i + n ≤ len
    · obtain ⟨m, rfl⟩ := Int.eq_ofNat_of_zero_le (show 0 ≤ n by omega)
      obtain ⟨j, rfl⟩ := Int.eq_ofNat_of_zero_le hin.1
      exact (refGet_ok A len c B l j m w (by omega) (by omega) hl hr hlen (by omega)).mono fun e w' ⟨he, hw⟩ => ⟨_, 0, he, hw, .inl ⟨⟨hn.1, hn.2, hin.1, hin.2⟩, by simp, rfl⟩⟩
    · exact (refGet_out A len c i n w hn.1 hn.2 (by omega)).mono fun e w' ⟨he, hw⟩ => ⟨0, 1, he, hw, .inr ⟨fun h => hin h.2.2, rfl, rfl⟩⟩
  · exact (refGet_wide A len c i n w (by omega)).mono fun e w' ⟨he, hw⟩ => ⟨0, 1, he, hw, .inr ⟨fun h => hn ⟨h.1, h.2.1⟩, rfl, rfl⟩⟩

theorem put_uni {x : Nat} {n : Int} {l l' : List Nat} {er er' : Int}
    (h : (1 ≤ n ∧ n ≤ 8 ∧ x < 2 ^ (8 * n.toNat) ∧ l = putL x n.toNat ∧ er = 0) ∨ (¬ (1 ≤ n ∧ n ≤ 8 ∧ x < 2 ^ (8 * n.toNat)) ∧ l = [] ∧ er = 1))
    (k : (1 ≤ n ∧ n ≤ 8 ∧ x < 2 ^ (8 * n.toNat) ∧ l' = putL x n.toNat ∧ er' = 0) ∨ (¬ (1 ≤ n ∧ n ≤ 8 ∧ x < 2 ^ (8 * n.toNat)) ∧ l' = [] ∧ er' = 1)) : l' = l ∧ er' = er := by
  rcases h with ⟨h1, h2, h3, rfl, rfl⟩ | ⟨h0, rfl, rfl⟩
  · rcases k with ⟨_, _, _, rfl, rfl⟩ | ⟨k0, _, _⟩
    · exact ⟨rfl, rfl⟩
    · exact absurd ⟨h1, h2, h3⟩ k0
  · rcases k with ⟨k1, k2, k3, _, _⟩ | ⟨_, rfl, rfl⟩
    · exact absurd ⟨k1, k2, k3⟩ h0
    · exact ⟨rfl, rfl⟩
theorem get_uni {P : Prop} {y x x' : Nat} {er er' : Int} (h : (P ∧ x = y ∧ er = 0) ∨ (¬ P ∧ x = 0 ∧ er = 1)) (k : (P ∧ x' = y ∧ er' = 0) ∨ (¬ P ∧ x' = 0 ∧ er' = 1)) : x' = x ∧ er' = er := by
  rcases h with ⟨h1, rfl, rfl⟩ | ⟨h0, rfl, rfl⟩
  · rcases k with ⟨_, rfl, rfl⟩ | ⟨k0, _, _⟩
    · exact ⟨rfl, rfl⟩
    · exact absurd h1 k0
  · rcases k with ⟨k1, _, _⟩ | ⟨_, rfl, rfl⟩
    · exact absurd k1 h0
    · exact ⟨rfl, rfl⟩

set_option maxHeartbeats 1000000 in
theorem walk {w : World} (x : Nat) (hx : x < 18446744073709551616) (k : Int) (_hk1 : -9223372036854775808 ≤ k) (_hk2 : k ≤ 9223372036854775807) (A : Option Addr) (n c : Nat) (l : List Nat) (hl : Small l) (hr : Reads w w.heap.size A n (bts l)) (hn0 : n ≤ 140737488351232) (i : Int) (_hlo : -9223372036854775808 ≤ i) (hhi : i ≤ 9223372036854775807) (hT : Tabs w) :
    Calls Tryd.prog 3 #[.int .u64 x, .int .i64 k, .slice A n c, .int .i64 i] w fun e w' => e = .returned (.bool true) ∧ Below w.heap.size w w' := by
  have hsz := hT.size
  have hn : n ≤ maxLen := by unfold maxLen; omega
  have hlen := Lib.hid hr.len
  obtain ⟨i0, hi, hz0, hz1, hz2⟩ := info_parts info_u8
  go_enter Tryd.func3, Tryd.ntmps3
  go_wp2_with (at_builtin; refine appendAll _ rfl _ _ 23 rfl w.heap.size 5 i0 (.int .u8 0) 1 Tryd.underlying23 hi hz0 hz1 hz2 rfl (.slice (some ⟨w.heap.size, 0, none⟩) 0 0) 0 [] rfl (by exact World.ownsRow_made w #[] 0 (Nat.le_refl _) (by decide) rfl) w.heap.size A n c (bts l) rfl (hr.alloc (Nat.le_refl _) _) (bts_one l) (by unfold maxLen; omega) (by omega) w (by exact (Below.refl _ _).alloc (Nat.le_refl _) _) (by simp) ?_; intro v2 w2 hown2 _ hbel2)
  rw [Nat.zero_add, List.nil_append] at hown2
  obtain ⟨A2, c2, rfl, hr2, hnc2, _⟩ := own_shape hown2
  have hrA := reads_over hr hbel2
  clear hown2 hr
  refine (put_same x k w2).mono ?_
  rintro e w3 ⟨v3, l3, er3, rfl, hown3, hb3, hd3⟩
  obtain ⟨A3, c3, rfl, hr3, _, _⟩ := own_shape hown3
  have hr2b := reads_over hr2 hb3
  have hrAb := reads_over hrA hb3
  have hbw3 := below_on hbel2 hb3
  clear hown3 hr2 hrA hb3 hbel2
  go_wp2_with fail
  refine (refPut_same x hx k w3).mono ?_
  rintro e w4 ⟨v4, l4, er4, rfl, hown4, hb4, hd4⟩
  obtain ⟨A4, c4, rfl, hr4, _, _⟩ := own_shape hown4
  obtain ⟨rfl, rfl⟩ := put_uni hd3 hd4
  have hr2c := reads_over hr2b hb4
  have hr3c := reads_over hr3 hb4
  have hrAc := reads_over hrAb hb4
  have hbw4 := below_on hbw3 hb4
  clear hown4 hr2b hrAb hr3 hb4 hbw3 hd3 hd4
  go_wp2_with fail
  refine (get_same A2 n c2 _ l i k w4 hl hr2c hn hhi).mono ?_
  rintro e w' ⟨x5, er5, rfl, rfl, hd5⟩
  go_wp2_with fail
  refine (refGet_same A n c _ l i k w4 hl hrAc hn hhi).mono ?_
  rintro e w' ⟨x6, er6, rfl, rfl, hd6⟩
  obtain ⟨rfl, rfl⟩ := get_uni hd5 hd6
  clear hd5 hd6
  go_wp2_with fail
  refine (lives_yes w4 (hT.below hsz hbw4)).mono ?_
  rintro e w5 ⟨rfl, hb5⟩
  have s2 := run_str c2 (reads_over hr2c hb5)
  have s3 := run_str c3 (reads_over hr3c hb5)
  have s4 := run_str c4 (reads_over hr4 hb5)
  have sA := run_str c (reads_over hrAc hb5)
  have hbw5 := below_on hbw4 hb5
  clear hr2c hr3c hr4 hrAc hb5 hbw4
  go_wp2_with fail
  go_ret
  exact ⟨rfl, hbw5⟩

set_option maxRecDepth 100000 in
/-- WHAT THE WALK GIVES, FOR EVERY ARGUMENT AND EVERY WORLD THAT HOLDS THE TABLES. -/
theorem contract (H : Type) (enc : TypeId × Value → H) (W : World) (base : Nat) (args : Array Value) (ds gs : List (DataW H)) (before : List MemPlace)
    (hval : ∀ (j : Nat) t v, Tryd.f3.params[j]? = some t → args[j]? = some v → Value.okWide Tryd.prog W .any base t v)
    (hW : DataW.Whole enc Tryd.prog Tryd.f3.params.toList Rows.octetsNumbersSpec.vars false W args.toList ds gs before)
    (hsz : (DataW.weightsEach Tryd.prog (Tryd.f3.params.toList ++ (OpenSpec.ofChange Rows.octetsNumbersSpec).bare.plain.varTypes Tryd.prog) (ds ++ gs)).all (· ≤ reachBytes) = true) (hL : laidMetH Tryd.prog laidBoth W) :
    Calls Tryd.prog 3 args W fun e W' => ∃ v, e = .returned v ∧ Rows.octetsNumbersSpec.post enc Tryd.prog Tryd.f3 false true false false W args v W' := by
  have hW' := hW
  obtain ⟨p, q, hA0, hV, rfl, hfz, hnd⟩ := hW
  have hA : DataW.TrodAll enc Tryd.prog W 0 (fun _ => true) true Tryd.f3.params.toList args.toList ds p := hA0
  have hsz2 : (DataW.weightsEach Tryd.prog (Tryd.f3.params.toList ++ []) (ds ++ gs)).all (· ≤ reachBytes) = true := hsz
  rw [Tryd.params3] at hA hval hsz2
  obtain ⟨v0, vs0, d0, ds0, p0, q0, hargs, rfl, rfl, h0, r0⟩ := trodAll_cons hA
  obtain ⟨v1, vs1, d1, ds1, p1, q1, rfl, rfl, rfl, h1, r1⟩ := trodAll_cons r0
  obtain ⟨v2, vs2, d2, ds2, p2, q2, rfl, rfl, rfl, h2, r2⟩ := trodAll_cons r1
  obtain ⟨v3, vs3, d3, ds3, p3, q3, rfl, rfl, rfl, h3, r3⟩ := trodAll_cons r2
  obtain ⟨rfl, rfl, rfl⟩ := trodAll_nil r3
  obtain rfl : args = #[v0, v1, v2, v3] := by cases args; simp_all
  obtain ⟨rfl, rfl⟩ := trodVars_none hV
  obtain ⟨a0, rfl, rfl, rfl, w0⟩ := open_int Tryd.underlying22 (hval 0 22 v0 rfl rfl) h0
  have bd0 := bounds_u64 w0
  obtain ⟨m0, hm0⟩ : ∃ m : Nat, a0 = (m : Int) := ⟨a0.toNat, by omega⟩
  obtain ⟨a1, rfl, rfl, rfl, w1⟩ := open_int Tryd.underlying3 (hval 1 3 v1 rfl rfl) h1
  have bd1 := bounds_i64 w1
  obtain ⟨A2, n2, c2, rfl⟩ := okWide_slice Tryd.underlying23 (hval 2 23 v2 rfl rfl)
  have k2 := h2
  have lt2 : ∀ x ∈ p2, x.block < W.heap.size := by obtain ⟨m, hm⟩ := k2; exact DataW.trod_lt m _ _ _ hm
  obtain ⟨l2, sl2, rd2, nc2, _, dd2⟩ : ∃ l, Small l ∧ Reads W W.heap.size A2 n2 (bts l) ∧ n2 ≤ c2 ∧ c2 ≤ maxLen ∧ ((d2 = .nil ∧ c2 = 0) ∨ ∃ es sp, d2 = .slice es sp ∧ es.length + sp.length = c2) := by obtain ⟨fuel, hf⟩ := h2; exact bytes_in (by simpa [Value.cells] using hf)
  have b2 : n2 ≤ 140737488351232 := by
    rcases dd2 with ⟨_, hc0⟩ | ⟨es, sp, hd, hc0⟩
    · omega
    · have := sized_slice (P := Tryd.prog) hsz2 (j := 2) (t := 23) (e := 5) rfl (by rw [hd]; rfl) Tryd.underlying23
      rw [bytesU8] at this; simp only [reachBytes] at this; omega
  obtain ⟨a3, rfl, rfl, rfl, w3⟩ := open_int Tryd.underlying3 (hval 3 3 v3 rfl rfl) h3
  have bd3 := bounds_i64 w3
  have hT := tabs_of_laid hL
  subst hm0
  refine (walk m0 (by omega) a1 bd1.1 bd1.2 A2 n2 c2 l2 sl2 rd2 b2 a3 bd3.1 bd3.2 hT).mono fun e W' ⟨he, bel⟩ => ?_
  subst he
  exact ⟨_, rfl, _, _, _, [], _, [], hW', trodAll_mk1 (shut_bool Tryd.underlying4 _), (trodAll_cons_mk (shut_int Tryd.underlying22 w0) (trodAll_cons_mk (shut_int Tryd.underlying3 w1) (trodAll_cons_mk (Below.trod laidOut (by kernel_rfl) (of_decide_eq_true (by kernel_rfl)) k2 bel lt2) (trodAll_cons_mk (shut_int Tryd.underlying3 w3) trodAll_mk0)))), rfl, bel.frame _, fun h => by cases h⟩

theorem laid_met (os : Os) : laidMetH Tryd.prog laidBoth ((laidWorld os).forCall (fun _ _ => 0) ⟨#[], #[.int .u64 0, .int .i64 0, .slice none 0 0, .int .i64 0], []⟩).memory :=
  laidMetH_of_parts3 (fuel := 8) (laidMet_of_run' 8 (by kernel_rfl) (by kernel_rfl)) (by kernel_rfl) (by kernel_rfl)
theorem reads (os : Os) {H : Type} (enc : TypeId × Value → H) : ∃ places, DataW.whole enc Tryd.prog ((laidWorld os).forCall (fun _ _ => 0) ⟨#[], #[.int .u64 0, .int .i64 0, .slice none 0 0, .int .i64 0], []⟩).memory Tryd.f3.params.toList Rows.octetsNumbersSpec.vars false (#[.int .u64 0, .int .i64 0, .slice none 0 0, .int .i64 0] : Array Value).toList 8 = some ([.lit (.int .u64 0), .lit (.int .i64 0), .nil, .lit (.int .i64 0)], [], places) :=
  ⟨[], by kernel_rfl⟩
set_option maxRecDepth 100000 in
theorem lifted (os : Os) (started : os.Started) (H : Type) (enc : TypeId × Value → H) (F : Stop.Interp) :
    ReturnsInHanded {} Tryd.checked os 3 .any ((OpenSpec.ofChange Rows.octetsNumbersSpec).preRow enc Tryd.prog Tryd.f3 Rows.octetsNumbersRow.domain false Rows.octetsNumbersRow.laid) (((OpenSpec.ofChange Rows.octetsNumbersSpec).at F).post enc Tryd.prog Tryd.f3 false true false false) := by
  obtain ⟨places, hx⟩ := reads os enc
  refine returnsInHanded_of_row (C := Tryd.checked) (s := (OpenSpec.ofChange Rows.octetsNumbersSpec)) own started (by kernel_rfl) Tryd.func3
    (witness_row_at (enc := enc) (C := Tryd.checked) false (laidWorld os) #[.int .u64 0, .int .i64 0, .slice none 0 0, .int .i64 0] rfl (by kernel_rfl) (by kernel_rfl) (by kernel_rfl)
      (OpenSpec.preRow_of_cond 8 hx (by kernel_rfl) (fun k hk => by cases hk) (by kernel_rfl) (laid_met os))) ?_
  intro W base args ds gs before hval hW _ hcond hsz hL _ _
  exact contract H enc W base args ds gs before hval hW hsz hL
theorem said : Rows.OctetsNumbersSaid :=
  OpenClaim.holds_of_cond 3 Tryd.f3 rfl rfl rfl rfl rfl rfl rfl ⟨rfl, rfl, rfl, rfl, rfl⟩ rfl rfl rfl rfl rfl (by kernel_rfl) Tryd.func3 (by kernel_rfl)
    (of_decide_eq_true (by kernel_rfl)) (by unfold Func.isWrapper; first | (rw [if_pos (by decide +kernel)]; kernel_rfl) | (rw [if_neg (by decide +kernel)]; exact ⟨rfl, rfl⟩))
    (fun os started H enc _ F => by rw [OpenClaim.pre_eq_preRow]; exact lifted os started H enc F)
theorem plain (f : FuncId) (fn : Func) (hf : Tryd.pinned.checked.prog.funcNamed "ashlar/ashlarlaw01.OctetsNumbers" = some f) (hfn : Tryd.pinned.checked.prog.funcs[f]? = some fn) :
    false = Tryd.pinned.checked.prog.looks [] ∧ ∀ (j : Nat) t, fn.params[j]? = some t → Tryd.pinned.checked.prog.wantsStandIn t = false := by
  obtain rfl : f = 3 := Option.some.inj ((show Tryd.prog.funcNamed "ashlar/ashlarlaw01.OctetsNumbers" = some 3 by kernel_rfl).symm.trans hf) |>.symm
  obtain rfl : fn = Tryd.f3 := (Option.some.inj (Tryd.func3.symm.trans hfn)).symm
  refine ⟨by kernel_rfl, fun j t ht => ?_⟩
  rw [Tryd.params3] at ht
  have hm : t ∈ [22, 3, 23, 3] := by simpa using Array.mem_of_getElem? ht
  have hall : ([22, 3, 23, 3].all fun u => !Tryd.prog.wantsStandIn u) = true := by kernel_rfl
  exact (show Tryd.prog.wantsStandIn t = false by simpa using List.all_eq_true.1 hall t hm)

/-- ████ THE CARD ████ -/
theorem card : Rows.OctetsNumbersCardSaid :=
  Claim7.holds_tied_plain_at .later [] _ _ _ _ said (fun _ h => by cases h) (by kernel_rfl) (fun _ h => by cases h) octetsNumbers_row_tie rfl ⟨rfl, rfl⟩ (by kernel_rfl) rfl plain (by kernel_rfl)
end Go.Proofs.YtbagmmngepkaeaaDoor.octetsNumbers
