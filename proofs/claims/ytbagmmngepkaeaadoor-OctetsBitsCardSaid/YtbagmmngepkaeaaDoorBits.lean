/-
  OctetsBits is true for every slice of bytes and all bounds: bits are told, set, looked for and counted as the definition says; what is handed in stays.
  Conditions: none of its own; the two tables of the sum hold what the program's text lays (the card ties that).
-/
import Derived.Test.YtbagmmngepkaeaaDoorFrame
import Derived.Test.YtbagmmngepkaeaaDoorRefMore
namespace Go.Proofs.YtbagmmngepkaeaaDoor.octetsBits
open Go.ChangeShapes Go.WideShapes Go.ChangeAt Go.RowKit

/-- What both With leave. -/
def WithSame (l : List Nat) (n : Nat) (i : Int) (on : Bool) (w : World) (e : Ending) (w' : World) : Prop :=
  ∃ v lw er, e = .returned (.tuple #[v, .int .i64 er]) ∧ w'.ownsRow w.heap.size 5 1 v lw.length (bts lw) ∧ Below w.heap.size w w' ∧
    (((0 ≤ i ∧ i < 8 * (n : Int)) ∧ lw = withL l i.toNat on ∧ er = 0) ∨ (¬ (0 ≤ i ∧ i < 8 * (n : Int)) ∧ lw = [] ∧ er = 1))
theorem with_uni {P : Prop} {y x x' : List Nat} {er er' : Int} (h : (P ∧ x = y ∧ er = 0) ∨ (¬ P ∧ x = [] ∧ er = 1)) (k : (P ∧ x' = y ∧ er' = 0) ∨ (¬ P ∧ x' = [] ∧ er' = 1)) : x' = x ∧ er' = er := by
  rcases h with ⟨h1, rfl, rfl⟩ | ⟨h0, rfl, rfl⟩
  · rcases k with ⟨_, rfl, rfl⟩ | ⟨k0, _, _⟩
    · exact ⟨rfl, rfl⟩
    · exact absurd h1 k0
  · rcases k with ⟨k1, _, _⟩ | ⟨_, rfl, rfl⟩
    · exact absurd k1 h0
    · exact ⟨rfl, rfl⟩
theorem with_same (A : Option Addr) (n c B : Nat) (i : Int) (on : Bool) (l : List Nat) (w : World) (hl : Small l) (hr : Reads w B A n (bts l)) (hB : B ≤ w.heap.size) (hn : n ≤ 65536) (hhi : i ≤ 9223372036854775807) :
    Calls Tryd.prog 21 #[.slice A n c, .int .i64 i, .bool on] w (WithSame l n i on w) := by
  by_cases h : 0 ≤ i ∧ i < 8 * (n : Int)
  · obtain ⟨j, rfl⟩ := Int.eq_ofNat_of_zero_le h.1
    exact (with_ok A n c B j on l w hl hr hB (by omega) (by omega)).mono fun e w' ⟨v, he, hown, hbel⟩ => ⟨v, withL l j on, 0, he, hown, hbel, .inl ⟨h, by simp, rfl⟩⟩
  · exact (with_no A n c i on w (by omega)).mono fun e w' ⟨he, hw⟩ => ⟨.slice none 0 0, [], 1, he, World.ownsRow_nil _ _ _ _, hw ▸ Below.refl _ _, .inr ⟨h, rfl, rfl⟩⟩
theorem refWith_same (A : Option Addr) (n c B : Nat) (i : Int) (on : Bool) (l : List Nat) (w : World) (hl : Small l) (hr : Reads w B A n (bts l)) (hB : B ≤ w.heap.size) (hn : n ≤ 65536) :
    Calls Tryd.prog 22 #[.slice A n c, .int .i64 i, .bool on] w (WithSame l n i on w) := by
  by_cases h : 0 ≤ i ∧ i < 8 * (n : Int)
  · obtain ⟨j, rfl⟩ := Int.eq_ofNat_of_zero_le h.1
    exact (refWith_ok A n c B j on l w hl hr hB hn (by omega)).mono fun e w' ⟨v, he, hown, hbel⟩ => ⟨v, withL l j on, 0, he, hown, hbel, .inl ⟨h, by simp, rfl⟩⟩
  · exact (refWith_no A n c B i on l w hl hr hB hn (by omega)).mono fun e w' ⟨he, hw⟩ => ⟨.slice none 0 0, [], 1, he, World.ownsRow_nil _ _ _ _, hw, .inr ⟨h, rfl, rfl⟩⟩

/-- Is the bit set? None is, where there is none. -/
def hasB (l : List Nat) (n : Nat) (i : Int) : Bool := if 0 ≤ i ∧ i < 8 * (n : Int) then bitB l i.toNat else false
theorem has_all (A : Option Addr) (n c B : Nat) (i : Int) (l : List Nat) (w : World) (hl : Small l) (hr : Reads w B A n (bts l)) (hn : n ≤ 65536) (hhi : i ≤ 9223372036854775807) :
    Calls Tryd.prog 25 #[.slice A n c, .int .i64 i] w fun e w' => e = .returned (.bool (hasB l n i)) ∧ w = w' := by
  unfold hasB
  by_cases h : 0 ≤ i ∧ i < 8 * (n : Int)
  · rw [if_pos h]; exact has_int A n c B i l w hl hr (by omega) h.1 h.2
  · rw [if_neg h]; exact has_out A n c i w (by omega)
theorem refHas_all (A : Option Addr) (n c B : Nat) (i : Int) (l : List Nat) (w : World) (hl : Small l) (hr : Reads w B A n (bts l)) (hB : B ≤ w.heap.size) (hn : n ≤ 65536) :
    Calls Tryd.prog 26 #[.slice A n c, .int .i64 i] w (RefBool (hasB l n i) w) := by
  unfold hasB
  by_cases h : 0 ≤ i ∧ i < 8 * (n : Int)
  · rw [if_pos h]
    obtain ⟨j, rfl⟩ := Int.eq_ofNat_of_zero_le h.1
    exact refHas_in A n c B j l w hl hr hB hn (by omega)
  · rw [if_neg h]; exact refHas_out A n c B i l w hl hr hB hn (by omega)
theorem count_all (A : Option Addr) (n c B : Nat) (l : List Nat) (stop : Int) (w : World) (hl : Small l) (hr : Reads w B A n (bts l)) (hn : n ≤ 65536) (hlo : -9223372036854775808 ≤ stop) :
    Calls Tryd.prog 27 #[.slice A n c, .int .i64 stop] w fun e w' => e = .returned (.int .i64 (cnt l (min stop (8 * (n : Int))).toNat)) ∧ w = w' := by
  by_cases h : stop < 0
  · have e : (min stop (8 * (n : Int))).toNat = 0 := by omega
    rw [e, cnt_zero]
    exact count_neg A n c stop w (by omega) h hlo
  · exact count_any A n c B _ l stop w hl hr (by omega) (by omega)

set_option maxHeartbeats 400000 in
theorem walk_long {w : World} (A : Option Addr) (n c : Nat) (i : Int) (on : Bool) (start stop : Int) (hT : Tabs w) (h : 65536 < n) :
    Calls Tryd.prog 10 #[.slice A n c, .int .i64 i, .bool on, .int .i64 start, .int .i64 stop] w fun e w' => e = .returned (.bool true) ∧ Below w.heap.size w w' := by
  go_enter Tryd.func10, Tryd.ntmps10
  go_wp2_with fail
  refine (lives_yes w hT).mono ?_
  rintro e w1 ⟨rfl, hb⟩
  go_wp2_with fail
  go_ret
  exact ⟨rfl, hb⟩

set_option maxHeartbeats 3200000 in
theorem walk_in {w : World} (A : Option Addr) (n c : Nat) (l : List Nat) (hl : Small l) (hr : Reads w w.heap.size A n (bts l)) (hn : n ≤ 65536) (i : Int) (hi2 : i ≤ 9223372036854775807) (on : Bool)
    (start : Int) (hlo : -9223372036854775808 ≤ start) (hhi : start ≤ 9223372036854775807) (stop : Int) (hlo2 : -9223372036854775808 ≤ stop) (hhi2 : stop ≤ 9223372036854775807) (hT : Tabs w) :
    Calls Tryd.prog 10 #[.slice A n c, .int .i64 i, .bool on, .int .i64 start, .int .i64 stop] w fun e w' => e = .returned (.bool true) ∧ Below w.heap.size w w' := by
  have hsz := hT.size
  obtain ⟨i0, hi, hz0, hz1, hz2⟩ := info_parts info_u8
  obtain ⟨F, hF⟩ : ∃ F : Nat, max start 0 / 8 = (F : Int) := ⟨(max start 0 / 8).toNat, by omega⟩
  have HF := Lib.hid hF
  clear hF
  have hm : Hid (∀ j : Nat, j < (min stop (8 * (n : Int))).toNat ↔ (j < 8 * n ∧ (j : Int) < stop)) := Lib.hid fun j => by omega
  have ht : ¬ (65536 : Int) < (n : Int) := by omega
  go_enter Tryd.func10, Tryd.ntmps10
  go_wp2_with (at_builtin; refine appendAll _ rfl (.tmp 24) (.tmp 25) 23 rfl w.heap.size 5 i0 (.int .u8 0) 1 Tryd.underlying23 hi hz0 hz1 hz2 rfl (.slice (some ⟨w.heap.size, 0, none⟩) 0 0) 0 [] rfl (by exact World.ownsRow_made w #[] 0 (Nat.le_refl _) (by decide) rfl) w.heap.size A n c (bts l) rfl (hr.alloc (Nat.le_refl _) _) (bts_one l) (by unfold maxLen; omega) (by omega) w (by exact (Below.refl _ _).alloc (Nat.le_refl _) _) (by simp) ?_; intro v2 w2 hown2 hgr2 hbel2)
  rw [Nat.zero_add, List.nil_append] at hown2
  obtain ⟨A2, c2, rfl, rx2, _, _⟩ := own_shape hown2
  have ra2 := reads_over hr hbel2
  clear hown2 hgr2 hr
  refine (with_same A2 n c2 _ i on l w2 hl rx2 (Nat.le_refl _) hn hi2).mono ?_
  rintro e w3 ⟨v3, l3, er3, rfl, hown3, hb3, hd3⟩
  obtain ⟨A3, c3, rfl, r3, _, _⟩ := own_shape hown3
  have rx3 := reads_over rx2 hb3
  have ra3 := reads_over ra2 hb3
  have bw3 := below_on hbel2 hb3
  clear hown3 rx2 ra2 hb3 hbel2
  go_wp2_with fail
  refine (refWith_same A n c _ i on l w3 hl ra3 (Nat.le_refl _) hn).mono ?_
  rintro e w4 ⟨v4, l4, er4, rfl, hown4, hb4, hd4⟩
  obtain ⟨A4, c4, rfl, r4, _, _⟩ := own_shape hown4
  obtain ⟨rfl, rfl⟩ := with_uni hd3 hd4
  have rx4 := reads_over rx3 hb4
  have ra4 := reads_over ra3 hb4
  have r34 := reads_over r3 hb4
  have bw4 := below_on bw3 hb4
  clear hown4 rx3 ra3 r3 hb4 bw3 hd3 hd4
  go_wp2_with fail
  refine (free_any A2 n c2 _ F l start stop w4 hl rx4 (by omega) HF.out hlo hhi hlo2 hhi2).mono ?_
  rintro e w' ⟨r, hf1, rfl, rfl⟩
  go_wp2_with fail
  refine (refFree_any A n c _ l start stop w4 hl ra4 (Nat.le_refl _) hn).mono ?_
  rintro e w5 ⟨r', hf2, rfl, hb5⟩
  obtain rfl := hf1.unique hf2
  have rx5 := reads_over rx4 hb5
  have ra5 := reads_over ra4 hb5
  have r35 := reads_over r34 hb5
  have r45 := reads_over r4 hb5
  have bw5 := below_on bw4 hb5
  clear rx4 ra4 r34 r4 hb5 bw4 hf1 hf2
  generalize (r.getD 0 : Nat) = q1 at *
  generalize r.isSome = q2 at *
  go_wp2_with fail
  refine (lives_yes w5 (hT.below hsz bw5)).mono ?_
  rintro e w6 ⟨rfl, hb6⟩
  have rx6 := reads_over rx5 hb6
  have ra6 := reads_over ra5 hb6
  have r36 := reads_over r35 hb6
  have r46 := reads_over r45 hb6
  have bw6 := below_on bw5 hb6
  clear rx5 ra5 r35 r45 hb6 bw5
  go_wp2_with fail
  refine (has_all A2 n c2 _ i l w6 hl rx6 hn hi2).mono ?_
  rintro e w' ⟨rfl, rfl⟩
  go_wp2_with fail
  refine (refHas_all A n c _ i l w6 hl ra6 (Nat.le_refl _) hn).mono ?_
  rintro e w7 ⟨rfl, hb7⟩
  have rx7 := reads_over rx6 hb7
  have ra7 := reads_over ra6 hb7
  have s3 := run_str c3 (reads_over r36 hb7)
  have s4 := run_str c4 (reads_over r46 hb7)
  have bw7 := below_on bw6 hb7
  clear rx6 ra6 r36 r46 hb7 bw6
  generalize hasB l n i = hb at *
  go_wp2_with fail
  refine (count_all A2 n c2 _ l stop w7 hl rx7 hn hlo2).mono ?_
  rintro e w' ⟨rfl, rfl⟩
  go_wp2_with fail
  refine (refCount_any A n c _ _ l stop w7 hl ra7 (Nat.le_refl _) hn hm.out).mono ?_
  rintro e w8 ⟨rfl, hb8⟩
  have sx := run_str c2 (reads_over rx7 hb8)
  have sa := run_str c (reads_over ra7 hb8)
  have bw8 := below_on bw7 hb8
  clear rx7 ra7 hb8 bw7 s3 s4
  go_wp2_with fail
  go_ret
  exact ⟨rfl, bw8⟩

theorem walk {w : World} (A : Option Addr) (n c : Nat) (l : List Nat) (hl : Small l) (hr : Reads w w.heap.size A n (bts l)) (_hn : n ≤ 140737488351232) (i : Int) (_hi1 : -9223372036854775808 ≤ i) (hi2 : i ≤ 9223372036854775807) (on : Bool)
    (start : Int) (hlo : -9223372036854775808 ≤ start) (hhi : start ≤ 9223372036854775807) (stop : Int) (hlo2 : -9223372036854775808 ≤ stop) (hhi2 : stop ≤ 9223372036854775807) (hT : Tabs w) :
    Calls Tryd.prog 10 #[.slice A n c, .int .i64 i, .bool on, .int .i64 start, .int .i64 stop] w fun e w' => e = .returned (.bool true) ∧ Below w.heap.size w w' := by
  by_cases h : 65536 < n
  · exact walk_long A n c i on start stop hT h
  · exact walk_in A n c l hl hr (by omega) i hi2 on start hlo hhi stop hlo2 hhi2 hT

set_option maxRecDepth 100000 in
/-- WHAT THE WALK GIVES, FOR EVERY ARGUMENT AND EVERY WORLD THAT HOLDS THE TABLES. -/
theorem contract (H : Type) (enc : TypeId × Value → H) (W : World) (base : Nat) (args : Array Value) (ds gs : List (DataW H)) (before : List MemPlace)
    (hval : ∀ (j : Nat) t v, Tryd.f10.params[j]? = some t → args[j]? = some v → Value.okWide Tryd.prog W .any base t v)
    (hW : DataW.Whole enc Tryd.prog Tryd.f10.params.toList Rows.octetsBitsSpec.vars false W args.toList ds gs before)
    (hsz : (DataW.weightsEach Tryd.prog (Tryd.f10.params.toList ++ (OpenSpec.ofChange Rows.octetsBitsSpec).bare.plain.varTypes Tryd.prog) (ds ++ gs)).all (· ≤ reachBytes) = true) (hL : laidMetH Tryd.prog laidBoth W) :
    Calls Tryd.prog 10 args W fun e W' => ∃ v, e = .returned v ∧ Rows.octetsBitsSpec.post enc Tryd.prog Tryd.f10 false true false false W args v W' := by
  have hW' := hW
  obtain ⟨p, q, hA0, hV, rfl, hfz, hnd⟩ := hW
  have hA : DataW.TrodAll enc Tryd.prog W 0 (fun _ => true) true Tryd.f10.params.toList args.toList ds p := hA0
  have hsz2 : (DataW.weightsEach Tryd.prog (Tryd.f10.params.toList ++ []) (ds ++ gs)).all (· ≤ reachBytes) = true := hsz
  rw [Tryd.params10] at hA hval hsz2
  obtain ⟨v0, vs0, d0, ds0, p0, q0, hargs, rfl, rfl, h0, r0⟩ := trodAll_cons hA
  obtain ⟨v1, vs1, d1, ds1, p1, q1, rfl, rfl, rfl, h1, r1⟩ := trodAll_cons r0
  obtain ⟨v2, vs2, d2, ds2, p2, q2, rfl, rfl, rfl, h2, r2⟩ := trodAll_cons r1
  obtain ⟨v3, vs3, d3, ds3, p3, q3, rfl, rfl, rfl, h3, r3⟩ := trodAll_cons r2
  obtain ⟨v4, vs4, d4, ds4, p4, q4, rfl, rfl, rfl, h4, r4⟩ := trodAll_cons r3
  obtain ⟨rfl, rfl, rfl⟩ := trodAll_nil r4
  obtain rfl : args = #[v0, v1, v2, v3, v4] := by cases args; simp_all
  obtain ⟨rfl, rfl⟩ := trodVars_none hV
  obtain ⟨A0, n0, c0, rfl⟩ := okWide_slice Tryd.underlying23 (hval 0 23 v0 rfl rfl)
  have k0 := h0
  have lt0 : ∀ x ∈ p0, x.block < W.heap.size := by obtain ⟨m, hm⟩ := k0; exact DataW.trod_lt m _ _ _ hm
  obtain ⟨l0, sl0, rd0, nc0, _, dd0⟩ : ∃ l, Small l ∧ Reads W W.heap.size A0 n0 (bts l) ∧ n0 ≤ c0 ∧ c0 ≤ maxLen ∧ ((d0 = .nil ∧ c0 = 0) ∨ ∃ es sp, d0 = .slice es sp ∧ es.length + sp.length = c0) := by obtain ⟨fuel, hf⟩ := h0; exact bytes_in (by simpa [Value.cells] using hf)
  have b0 : n0 ≤ 140737488351232 := by
    rcases dd0 with ⟨_, hc0⟩ | ⟨es, sp, hd, hc0⟩
    · omega
    · have := sized_slice (P := Tryd.prog) hsz2 (j := 0) (t := 23) (e := 5) rfl (by rw [hd]; rfl) Tryd.underlying23
      rw [bytesU8] at this; simp only [reachBytes] at this; omega
  obtain ⟨a1, rfl, rfl, rfl, w1⟩ := open_int Tryd.underlying3 (hval 1 3 v1 rfl rfl) h1
  have bd1 := bounds_i64 w1
  obtain ⟨a2, rfl, rfl, rfl⟩ := open_bool Tryd.underlying4 (hval 2 4 v2 rfl rfl) h2
  obtain ⟨a3, rfl, rfl, rfl, w3⟩ := open_int Tryd.underlying3 (hval 3 3 v3 rfl rfl) h3
  have bd3 := bounds_i64 w3
  obtain ⟨a4, rfl, rfl, rfl, w4⟩ := open_int Tryd.underlying3 (hval 4 3 v4 rfl rfl) h4
  have bd4 := bounds_i64 w4
  have hT := tabs_of_laid hL
  refine (walk A0 n0 c0 l0 sl0 rd0 b0 a1 bd1.1 bd1.2 a2 a3 bd3.1 bd3.2 a4 bd4.1 bd4.2 hT).mono fun e W' ⟨he, bel⟩ => ?_
  subst he
  exact ⟨_, rfl, _, _, _, [], _, [], hW', trodAll_mk1 (shut_bool Tryd.underlying4 _), (trodAll_cons_mk (Below.trod laidOut (by kernel_rfl) (of_decide_eq_true (by kernel_rfl)) k0 bel lt0) (trodAll_cons_mk (shut_int Tryd.underlying3 w1) (trodAll_cons_mk (shut_bool Tryd.underlying4 _) (trodAll_cons_mk (shut_int Tryd.underlying3 w3) (trodAll_cons_mk (shut_int Tryd.underlying3 w4) trodAll_mk0))))), rfl, bel.frame _, fun h => by cases h⟩

theorem laid_met (os : Os) : laidMetH Tryd.prog laidBoth ((laidWorld os).forCall (fun _ _ => 0) ⟨#[], #[.slice none 0 0, .int .i64 0, .bool false, .int .i64 0, .int .i64 0], []⟩).memory :=
  laidMetH_of_parts3 (fuel := 8) (laidMet_of_run' 8 (by kernel_rfl) (by kernel_rfl)) (by kernel_rfl) (by kernel_rfl)
theorem reads (os : Os) {H : Type} (enc : TypeId × Value → H) : ∃ places, DataW.whole enc Tryd.prog ((laidWorld os).forCall (fun _ _ => 0) ⟨#[], #[.slice none 0 0, .int .i64 0, .bool false, .int .i64 0, .int .i64 0], []⟩).memory Tryd.f10.params.toList Rows.octetsBitsSpec.vars false (#[.slice none 0 0, .int .i64 0, .bool false, .int .i64 0, .int .i64 0] : Array Value).toList 8 = some ([.nil, .lit (.int .i64 0), .lit (.bool false), .lit (.int .i64 0), .lit (.int .i64 0)], [], places) :=
  ⟨[], by kernel_rfl⟩
set_option maxRecDepth 100000 in
theorem lifted (os : Os) (started : os.Started) (H : Type) (enc : TypeId × Value → H) (F : Stop.Interp) :
    ReturnsInHanded {} Tryd.checked os 10 .any ((OpenSpec.ofChange Rows.octetsBitsSpec).preRow enc Tryd.prog Tryd.f10 Rows.octetsBitsRow.domain false Rows.octetsBitsRow.laid) (((OpenSpec.ofChange Rows.octetsBitsSpec).at F).post enc Tryd.prog Tryd.f10 false true false false) := by
  obtain ⟨places, hx⟩ := reads os enc
  refine returnsInHanded_of_row (C := Tryd.checked) (s := (OpenSpec.ofChange Rows.octetsBitsSpec)) own started (by kernel_rfl) Tryd.func10
    (witness_row_at (enc := enc) (C := Tryd.checked) false (laidWorld os) #[.slice none 0 0, .int .i64 0, .bool false, .int .i64 0, .int .i64 0] rfl (by kernel_rfl) (by kernel_rfl) (by kernel_rfl)
      (OpenSpec.preRow_of_cond 8 hx (by kernel_rfl) (fun k hk => by cases hk) (by kernel_rfl) (laid_met os))) ?_
  intro W base args ds gs before hval hW _ hcond hsz hL _ _
  exact contract H enc W base args ds gs before hval hW hsz hL
theorem said : Rows.OctetsBitsSaid :=
  OpenClaim.holds_of_cond 10 Tryd.f10 rfl rfl rfl rfl rfl rfl rfl ⟨rfl, rfl, rfl, rfl, rfl⟩ rfl rfl rfl rfl rfl (by kernel_rfl) Tryd.func10 (by kernel_rfl)
    (of_decide_eq_true (by kernel_rfl)) (by unfold Func.isWrapper; first | (rw [if_pos (by decide +kernel)]; kernel_rfl) | (rw [if_neg (by decide +kernel)]; exact ⟨rfl, rfl⟩))
    (fun os started H enc _ F => by rw [OpenClaim.pre_eq_preRow]; exact lifted os started H enc F)
theorem plain (f : FuncId) (fn : Func) (hf : Tryd.pinned.checked.prog.funcNamed "ashlar/ashlarlaw01.OctetsBits" = some f) (hfn : Tryd.pinned.checked.prog.funcs[f]? = some fn) :
    false = Tryd.pinned.checked.prog.looks [] ∧ ∀ (j : Nat) t, fn.params[j]? = some t → Tryd.pinned.checked.prog.wantsStandIn t = false := by
  obtain rfl : f = 10 := Option.some.inj ((show Tryd.prog.funcNamed "ashlar/ashlarlaw01.OctetsBits" = some 10 by kernel_rfl).symm.trans hf) |>.symm
  obtain rfl : fn = Tryd.f10 := (Option.some.inj (Tryd.func10.symm.trans hfn)).symm
  refine ⟨by kernel_rfl, fun j t ht => ?_⟩
  rw [Tryd.params10] at ht
  have hm : t ∈ [23, 3, 4, 3, 3] := by simpa using Array.mem_of_getElem? ht
  have hall : ([23, 3, 4, 3, 3].all fun u => !Tryd.prog.wantsStandIn u) = true := by kernel_rfl
  exact (show Tryd.prog.wantsStandIn t = false by simpa using List.all_eq_true.1 hall t hm)

/-- ████ THE CARD ████ -/
theorem card : Rows.OctetsBitsCardSaid :=
  Claim7.holds_tied_plain_at .later [] _ _ _ _ said (fun _ h => by cases h) (by kernel_rfl) (fun _ h => by cases h) octetsBits_row_tie rfl ⟨rfl, rfl⟩ (by kernel_rfl) rfl plain (by kernel_rfl)
end Go.Proofs.YtbagmmngepkaeaaDoor.octetsBits
