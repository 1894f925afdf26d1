/-
  OctetsTaken is true for every slice of bytes and all bounds: the first free bit is free and all between are set; when it is set there is one more, and it comes no more.
  Conditions: none of its own; the two tables of the sum hold what the program's text lays (the card ties that).
-/
import Derived.Test.YtbagmmngepkaeaaDoorFrame
namespace Go.Proofs.YtbagmmngepkaeaaDoor.octetsTaken
open Go.ChangeShapes Go.WideShapes Go.ChangeAt Go.RowKit

theorem bit_test (l : List Nat) (i : Nat) : bitB l i = (l.getD (i / 8) 0).testBit (i % 8) := by
  unfold bitB
  rw [Nat.testBit_eq_decide_div_mod_eq]
  generalize l.getD (i / 8) 0 / 2 ^ (i % 8) % 2 = y
  rw [Bool.eq_iff_iff, beq_iff_eq, decide_eq_true_iff]
theorem with_get (l : List Nat) (i k : Nat) (h : i / 8 < l.length) : (withL l i true).getD k 0 = if k = i / 8 then l.getD (i / 8) 0 ||| 2 ^ (i % 8) else l.getD k 0 := by
  unfold withL
  simp only [if_true, List.getD]
  rw [List.getElem?_set]
  by_cases hk : i / 8 = k
  · subst hk; simp [h]
  · rw [if_neg hk, if_neg (fun e => hk e.symm)]
theorem with_bit (l : List Nat) (i j : Nat) (h : i / 8 < l.length) : bitB (withL l i true) j = if j = i then true else bitB l j := by
  rw [bit_test, bit_test, with_get l i _ h]
  by_cases hk : j / 8 = i / 8
  · rw [if_pos hk, Nat.testBit_or, Nat.testBit_two_pow, hk]
    by_cases hm : i % 8 = j % 8
    · rw [if_pos (by omega)]; simp [hm]
    · rw [if_neg (by intro e; exact hm (by rw [e]))]; simp [hm]
  · rw [if_neg hk, if_neg (by intro e; exact hk (by rw [e]))]
theorem with_cnt (l : List Nat) (i m : Nat) (h : i / 8 < l.length) (hb : bitB l i = false) : cnt (withL l i true) m = cnt l m + if i < m then 1 else 0 := by
  induction m with
  | zero => rw [cnt_zero, cnt_zero, if_neg (by omega)]
  | succ m ih =>
    rw [cnt_succ, cnt_succ, ih, with_bit l i m h]
    by_cases hm : m = i
    · subst hm
      simp [hb]
    · have e : (if i < m + 1 then 1 else 0) = (if i < m then 1 else 0) := by
        by_cases him : i < m
        · rw [if_pos him, if_pos (by omega)]
        · rw [if_neg him, if_neg (by omega)]
      rw [if_neg hm, e]
      omega
theorem with_small {l : List Nat} (h : Small l) (i : Nat) : Small (withL l i true) := by
  intro x hx
  unfold withL at hx
  rcases List.mem_or_eq_of_mem_set hx with h1 | h1
  · exact h x h1
  · rw [h1, if_pos rfl]
    have h2 := h.get (i / 8)
    have h3 : 2 ^ (i % 8) < 2 ^ 8 := Nat.pow_lt_pow_right (by decide) (Nat.mod_lt _ (by decide))
    exact Nat.or_lt_two_pow (n := 8) h2 h3
/-- Behind the first free one that is set, the next free one lies further on. -/
theorem next_free {l : List Nat} {start stop : Int} {i j : Nat} (h : FreeIs l start stop (some i)) (hl : i / 8 < l.length) (k : FreeIs (withL l i true) start stop (some j)) : i < j := by
  obtain ⟨_, _, _, _, h5⟩ := h
  obtain ⟨_, _, k3, k4, _⟩ := k
  rw [with_bit l i j hl] at k4
  rcases Nat.lt_trichotomy j i with h | h | h
  · rw [if_neg (by omega), h5 j h k3] at k4; cases k4
  · rw [if_pos h] at k4; cases k4
  · exact h

set_option maxHeartbeats 400000 in
theorem walk_long {w : World} (A : Option Addr) (n c : Nat) (start stop : Int) (hT : Tabs w) (h : 4096 < n ∨ start < 0) :
    Calls Tryd.prog 11 #[.slice A n c, .int .i64 start, .int .i64 stop] w fun e w' => e = .returned (.bool true) ∧ Below w.heap.size w w' := by
  by_cases h1 : 4096 < n
  · have t1 : decide ((4096 : Int) < (n : Int)) = true := by simp; omega
    clear h h1
    go_enter Tryd.func11, Tryd.ntmps11
    go_wp2_with fail
    refine (lives_yes w hT).mono ?_
    rintro e w1 ⟨rfl, hb⟩
    go_wp2_with fail
    go_ret
    exact ⟨rfl, hb⟩
  · have t1 : decide ((4096 : Int) < (n : Int)) = false := by simp; omega
    have t2 : decide (start < 0) = true := by simp; omega
    clear h h1
    go_enter Tryd.func11, Tryd.ntmps11
    go_wp2_with fail
    refine (lives_yes w hT).mono ?_
    rintro e w1 ⟨rfl, hb⟩
    go_wp2_with fail
    go_ret
    exact ⟨rfl, hb⟩

set_option maxHeartbeats 1600000 in
theorem walk_in {w : World} (A : Option Addr) (n c : Nat) (l : List Nat) (hl : Small l) (hr : Reads w w.heap.size A n (bts l)) (hn : n ≤ 4096) (f : Nat) (hf : f ≤ 9223372036854775807) (stop : Int) (hlo2 : -9223372036854775808 ≤ stop) (hhi2 : stop ≤ 9223372036854775807) (hT : Tabs w) :
    Calls Tryd.prog 11 #[.slice A n c, .int .i64 f, .int .i64 stop] w fun e w' => e = .returned (.bool true) ∧ Below w.heap.size w w' := by
  have hsz := hT.size
  have t1 : decide ((4096 : Int) < (n : Int)) = false := by simp; omega
  have t2 : decide ((f : Int) < 0) = false := by simp
  obtain ⟨F, hF⟩ : ∃ F : Nat, max (f : Int) 0 / 8 = (F : Int) := ⟨(max (f : Int) 0 / 8).toNat, by omega⟩
  have HF := Lib.hid hF
  have hlen := Lib.hid hr.len
  clear hF
  go_enter Tryd.func11, Tryd.ntmps11
  go_wp2_with fail
  refine (lives_yes w hT).mono ?_
  rintro e w1 ⟨rfl, hb1⟩
  have hr1 := reads_over hr hb1
  clear hr
  go_wp2_with fail
  refine (free_any A n c _ F l f stop w1 hl hr1 (by omega) HF.out (by omega) (by omega) hlo2 hhi2).mono ?_
  rintro e w' ⟨r, hfr, rfl, rfl⟩
  clear t1 t2
  cases r with
  | none =>
    have Hfr := Lib.hid hfr
    clear hfr
    go_wp2_with fail
    go_loop [9] (fun s9 => ∃ k : Nat, f ≤ k ∧ k ≤ 9223372036854775807 ∧ s9 = .int .i64 k) (fun s9 => 8 * n - (intOf s9).toNat)
    case atStart => exact ⟨f, Nat.le_refl _, hf, rfl⟩
    case round =>
      obtain ⟨k, hfk, hk2, rfl⟩ := hrel
      by_cases h1 : (k : Int) < stop
      · have d1 : decide ((k : Int) < stop) = true := by simpa using h1
        by_cases h2 : k < 8 * n
        · have d2 : decide ((k : Int) < 8 * (n : Int)) = true := by simp; omega
          have hcall := has_int A n c w1.heap.size (k : Int) l w1 hl hr1 (by omega) (by omega) (by omega)
          rw [Int.toNat_natCast, Hfr.out k (by have := hlen.out; omega) h1 (by omega)] at hcall
          have Hcall := Lib.hid hcall
          clear hcall
          go_wp2_with (go_at_call 25; refine Hcall.out.mono ?_; rintro e w' ⟨rfl, rfl⟩)
          go_round
          case rel => exact ⟨k + 1, by omega, by omega, by go_num⟩
          case measure => simp [intOf]; omega
        · have d2 : decide ((k : Int) < 8 * (n : Int)) = false := by simp; omega
          go_wp2_with fail
          go_ret
          exact ⟨rfl, hb1⟩
      · have d1 : decide ((k : Int) < stop) = false := by simpa using h1
        go_wp2_with fail
        go_ret
        exact ⟨rfl, hb1⟩
  | some i =>
    have hfr2 := hfr
    obtain ⟨g1, g2, g3, g4, g5⟩ := hfr2
    have hll := hlen.out
    have hi8 : i / 8 < n := by omega
    have hi9 : i / 8 < l.length := by omega
    have hin : i < 8 * n := by omega
    have Hfr := Lib.hid hfr
    have G4 := Lib.hid g4
    have G5 := Lib.hid g5
    clear hfr g4 g5 hll g2
    go_wp2_with fail
    go_loop [10] (fun s10 => ∃ k : Nat, f ≤ k ∧ k ≤ i ∧ s10 = .int .i64 k) (fun s10 => i - (intOf s10).toNat)
    case atStart => exact ⟨f, Nat.le_refl _, by omega, rfl⟩
    case round =>
      obtain ⟨k, hfk, hki, rfl⟩ := hrel
      by_cases h1 : k < i
      · have hcall := has_int A n c w1.heap.size (k : Int) l w1 hl hr1 (by omega) (by omega) (by omega)
        rw [Int.toNat_natCast, G5.out k h1 (by omega)] at hcall
        have Hcall := Lib.hid hcall
        clear hcall
        go_wp2_with (go_at_call 25; refine Hcall.out.mono ?_; rintro e w' ⟨rfl, rfl⟩)
        go_round
        case rel => exact ⟨k + 1, by omega, by omega, by go_num⟩
        case measure => simp [intOf]; omega
      · go_wp2_with fail
        refine (with_ok A n c _ i true l w1 hl hr1 (Nat.le_refl _) (by omega) hi8).mono ?_
        rintro e w2 ⟨v2, rfl, hown2, hb2⟩
        rw [withL_length, hlen.out] at hown2
        obtain ⟨A2, c2, rfl, hr2, _, _⟩ := own_shape hown2
        have hrA2 := reads_over hr1 hb2
        have hbw2 := below_on hb1 hb2
        have hws := with_small hl i
        have hwb := with_bit l i i hi9
        rw [if_pos rfl] at hwb
        obtain ⟨m, hm⟩ : ∃ m : Nat, min stop (8 * (n : Int)) = (m : Int) := ⟨(min stop (8 * (n : Int))).toNat, by omega⟩
        have hwc := with_cnt l i m hi9 G4.out
        rw [if_pos (by omega)] at hwc
        have hnx : ∀ j, FreeIs (withL l i true) f stop (some j) → i < j := fun j hj => next_free Hfr.out hi9 hj
        have hcb := cnt_le l m
        have hm8 : m ≤ 8 * n := by omega
        have Hm := Lib.hid hm
        have Hwb := Lib.hid hwb
        have Hwc := Lib.hid hwc
        have Hnx := Lib.hid hnx
        clear hown2 hb2 hr1 hm hwb hwc hnx hb1
        generalize withL l i true = l2 at *
        go_wp2_with fail
        refine (free_any A2 n c2 _ F l2 f stop w2 hws hr2 (by omega) HF.out (by omega) (by omega) hlo2 hhi2).mono ?_
        rintro e w' ⟨r2, hfr2, rfl, rfl⟩
        have d1 : decide ((f : Int) ≤ (i : Int)) = true := by simp; omega
        have d2 : decide ((i : Int) < stop) = true := by simpa using g1
        have hc1 := has_int A n c w2.heap.size (i : Int) l w2 hl hrA2 (by omega) (by omega) (by omega)
        rw [Int.toNat_natCast, G4.out] at hc1
        have hc2 := has_int A2 n c2 w2.heap.size (i : Int) l2 w2 hws hr2 (by omega) (by omega) (by omega)
        rw [Int.toNat_natCast, Hwb.out] at hc2
        have hc3 := count_any A2 n c2 w2.heap.size m l2 stop w2 hws hr2 (by omega) Hm.out
        rw [Hwc.out] at hc3
        have hc4 := count_any A n c w2.heap.size m l stop w2 hl hrA2 (by omega) Hm.out
        generalize cnt l m = q at *
        have C1 := Lib.hid hc1
        have C2 := Lib.hid hc2
        have C3 := Lib.hid hc3
        have C4 := Lib.hid hc4
        clear hc1 hc2 hc3 hc4
        cases r2 with
        | none =>
          clear hfr2
          go_wp2_with fail
          refine C1.out.mono ?_
          rintro e w' ⟨rfl, rfl⟩
          go_wp2_with fail
          refine C2.out.mono ?_
          rintro e w' ⟨rfl, rfl⟩
          go_wp2_with fail
          refine C3.out.mono ?_
          rintro e w' ⟨rfl, rfl⟩
          go_wp2_with fail
          refine C4.out.mono ?_
          rintro e w' ⟨rfl, rfl⟩
          go_wp2_with fail
          go_ret
          exact ⟨rfl, hbw2⟩
        | some j =>
          have hij := Hnx.out j hfr2
          have d3 : decide ((i : Int) < (j : Int)) = true := by simpa using hij
          clear hfr2
          go_wp2_with fail
          refine C1.out.mono ?_
          rintro e w' ⟨rfl, rfl⟩
          go_wp2_with fail
          refine C2.out.mono ?_
          rintro e w' ⟨rfl, rfl⟩
          go_wp2_with fail
          refine C3.out.mono ?_
          rintro e w' ⟨rfl, rfl⟩
          go_wp2_with fail
          refine C4.out.mono ?_
          rintro e w' ⟨rfl, rfl⟩
          go_wp2_with fail
          go_ret
          exact ⟨rfl, hbw2⟩

theorem walk {w : World} (A : Option Addr) (n c : Nat) (l : List Nat) (hl : Small l) (hr : Reads w w.heap.size A n (bts l)) (_hn : n ≤ 140737488351232) (start : Int) (_hlo : -9223372036854775808 ≤ start) (hhi : start ≤ 9223372036854775807) (stop : Int) (hlo2 : -9223372036854775808 ≤ stop) (hhi2 : stop ≤ 9223372036854775807) (hT : Tabs w) :
    Calls Tryd.prog 11 #[.slice A n c, .int .i64 start, .int .i64 stop] w fun e w' => e = .returned (.bool true) ∧ Below w.heap.size w w' := by
  by_cases h : 4096 < n ∨ start < 0
  · exact walk_long A n c start stop hT h
  · obtain ⟨f, rfl⟩ := Int.eq_ofNat_of_zero_le (show 0 ≤ start by omega)
    exact walk_in A n c l hl hr (by omega) f (by omega) stop hlo2 hhi2 hT

set_option maxRecDepth 100000 in
/-- WHAT THE WALK GIVES, FOR EVERY ARGUMENT AND EVERY WORLD THAT HOLDS THE TABLES. -/
theorem contract (H : Type) (enc : TypeId × Value → H) (W : World) (base : Nat) (args : Array Value) (ds gs : List (DataW H)) (before : List MemPlace)
    (hval : ∀ (j : Nat) t v, Tryd.f11.params[j]? = some t → args[j]? = some v → Value.okWide Tryd.prog W .any base t v)
    (hW : DataW.Whole enc Tryd.prog Tryd.f11.params.toList Rows.octetsTakenSpec.vars false W args.toList ds gs before)
    (hsz : (DataW.weightsEach Tryd.prog (Tryd.f11.params.toList ++ (OpenSpec.ofChange Rows.octetsTakenSpec).bare.plain.varTypes Tryd.prog) (ds ++ gs)).all (· ≤ reachBytes) = true) (hL : laidMetH Tryd.prog laidBoth W) :
    Calls Tryd.prog 11 args W fun e W' => ∃ v, e = .returned v ∧ Rows.octetsTakenSpec.post enc Tryd.prog Tryd.f11 false true false false W args v W' := by
  have hW' := hW
  obtain ⟨p, q, hA0, hV, rfl, hfz, hnd⟩ := hW
  have hA : DataW.TrodAll enc Tryd.prog W 0 (fun _ => true) true Tryd.f11.params.toList args.toList ds p := hA0
  have hsz2 : (DataW.weightsEach Tryd.prog (Tryd.f11.params.toList ++ []) (ds ++ gs)).all (· ≤ reachBytes) = true := hsz
  rw [Tryd.params11] at hA hval hsz2
  obtain ⟨v0, vs0, d0, ds0, p0, q0, hargs, rfl, rfl, h0, r0⟩ := trodAll_cons hA
  obtain ⟨v1, vs1, d1, ds1, p1, q1, rfl, rfl, rfl, h1, r1⟩ := trodAll_cons r0
  obtain ⟨v2, vs2, d2, ds2, p2, q2, rfl, rfl, rfl, h2, r2⟩ := trodAll_cons r1
  obtain ⟨rfl, rfl, rfl⟩ := trodAll_nil r2
  obtain rfl : args = #[v0, v1, v2] := by cases args; simp_all
  obtain ⟨rfl, rfl⟩ := trodVars_none hV
  obtain ⟨A0, n0, c0, rfl⟩ := okWide_slice Tryd.underlying23 (hval 0 23 v0 rfl rfl)
  have k0 := h0
  have lt0 : ∀ x ∈ p0, x.block < W.heap.size := by obtain ⟨m, hm⟩ := k0; exact DataW.trod_lt m _ _ _ hm
  obtain ⟨l0, sl0, rd0, nc0, _, dd0⟩ : ∃ l, Small l ∧ Reads W W.heap.size A0 n0 (bts l) ∧ n0 ≤ c0 ∧ c0 ≤ maxLen ∧ ((d0 = .nil ∧ c0 = 0) ∨ ∃ es sp, d0 = .slice es sp ∧ es.length + sp.length = c0) := by obtain ⟨fuel, hf⟩ := h0; exact bytes_in (by simpa [Value.cells] using hf)
  have b0 : n0 ≤ 140737488351232 := by
    rcases dd0 with ⟨_, hc0⟩ | ⟨es, sp, hd, hc0⟩
    · omega
    · have := sized_slice (P := Tryd.prog) hsz2 (j := 0) (t := 23) (e := 5) rfl (by rw [hd]; rfl) Tryd.underlying23
      rw [bytesU8] at this; simp only [reachBytes] at this; omega
  obtain ⟨a1, rfl, rfl, rfl, w1⟩ := open_int Tryd.underlying3 (hval 1 3 v1 rfl rfl) h1
  have bd1 := bounds_i64 w1
  obtain ⟨a2, rfl, rfl, rfl, w2⟩ := open_int Tryd.underlying3 (hval 2 3 v2 rfl rfl) h2
  have bd2 := bounds_i64 w2
  have hT := tabs_of_laid hL
  refine (walk A0 n0 c0 l0 sl0 rd0 b0 a1 bd1.1 bd1.2 a2 bd2.1 bd2.2 hT).mono fun e W' ⟨he, bel⟩ => ?_
  subst he
  exact ⟨_, rfl, _, _, _, [], _, [], hW', trodAll_mk1 (shut_bool Tryd.underlying4 _), (trodAll_cons_mk (Below.trod laidOut (by kernel_rfl) (of_decide_eq_true (by kernel_rfl)) k0 bel lt0) (trodAll_cons_mk (shut_int Tryd.underlying3 w1) (trodAll_cons_mk (shut_int Tryd.underlying3 w2) trodAll_mk0))), rfl, bel.frame _, fun h => by cases h⟩

theorem laid_met (os : Os) : laidMetH Tryd.prog laidBoth ((laidWorld os).forCall (fun _ _ => 0) ⟨#[], #[.slice none 0 0, .int .i64 0, .int .i64 0], []⟩).memory :=
  laidMetH_of_parts3 (fuel := 8) (laidMet_of_run' 8 (by kernel_rfl) (by kernel_rfl)) (by kernel_rfl) (by kernel_rfl)
theorem reads (os : Os) {H : Type} (enc : TypeId × Value → H) : ∃ places, DataW.whole enc Tryd.prog ((laidWorld os).forCall (fun _ _ => 0) ⟨#[], #[.slice none 0 0, .int .i64 0, .int .i64 0], []⟩).memory Tryd.f11.params.toList Rows.octetsTakenSpec.vars false (#[.slice none 0 0, .int .i64 0, .int .i64 0] : Array Value).toList 8 = some ([.nil, .lit (.int .i64 0), .lit (.int .i64 0)], [], places) :=
  ⟨[], by kernel_rfl⟩
set_option maxRecDepth 100000 in
theorem lifted (os : Os) (started : os.Started) (H : Type) (enc : TypeId × Value → H) (F : Stop.Interp) :
    ReturnsInHanded {} Tryd.checked os 11 .any ((OpenSpec.ofChange Rows.octetsTakenSpec).preRow enc Tryd.prog Tryd.f11 Rows.octetsTakenRow.domain false Rows.octetsTakenRow.laid) (((OpenSpec.ofChange Rows.octetsTakenSpec).at F).post enc Tryd.prog Tryd.f11 false true false false) := by
  obtain ⟨places, hx⟩ := reads os enc
  refine returnsInHanded_of_row (C := Tryd.checked) (s := (OpenSpec.ofChange Rows.octetsTakenSpec)) own started (by kernel_rfl) Tryd.func11
    (witness_row_at (enc := enc) (C := Tryd.checked) false (laidWorld os) #[.slice none 0 0, .int .i64 0, .int .i64 0] rfl (by kernel_rfl) (by kernel_rfl) (by kernel_rfl)
      (OpenSpec.preRow_of_cond 8 hx (by kernel_rfl) (fun k hk => by cases hk) (by kernel_rfl) (laid_met os))) ?_
  intro W base args ds gs before hval hW _ hcond hsz hL _ _
  exact contract H enc W base args ds gs before hval hW hsz hL
theorem said : Rows.OctetsTakenSaid :=
  OpenClaim.holds_of_cond 11 Tryd.f11 rfl rfl rfl rfl rfl rfl rfl ⟨rfl, rfl, rfl, rfl, rfl⟩ rfl rfl rfl rfl rfl (by kernel_rfl) Tryd.func11 (by kernel_rfl)
    (of_decide_eq_true (by kernel_rfl)) (by unfold Func.isWrapper; first | (rw [if_pos (by decide +kernel)]; kernel_rfl) | (rw [if_neg (by decide +kernel)]; exact ⟨rfl, rfl⟩))
    (fun os started H enc _ F => by rw [OpenClaim.pre_eq_preRow]; exact lifted os started H enc F)
theorem plain (f : FuncId) (fn : Func) (hf : Tryd.pinned.checked.prog.funcNamed "ashlar/ashlarlaw01.OctetsTaken" = some f) (hfn : Tryd.pinned.checked.prog.funcs[f]? = some fn) :
    false = Tryd.pinned.checked.prog.looks [] ∧ ∀ (j : Nat) t, fn.params[j]? = some t → Tryd.pinned.checked.prog.wantsStandIn t = false := by
  obtain rfl : f = 11 := Option.some.inj ((show Tryd.prog.funcNamed "ashlar/ashlarlaw01.OctetsTaken" = some 11 by kernel_rfl).symm.trans hf) |>.symm
  obtain rfl : fn = Tryd.f11 := (Option.some.inj (Tryd.func11.symm.trans hfn)).symm
  refine ⟨by kernel_rfl, fun j t ht => ?_⟩
  rw [Tryd.params11] at ht
  have hm : t ∈ [23, 3, 3] := by simpa using Array.mem_of_getElem? ht
  have hall : ([23, 3, 3].all fun u => !Tryd.prog.wantsStandIn u) = true := by kernel_rfl
  exact (show Tryd.prog.wantsStandIn t = false by simpa using List.all_eq_true.1 hall t hm)

/-- ████ THE CARD ████ -/
theorem card : Rows.OctetsTakenCardSaid :=
  Claim7.holds_tied_plain_at .later [] _ _ _ _ said (fun _ h => by cases h) (by kernel_rfl) (fun _ h => by cases h) octetsTaken_row_tie rfl ⟨rfl, rfl⟩ (by kernel_rfl) rfl plain (by kernel_rfl)
end Go.Proofs.YtbagmmngepkaeaaDoor.octetsTaken
