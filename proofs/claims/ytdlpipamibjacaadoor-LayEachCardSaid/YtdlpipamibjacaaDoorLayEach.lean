/-
  LayEach is true for every number of members and every stripe: the stripe's data and its parity are on all members, on each once.
  Conditions: none of its own; the table of places holds what the program's text lays (the card ties that).
-/
import Derived.Test.YtdlpipamibjacaaDoorLg
namespace Go.Proofs.YtdlpipamibjacaaDoor.L.layEach
open Go.ChangeShapes Go.WideShapes Go.ChangeAt Go.RowKit

set_option maxHeartbeats 1000000 in
theorem walk {w : World} (n : Int) (_ : -9223372036854775808 ≤ n) (_ : n ≤ 9223372036854775807) (s : Int) (_ : -9223372036854775808 ≤ s) (hs2 : s ≤ 9223372036854775807) (hT : Tab w) :
    Calls Tryd.prog 7 #[.int .i64 n, .int .i64 s] w fun e w' => e = .returned (.bool true) ∧ Below w.heap.size w w' := by
  have HT := Lib.hid hT
  clear hT
  rcases not_or n s with h | ⟨h1, h2, h3⟩
  · have q := Lib.hid (fun w => members_no n s w h)
    clear h
    go_enter Tryd.func7, Tryd.ntmps7
    go_wp2_with fail
    refine (q.out _).mono ?_
    rintro e w' ⟨rfl, rfl⟩
    go_wp2_with fail
    refine (lives_yes _ HT.out).mono ?_
    rintro e w2 ⟨rfl, hb⟩
    go_wp2_with fail
    go_ret
    exact ⟨rfl, hb⟩
  · obtain ⟨n, rfl⟩ := nat_of (n := n) (by omega)
    obtain ⟨s, rfl⟩ := nat_of (n := s) (by omega)
    have hn3 : 3 ≤ n := by omega
    have hn16 : n ≤ 16 := by omega
    have q := Lib.hid (fun w hT => members_ok n s w hn3 hn16 (by omega) hT)
    have q7 := Lib.hid (fun w => parity_ok n s w hn3 hn16 (by omega))
    have hpn := par_lt n s (by omega)
    generalize par n s = p at *
    have hl := memL_length n p
    have hg := Lib.hid (memL_get n p)
    have hlast := Lib.hid (memAt_last n p hpn)
    have hmp := Lib.hid (fun m k => mem_place n p m k hpn)
    have hpl := Lib.hid (fun m => placeOf_lt n p m (by omega))
    go_enter Tryd.func7, Tryd.ntmps7
    go_wp2_with fail
    refine (q.out _ HT.out).mono ?_
    rintro e w1 ⟨v, rfl, hown, hb1⟩
    rw [hl] at hown
    obtain ⟨A, c, rfl, hr, _, _⟩ := own_shape hown
    clear hown q hl
    generalize memL n p = l at *
    go_wp2_with fail
    refine (lives_yes _ (HT.out.over hb1)).mono ?_
    rintro e w2 ⟨rfl, hb2⟩
    have hr2 := reads_over hr hb2
    have hb3 := below_on hb1 hb2
    clear hr hb1 hb2
    go_wp2_with (go_at_call 17; refine (q7.out _).mono ?_; rintro e w' ⟨rfl, rfl⟩)
    clear q7
    generalize memAt n p = f at *
    generalize placeOf n p = t at *
    go_loop [9, 10, 11] (fun s9 s10 s11 => ∃ m : Nat, m ≤ n ∧ s9 = .int .i64 m) (fun s9 _ _ => n - (intOf s9).toNat)
    case atStart => exact ⟨0, Nat.zero_le _, rfl⟩
    case round =>
      obtain ⟨m, hm, rfl⟩ := hrel
      by_cases hlt : m < n
      · have htm := hpl.out m
        go_wp2
        go_loop [10, 11] (fun s10 s11 => ∃ i : Nat, i ≤ n ∧ s11 = .int .i64 i ∧ s10 = .int .i64 (if t m < i then 1 else 0)) (fun _ s11 => n - (intOf s11).toNat)
        case atStart => exact ⟨0, Nat.zero_le _, rfl, rfl⟩
        case round =>
          obtain ⟨i, hi, rfl, rfl⟩ := hrel
          by_cases hli : i < n
          · obtain ⟨ad, rfl, _, hc⟩ := hr2.num hli
            rw [hg.out i hli] at hc
            have hmi := hmp.out m i hlt hli
            by_cases he : f i = m
            · have hti := Lib.hid (hmi.1 he)
              rw [he] at hc
              rw [if_neg (by have := hti.out; omega)]
              clear hmi he
              go_wp2
              go_round
              case rel => exact ⟨i + 1, by omega, by go_num, by rw [if_pos (by have := hti.out; omega)]⟩
              case measure => simp [intOf]; omega
            · have hti : Hid (i ≠ t m) := Lib.hid (fun e => he (hmi.2 e))
              have hq : ((f i : Int) == (m : Int)) = false := by rw [beq_eq_false_iff_ne]; omega
              have hsame : Hid ((if t m < i + 1 then (1 : Int) else 0) = if t m < i then 1 else 0) := Lib.hid (by have := hti.out; split <;> split <;> omega)
              clear hmi he
              generalize f i = y at *
              generalize (if t m < i then (1 : Int) else 0) = z at *
              go_wp2
              go_round
              case rel => exact ⟨i + 1, by omega, by go_num, by rw [hsame.out]⟩
              case measure => simp [intOf]; omega
          · obtain rfl : i = n := by omega
            rw [if_pos htm]
            go_wp2
            go_round
            case rel => exact ⟨m + 1, by omega, by go_num⟩
            case measure => simp [intOf]; omega
      · obtain rfl : m = n := by omega
        obtain ⟨ad, rfl, _, hc⟩ := hr2.num (k := m - 1) (by omega)
        rw [hg.out (m - 1) (by omega), hlast.out] at hc
        have hsub : (m : Int) - 1 = ((m - 1 : Nat) : Int) := by omega
        have hlm : m - 1 < m := by omega
        clear hg hlast hmp hpl
        generalize m - 1 = k at *
        go_wp2
        go_ret
        exact ⟨rfl, hb3⟩

set_option maxRecDepth 100000 in
/-- WHAT THE WALK GIVES, FOR EVERY ARGUMENT AND EVERY WORLD THAT HOLDS THE TABLES. -/
theorem contract (H : Type) (enc : TypeId × Value → H) (W : World) (base : Nat) (args : Array Value) (ds gs : List (DataW H)) (before : List MemPlace)
    (hval : ∀ (j : Nat) t v, Tryd.f7.params[j]? = some t → args[j]? = some v → Value.okWide Tryd.prog W .any base t v)
    (hW : DataW.Whole enc Tryd.prog Tryd.f7.params.toList Rows.layEachSpec.vars false W args.toList ds gs before)
    (hsz : (DataW.weightsEach Tryd.prog (Tryd.f7.params.toList ++ (OpenSpec.ofChange Rows.layEachSpec).bare.plain.varTypes Tryd.prog) (ds ++ gs)).all (· ≤ reachBytes) = true) (hL : laidMetH Tryd.prog laidBoth W) :
    Calls Tryd.prog 7 args W fun e W' => ∃ v, e = .returned v ∧ Rows.layEachSpec.post enc Tryd.prog Tryd.f7 false true false false W args v W' := by
  have hW' := hW
  obtain ⟨p, q, hA0, hV, rfl, hfz, hnd⟩ := hW
  have hA : DataW.TrodAll enc Tryd.prog W 0 (fun _ => true) true Tryd.f7.params.toList args.toList ds p := hA0
  have hsz2 : (DataW.weightsEach Tryd.prog (Tryd.f7.params.toList ++ []) (ds ++ gs)).all (· ≤ reachBytes) = true := hsz
  rw [Tryd.params7] at hA hval hsz2
  obtain ⟨v0, vs0, d0, ds0, p0, q0, hargs, rfl, rfl, h0, r0⟩ := trodAll_cons hA
  obtain ⟨v1, vs1, d1, ds1, p1, q1, rfl, rfl, rfl, h1, r1⟩ := trodAll_cons r0
  obtain ⟨rfl, rfl, rfl⟩ := trodAll_nil r1
  obtain rfl : args = #[v0, v1] := by cases args; simp_all
  obtain ⟨rfl, rfl⟩ := trodVars_none hV
  obtain ⟨a0, rfl, rfl, rfl, w0⟩ := open_int Tryd.underlying3 (hval 0 3 v0 rfl rfl) h0
  have bd0 := bounds_i64 w0
  obtain ⟨a1, rfl, rfl, rfl, w1⟩ := open_int Tryd.underlying3 (hval 1 3 v1 rfl rfl) h1
  have bd1 := bounds_i64 w1
  have hT := tabs_of_laid hL
  refine (walk a0 bd0.1 bd0.2 a1 bd1.1 bd1.2 hT).mono fun e W' ⟨he, bel⟩ => ?_
  subst he
  exact ⟨_, rfl, _, _, _, [], _, [], hW', trodAll_mk1 (shut_bool Tryd.underlying4 _), (trodAll_cons_mk (shut_int Tryd.underlying3 w0) (trodAll_cons_mk (shut_int Tryd.underlying3 w1) trodAll_mk0)), rfl, bel.frame _, fun h => by cases h⟩

theorem laid_met (os : Os) : laidMetH Tryd.prog laidBoth ((laidWorld os).forCall (fun _ _ => 0) ⟨#[], #[.int .i64 0, .int .i64 0], []⟩).memory :=
  laidMetH_of_parts3 (fuel := 8) (laidMet_of_run' 8 (by kernel_rfl) (by kernel_rfl)) (by kernel_rfl) (by kernel_rfl)
theorem reads (os : Os) {H : Type} (enc : TypeId × Value → H) : ∃ places, DataW.whole enc Tryd.prog ((laidWorld os).forCall (fun _ _ => 0) ⟨#[], #[.int .i64 0, .int .i64 0], []⟩).memory Tryd.f7.params.toList Rows.layEachSpec.vars false (#[.int .i64 0, .int .i64 0] : Array Value).toList 8 = some ([.lit (.int .i64 0), .lit (.int .i64 0)], [], places) :=
  ⟨[], by kernel_rfl⟩
set_option maxRecDepth 100000 in
theorem lifted (os : Os) (started : os.Started) (H : Type) (enc : TypeId × Value → H) (F : Stop.Interp) :
    ReturnsInHanded {} Tryd.checked os 7 .any ((OpenSpec.ofChange Rows.layEachSpec).preRow enc Tryd.prog Tryd.f7 Rows.layEachRow.domain false Rows.layEachRow.laid) (((OpenSpec.ofChange Rows.layEachSpec).at F).post enc Tryd.prog Tryd.f7 false true false false) := by
  obtain ⟨places, hx⟩ := reads os enc
  refine returnsInHanded_of_row (C := Tryd.checked) (s := (OpenSpec.ofChange Rows.layEachSpec)) own started (by kernel_rfl) Tryd.func7
    (witness_row_at (enc := enc) (C := Tryd.checked) false (laidWorld os) #[.int .i64 0, .int .i64 0] rfl (by kernel_rfl) (by kernel_rfl) (by kernel_rfl)
      (OpenSpec.preRow_of_cond 8 hx (by kernel_rfl) (fun k hk => by cases hk) (by kernel_rfl) (laid_met os))) ?_
  intro W base args ds gs before hval hW _ hcond hsz hL _ _
  exact contract H enc W base args ds gs before hval hW hsz hL
theorem said : Rows.LayEachSaid :=
  OpenClaim.holds_of_cond 7 Tryd.f7 rfl rfl rfl rfl rfl rfl rfl ⟨rfl, rfl, rfl, rfl, rfl⟩ rfl rfl rfl rfl rfl (by kernel_rfl) Tryd.func7 (by kernel_rfl)
    (of_decide_eq_true (by kernel_rfl)) (by unfold Func.isWrapper; first | (rw [if_pos (by decide +kernel)]; kernel_rfl) | (rw [if_neg (by decide +kernel)]; exact ⟨rfl, rfl⟩))
    (fun os started H enc _ F => by rw [OpenClaim.pre_eq_preRow]; exact lifted os started H enc F)
theorem plain (f : FuncId) (fn : Func) (hf : Tryd.pinned.checked.prog.funcNamed "ashlar/ashlarlaw03.LayEach" = some f) (hfn : Tryd.pinned.checked.prog.funcs[f]? = some fn) :
    false = Tryd.pinned.checked.prog.looks [] ∧ ∀ (j : Nat) t, fn.params[j]? = some t → Tryd.pinned.checked.prog.wantsStandIn t = false := by
  obtain rfl : f = 7 := Option.some.inj ((show Tryd.prog.funcNamed "ashlar/ashlarlaw03.LayEach" = some 7 by kernel_rfl).symm.trans hf) |>.symm
  obtain rfl : fn = Tryd.f7 := (Option.some.inj (Tryd.func7.symm.trans hfn)).symm
  refine ⟨by kernel_rfl, fun j t ht => ?_⟩
  rw [Tryd.params7] at ht
  have hm : t ∈ [3, 3] := by simpa using Array.mem_of_getElem? ht
  have hall : ([3, 3].all fun u => !Tryd.prog.wantsStandIn u) = true := by kernel_rfl
  exact (show Tryd.prog.wantsStandIn t = false by simpa using List.all_eq_true.1 hall t hm)

/-- ████ THE CARD ████ -/
theorem card : Rows.LayEachCardSaid :=
  Claim7.holds_tied_plain_at .later [] _ _ _ _ said (fun _ h => by cases h) (by kernel_rfl) (fun _ h => by cases h) layEach_row_tie rfl ⟨rfl, rfl⟩ (by kernel_rfl) rfl plain (by kernel_rfl)
end Go.Proofs.YtdlpipamibjacaaDoor.L.layEach
