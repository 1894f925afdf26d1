/-
  AllocFull: all of so many things are taken, one by one, and then there is none; each is taken again behind its Give.
  Conditions: the tables hold what the program's text lays.
-/
import Derived.Test.YtcnjpmcelihknaaGreatDoorZ48
import Derived.Test.YtcnjpmcelihknaaGreatDoorJf
namespace Go.Proofs.YtcnjpmcelihknaaGreatDoor.U.allocFull
open Go.ChangeShapes Go.WideShapes Go.ChangeAt Go.RowKit Go.Maps
open Go.Proofs.YtcnjpmcelihknaaGreatDoor.Kj (begin12 lives12 BegunD DiskQ mine_at mine modN modN_lt mod12_any belT belT_zero belT_succ belT_at one_left setT Alc open_alc tkA begun_free)
abbrev laidBoth : List (String × DataW Unit) := Go.Proofs.YtcnjpmcelihknaaGreatDoor.U.cacheNobody.laidBoth
theorem tabs_of_laid {W : World} (h : laidMetH Tryz.prog laidBoth W) : All10 W := Go.Proofs.YtcnjpmcelihknaaGreatDoor.U.cacheNobody.tabs_of_laid h

set_option maxRecDepth 100000 in
set_option maxHeartbeats 8000000 in
theorem walk {w : World} (ct : Int) (_ : -9223372036854775808 ≤ ct) (_ : ct ≤ 9223372036854775807) (gi : Int) (_ : -9223372036854775808 ≤ gi) (_ : gi ≤ 9223372036854775807) (hA : All10 w) :
    Calls Tryz.prog 10 #[.int .i64 ct, .int .i64 gi] w fun e w' => e = .returned (.bool true) ∧ Below w.heap.size w w' := by
  have HBG := Lib.hid (begin12 hA 14 (by decide) (by decide))
  have HLV := Lib.hid (fun (W : World) (hb : Below w.heap.size w W) => lives12 (hA.over hb))
  clear hA
  unfold BegunD at HBG
  have hM1 := modN_lt ct (show 0 < 1100 by decide)
  have HM1 := Lib.hid (fun W => mod12_any ct 1100 (by decide) (by decide) W)
  change Hid (∀ W, Calls _ _ #[.int .i64 ct, .int .i64 1100] W _) at HM1
  generalize modN ct 1100 = km at *
  have wk : wrap64 (1 + (km : Int)) = ((km + 1 : Nat) : Int) := by rw [IntWalk.wrap64_in _ ⟨by omega, by omega⟩]; omega
  obtain ⟨k, hk⟩ : ∃ k, km + 1 = k := ⟨_, rfl⟩
  rw [hk] at wk
  have hk1 : 1 ≤ k ∧ k ≤ 1100 := by omega
  have hM2 := modN_lt gi (show 0 < k by omega)
  have HM2 := Lib.hid (fun W => mod12_any gi k (by omega) (by omega) W)
  generalize modN gi k = g at *
  clear hM1 hk
  go_enter Tryz.func10, Tryz.ntmps10
  go_wp2_with fail
  refine (HM1.out _).mono ?_
  rintro e w0 ⟨rfl, rfl⟩
  go_wp2_with fail
  refine HBG.out.mono ?_
  rintro e w1 ⟨S, G, q, O, s, rfl, hd, hn, hfi, hle, hSB, hSW, hsR, hsf, hwq, hb⟩
  have HL := Lib.hid (HLV.out w1 hb)
  have HD := Lib.hid (And.intro hd (And.intro hb (And.intro hSB hSW)))
  have HM : Hid (∀ b, mine S G b ↔ b < 14) := Lib.hid (fun b => (mine_at hn hfi hle).trans (by omega))
  have HR := Lib.hid hsR
  have HT : Hid (∀ j, j < 4096 → tkA s.look 1 j = false) := Lib.hid fun j hj => begun_free hsR hsf 1 (by omega)
  clear hd hn hfi hle hSB hSW hsR hsf hwq hb HBG HLV
  go_wp2_with fail
  refine HL.out.mono ?_
  rintro e w2 ⟨rfl, hb2⟩
  have hd2 := HD.out.1.grown hb2
  have c2 := hd2.c2
  have HO := Lib.hid (open_alc (k := 370000) HR.out (hd2.jou.less (by decide)) 1 k ⟨hk1.1, by omega⟩ (fun i hi => (HM.out _).2 (by omega)))
  have HS := Lib.hid HD.out.2.2
  clear hb2 hd2 HL HD HM
  generalize tkA s.look 1 = T at *
  have hT0 := belT_zero (T := T) (k := k) fun j hj => HT.out j (by omega)
  have HTE := Lib.hid hT0
  clear hT0 HT
  go_wp2_with fail
  refine HO.out.mono ?_
  rintro e w3 ⟨m, O3, rfl, ha, _, _⟩
  have hrel0 : Hid (∃ Oi, Alc S G w3 m 1 k Oi (belT T k 0) (370000 - 10 * 0)) := Lib.hid ⟨O3, by rw [← HTE.out]; exact ha⟩
  clear ha HO c2
  go_wp2
  go_loopw [9, 10, 11] (fun s9 s10 s11 wr => ∃ j : Nat, j ≤ k ∧ s9 = .int .i64 j ∧ Hid (∃ Oi, Alc S G wr m 1 k Oi (belT T k j) (370000 - 10 * j))) (fun s9 _ _ _ => k - (intOf s9).toNat)
  case atStart => exact ⟨0, Nat.zero_le _, rfl, hrel0⟩
  case round =>
    obtain ⟨j, hj, rfl, hrel⟩ := hrel
    clear hrel0
    by_cases hlt : j < k
    · obtain ⟨Oi, ha⟩ := hrel.out
      have HK := Lib.hid ((ha.less (show 370000 - 10 * (j + 1) + 10 ≤ 370000 - 10 * j by omega)).take_at j hlt (by rw [belT_at T hlt]; simp) (fun i hi => by rw [belT_at T (by omega)]; simpa using hi))
      rw [belT_succ T hlt] at HK
      clear ha hrel
      go_wp2_with fail
      refine HK.out.mono ?_
      rintro e w4 ⟨O4, _, rfl, ha⟩
      have H4 := Lib.hid ha
      clear ha HK
      go_wp2
      go_roundw
      case rel => exact ⟨j + 1, by omega, by go_num, Lib.hid ⟨O4, H4.out⟩⟩
      case measure => simp [intOf]; omega
    · obtain rfl : j = k := by omega
      obtain ⟨Oi, ha⟩ := hrel.out
      have HK := Lib.hid ((ha.less (show 350010 ≤ 370000 - 10 * j by omega)).take_full (k := 350000) (fun i hi => by rw [belT_at T hi]; simpa using hi))
      clear ha hrel hlt hj
      go_wp2_with fail
      refine HK.out.mono ?_
      rintro e w4 ⟨O4, _, rfl, ha⟩
      have HG := Lib.hid ((ha.less (show 340002 ≤ 350000 by decide)).give (k := 340000) g hM2)
      rw [if_pos (by rw [belT_at T hM2]; simpa using hM2)] at HG
      clear ha HK
      go_wp2_with fail
      refine (HM2.out _).mono ?_
      rintro e w5 ⟨rfl, rfl⟩
      go_wp2_with fail
      refine HG.out.mono ?_
      rintro e w5 ⟨O5, _, rfl, ha⟩
      have HF := Lib.hid ((ha.less (show 330010 ≤ 340000 by decide)).free (k := 330000))
      rw [one_left T hM2] at HF
      clear ha HG
      go_wp2_with fail
      refine HF.out.mono ?_
      rintro e w6 ⟨O6, _, rfl, ha⟩
      have HK := Lib.hid ((ha.less (show 320010 ≤ 330000 by decide)).take_at (k := 320000) g hM2 (by simp [setT]) (fun i hi => by unfold setT; rw [if_neg (by omega), belT_at T (by omega)]; simp; omega))
      clear ha HF
      go_wp2_with fail
      refine HK.out.mono ?_
      rintro e w7 ⟨O7, _, rfl, ha⟩
      have HN1 := Lib.hid (ha.give_no (j : Int) (.inr (Int.le_refl _)))
      have HN2 := Lib.hid (ha.give_no (-1) (.inl (by decide)))
      have hbel := ha.bel
      rw [HS.out.1, HS.out.2] at hbel
      have HB := Lib.hid hbel
      clear ha HK hbel
      go_wp2_with fail
      refine HN1.out.mono ?_
      rintro e w8 ⟨rfl, rfl⟩
      go_wp2_with fail
      refine HN2.out.mono ?_
      rintro e w8 ⟨rfl, rfl⟩
      go_wp2
      go_ret
      exact ⟨rfl, HB.out⟩
set_option maxRecDepth 100000 in
/-- WHAT THE WALK GIVES, FOR EVERY ARGUMENT AND EVERY WORLD THAT HOLDS THE TABLES. -/
theorem contract (H : Type) (enc : TypeId × Value → H) (W : World) (base : Nat) (args : Array Value) (ds gs : List (DataW H)) (before : List MemPlace)
    (hval : ∀ (j : Nat) t v, Tryz.f10.params[j]? = some t → args[j]? = some v → Value.okWide Tryz.prog W .any base t v)
    (hW : DataW.Whole enc Tryz.prog Tryz.f10.params.toList Rows.allocFullSpec.vars false W args.toList ds gs before)
    (hsz : (DataW.weightsEach Tryz.prog (Tryz.f10.params.toList ++ (OpenSpec.ofChange Rows.allocFullSpec).bare.plain.varTypes Tryz.prog) (ds ++ gs)).all (· ≤ reachBytes) = true) (hL : laidMetH Tryz.prog laidBoth W) :
    Calls Tryz.prog 10 args W fun e W' => ∃ v, e = .returned v ∧ Rows.allocFullSpec.post enc Tryz.prog Tryz.f10 false true false false W args v W' := by
  have hW' := hW
  obtain ⟨p, q, hA0, hV, rfl, hfz, hnd⟩ := hW
  have hA : DataW.TrodAll enc Tryz.prog W 0 (fun _ => true) true Tryz.f10.params.toList args.toList ds p := hA0
  have hsz2 : (DataW.weightsEach Tryz.prog (Tryz.f10.params.toList ++ []) (ds ++ gs)).all (· ≤ reachBytes) = true := hsz
  rw [Tryz.params10] at hA hval hsz2
  obtain ⟨v0, vs0, d0, ds0, p0, q0, hargs, rfl, rfl, h0, r0⟩ := trodAll_cons hA
  obtain ⟨v1, vs1, d1, ds1, p1, q1, rfl, rfl, rfl, h1, r1⟩ := trodAll_cons r0
  obtain ⟨rfl, rfl, rfl⟩ := trodAll_nil r1
  obtain rfl : args = #[v0, v1] := by cases args; simp_all
  obtain ⟨rfl, rfl⟩ := trodVars_none hV
  obtain ⟨a0, rfl, rfl, rfl, w0⟩ := open_int Tryz.underlying3 (hval 0 3 v0 rfl rfl) h0
  have bd0 := bounds_i64 w0
  obtain ⟨a1, rfl, rfl, rfl, w1⟩ := open_int Tryz.underlying3 (hval 1 3 v1 rfl rfl) h1
  have bd1 := bounds_i64 w1
  have hT := tabs_of_laid hL
  refine (walk a0 bd0.1 bd0.2 a1 bd1.1 bd1.2 hT).mono fun e W' ⟨he, bel⟩ => ?_
  subst he
  exact ⟨_, rfl, _, _, _, [], _, [], hW', trodAll_mk1 (shut_bool Tryz.underlying4 _), (trodAll_cons_mk (shut_int Tryz.underlying3 w0) (trodAll_cons_mk (shut_int Tryz.underlying3 w1) trodAll_mk0)), rfl, bel.frame _, fun h => by cases h⟩

theorem laid_met (os : Os) : laidMetH Tryz.prog laidBoth ((laidWorld os).forCall (fun _ _ => 0) ⟨#[], #[.int .i64 0, .int .i64 0], []⟩).memory :=
  laidMetH_of_parts3 (fuel := 8) (laidMet_of_run' 8 (by kernel_rfl) (by kernel_rfl)) (by kernel_rfl) (by kernel_rfl)
theorem reads (os : Os) {H : Type} (enc : TypeId × Value → H) : ∃ places, DataW.whole enc Tryz.prog ((laidWorld os).forCall (fun _ _ => 0) ⟨#[], #[.int .i64 0, .int .i64 0], []⟩).memory Tryz.f10.params.toList Rows.allocFullSpec.vars false (#[.int .i64 0, .int .i64 0] : Array Value).toList 8 = some ([.lit (.int .i64 0), .lit (.int .i64 0)], [], places) :=
  ⟨[], by kernel_rfl⟩
set_option maxRecDepth 100000 in
theorem lifted (os : Os) (started : os.Started) (H : Type) (enc : TypeId × Value → H) (F : Stop.Interp) :
    ReturnsInHanded {} Tryz.checked os 10 .any ((OpenSpec.ofChange Rows.allocFullSpec).preRow enc Tryz.prog Tryz.f10 Rows.allocFullRow.domain false Rows.allocFullRow.laid) (((OpenSpec.ofChange Rows.allocFullSpec).at F).post enc Tryz.prog Tryz.f10 false true false false) := by
  obtain ⟨places, hx⟩ := reads os enc
  refine returnsInHanded_of_row (C := Tryz.checked) (s := (OpenSpec.ofChange Rows.allocFullSpec)) own started (by kernel_rfl) Tryz.func10
    (witness_row_at (enc := enc) (C := Tryz.checked) false (laidWorld os) #[.int .i64 0, .int .i64 0] rfl (by kernel_rfl) (by kernel_rfl) (by kernel_rfl)
      (OpenSpec.preRow_of_cond 8 hx (by kernel_rfl) (fun k hk => by cases hk) (by kernel_rfl) (laid_met os))) ?_
  intro W base args ds gs before hval hW _ hcond hsz hL _ _
  exact contract H enc W base args ds gs before hval hW hsz hL
theorem closed_h1 : Jf.j1 Tryz.prog Tryz.f10 ((OpenSpec.ofChange Rows.allocFullSpec)).bare Rows.allocFullRow = true := by kernel_rfl
theorem closed_h2 : Jf.j2 Tryz.prog Tryz.f10 ((OpenSpec.ofChange Rows.allocFullSpec)).bare Rows.allocFullRow = true := by kernel_rfl
theorem closed_h3 : Jf.j3 Tryz.prog Tryz.f10 ((OpenSpec.ofChange Rows.allocFullSpec)).bare Rows.allocFullRow = true := by kernel_rfl
theorem closed_h4 : Jf.j4 Tryz.prog Rows.allocFullRow = true := by kernel_rfl
theorem closed_h5 : Jf.j5 Tryz.prog Tryz.f10 Rows.allocFullRow = true := by kernel_rfl
theorem closed_h6 : Jf.j6 Tryz.prog Tryz.f10 ((OpenSpec.ofChange Rows.allocFullSpec)).bare Rows.allocFullRow = true := by kernel_rfl
theorem closed_l1 : laidOutB Tryz.prog = true := by kernel_rfl
theorem closed_l2 : mapsRowed Tryz.prog = true := by kernel_rfl
theorem closed_l3 : Tryz.prog.stopsHeard = true := by kernel_rfl
theorem closed_l4 : Tryz.prog.mayEnter = true := by kernel_rfl
theorem closed_m1 : (Rows.allocFullRow.inPlace == Tryz.prog.inPlace 10) = true := by kernel_rfl
theorem closed_m2 : (Rows.allocFullRow.unfollowed == Tryz.prog.unfollowed 10) = true := by kernel_rfl
theorem closed_m3 : (Rows.allocFullRow.recurses == Tryz.prog.recurses 10) = true := by kernel_rfl
theorem closed_m4 : (Rows.allocFullRow.named == Tryz.prog.varsNamed 10) = true := by kernel_rfl
theorem closed : joinedFacts Tryz.pinned.checked.prog 10 Tryz.f10 ((OpenSpec.ofChange Rows.allocFullSpec)).bare Rows.allocFullRow = true :=
  Jf.joined_of closed_h1 closed_h2 closed_h3 closed_h4 closed_h5 closed_h6 closed_l1 closed_l2 closed_l3 closed_l4 closed_m1 closed_m2 closed_m3 closed_m4
theorem said : Rows.AllocFullSaid :=
  OpenClaim.holds_of_cond 10 Tryz.f10 rfl rfl rfl rfl rfl rfl rfl ⟨rfl, rfl, rfl, rfl, rfl⟩ rfl rfl rfl rfl rfl (by kernel_rfl) Tryz.func10 closed
    (of_decide_eq_true (by kernel_rfl)) (by unfold Func.isWrapper; first | (rw [if_pos (by decide +kernel)]; kernel_rfl) | (rw [if_neg (by decide +kernel)]; exact ⟨rfl, rfl⟩))
    (fun os started H enc _ F => by rw [OpenClaim.pre_eq_preRow]; exact lifted os started H enc F)
theorem plain (f : FuncId) (fn : Func) (hf : Tryz.pinned.checked.prog.funcNamed "ashlar/ashlarlaw12.AllocFull" = some f) (hfn : Tryz.pinned.checked.prog.funcs[f]? = some fn) :
    false = Tryz.pinned.checked.prog.looks [] ∧ ∀ (j : Nat) t, fn.params[j]? = some t → Tryz.pinned.checked.prog.wantsStandIn t = false := by
  obtain rfl : f = 10 := Option.some.inj ((show Tryz.prog.funcNamed "ashlar/ashlarlaw12.AllocFull" = some 10 by kernel_rfl).symm.trans hf) |>.symm
  obtain rfl : fn = Tryz.f10 := (Option.some.inj (Tryz.func10.symm.trans hfn)).symm
  refine ⟨by kernel_rfl, fun j t ht => ?_⟩
  rw [Tryz.params10] at ht
  have hm : t ∈ [3, 3] := by simpa using Array.mem_of_getElem? ht
  have hall : ([3, 3].all fun u => !Tryz.prog.wantsStandIn u) = true := by kernel_rfl
  exact (show Tryz.prog.wantsStandIn t = false by simpa using List.all_eq_true.1 hall t hm)

/-- ████ THE CARD ████ -/
theorem card : Rows.AllocFullCardSaid :=
  Claim7.holds_tied_plain_at .later [] _ _ _ _ said (fun _ h => by cases h) (by kernel_rfl) (fun _ h => by cases h) allocFull_row_tie rfl ⟨rfl, rfl⟩ (by kernel_rfl) rfl plain (by kernel_rfl)
end Go.Proofs.YtcnjpmcelihknaaGreatDoor.U.allocFull
