/-
  AllocNobody: a nil map, and maps that may not be: the walk, and its card.
  Conditions: the tables hold what the program's text lays.
-/
import Derived.Test.YtcnjpmcelihknaaGreatDoorZ48
import Derived.Test.YtcnjpmcelihknaaGreatDoorJf
namespace Go.Proofs.YtcnjpmcelihknaaGreatDoor.U.allocNobody
open Go.ChangeShapes Go.WideShapes Go.ChangeAt Go.RowKit Go.Maps
open Go.Proofs.YtcnjpmcelihknaaGreatDoor.Kj (begin12 lives12 BegunD DiskQ refBlocks aOpen_no aOpen_bad aOpen OpenA mine_at mine aTake_nil aHas_nil aFree_nil aGive_nil aCount_nil)
abbrev laidBoth : List (String × DataW Unit) := Go.Proofs.YtcnjpmcelihknaaGreatDoor.U.cacheNobody.laidBoth
theorem tabs_of_laid {W : World} (h : laidMetH Tryz.prog laidBoth W) : All10 W := Go.Proofs.YtcnjpmcelihknaaGreatDoor.U.cacheNobody.tabs_of_laid h

set_option maxRecDepth 100000 in
set_option maxHeartbeats 8000000 in
theorem walk {w : World} (fi : Int) (hf1 : -9223372036854775808 ≤ fi) (hf2 : fi ≤ 9223372036854775807) (n : Int) (hn1 : -9223372036854775808 ≤ n) (hn2 : n ≤ 9223372036854775807) (i : Int) (hi1 : -9223372036854775808 ≤ i) (hi2 : i ≤ 9223372036854775807) (hA : All10 w) :
    Calls Tryz.prog 11 #[.int .i64 fi, .int .i64 n, .int .i64 i] w fun e w' => e = .returned (.bool true) ∧ Below w.heap.size w w' := by
  have HBG := Lib.hid (begin12 hA 14 (by decide) (by decide))
  have HLV := Lib.hid (fun (W : World) (hb : Below w.heap.size w W) => lives12 (hA.over hb))
  clear hA
  unfold BegunD at HBG
  have HTN := Lib.hid (fun W => aTake_nil W)
  have HHN := Lib.hid (fun W => aHas_nil i W ⟨hi1, hi2⟩)
  have HFN := Lib.hid (fun W => aFree_nil W)
  have HGN := Lib.hid (fun W => aGive_nil i W)
  have HCN := Lib.hid (fun W => aCount_nil W)
  have HON := Lib.hid (fun W => aOpen_no none fi n W (.inl rfl))
  clear hi1 hi2
  go_enter Tryz.func11, Tryz.ntmps11
  go_wp2_with fail
  refine HBG.out.mono ?_
  rintro e w1 ⟨S, G, q, O, s, rfl, hd, hn, hfi, hle, hSB, hSW, hsR, hsf, hwq, hb⟩
  have HL := Lib.hid (HLV.out w1 hb)
  have HD := Lib.hid (And.intro hd (And.intro hb (And.intro hSB hSW)))
  have HM : Hid (∀ b, mine S G b ↔ b < 14) := Lib.hid (fun b => (mine_at hn hfi hle).trans (by omega))
  clear hd hn hfi hle hSB hSW hsR hsf hwq hb HBG HLV
  go_wp2_with fail
  refine HL.out.mono ?_
  rintro e w2 ⟨rfl, hb2⟩
  have hd2 := HD.out.1.grown hb2
  have c2 := hd2.c2
  have HD2 := Lib.hid (And.intro hd2 (HD.out.2.1.trans (hb2.mono HD.out.2.1.size)))
  have HSW := Lib.hid HD.out.2.2
  clear hb2 hd2 HL HD
  by_cases h1 : 1 ≤ n
  · have q1 : decide (n ≥ 1) = true := by simpa using h1
    by_cases h2 : n ≤ 4096
    · have q2 : decide (n ≤ 4096) = true := by simpa using h2
      by_cases h3 : 0 ≤ fi
      · have q3 : decide (fi ≥ 0) = true := by simpa using h3
        obtain ⟨ff, rfl⟩ : ∃ k : Nat, fi = (k : Int) := ⟨fi.toNat, by omega⟩
        obtain ⟨nn, rfl⟩ : ∃ k : Nat, n = (k : Int) := ⟨n.toNat, by omega⟩
        have hmin : min (nn : Int) 4096 = (nn : Int) := by omega
        have HRB := Lib.hid (fun W => refBlocks (nn : Int) W (by omega))
        by_cases h4 : ff + ((nn - 1) / 1024 + 1) ≤ 14
        · unfold OpenA at *
          have HO := Lib.hid (aOpen (k := 370000) (HD2.out.1.jou.less (by decide)) ff nn (by omega) (fun i hi => (HM.out _).2 (by omega)))
          have HN := Lib.hid (And.intro h4 (And.intro h1 (And.intro h2 h3)))
          clear h1 h2 h3 h4 hf1 hf2 hn1 hn2
          go_wp2_with fail
          refine (HO.out).mono ?_
          rintro e w3 ⟨m, O3, rfl, hr, hnm, hj, hmv, hm⟩
          have hbel := hj.bel
          rw [HSW.out.1, HSW.out.2] at hbel
          have HBL := Lib.hid hbel
          clear hr hnm hj hmv hm hbel HO c2
          go_wp2_with fail
          refine (HON.out _).mono ?_
          rintro e w4 ⟨rfl, rfl⟩
          go_wp2_with fail
          refine (HRB.out _).mono ?_
          rintro e w4 ⟨k, rfl, rfl, hk1, hk2⟩
          have qk : decide ((ff : Int) ≤ 14 - (k : Int)) = true := by have := HN.out; simp; omega
          have hkb : k ≤ 1000 := by omega
          clear hk1 hk2
          go_wp2_with fail
          refine (HTN.out _).mono ?_
          rintro e w4 ⟨rfl, rfl⟩
          go_wp2_with fail
          refine (HHN.out _).mono ?_
          rintro e w4 ⟨rfl, rfl⟩
          go_wp2_with fail
          refine (HFN.out _).mono ?_
          rintro e w4 ⟨rfl, rfl⟩
          go_wp2_with fail
          refine (HGN.out _).mono ?_
          rintro e w4 ⟨rfl, rfl⟩
          go_wp2_with fail
          refine (HCN.out _).mono ?_
          rintro e w4 ⟨rfl, rfl⟩
          go_wp2
          go_ret
          exact ⟨rfl, HBL.out⟩
        · by_cases h5 : 14 ≤ ff
          · have HO := Lib.hid (aOpen_bad (k := 370000) (HD2.out.1.jou.less (by decide)) ff nn (by omega) (0) (by omega) (by omega) (fun i hi => (HM.out _).2 (by omega)) (fun e => by have := (HM.out _).1 e; omega))
            have HN := Lib.hid (And.intro h4 (And.intro h1 (And.intro h2 h3)))
            clear h1 h2 h3 h4 h5 hf1 hf2 hn1 hn2
            go_wp2_with fail
            refine (HO.out).mono ?_
            rintro e w3 ⟨O3, rfl, hj, hmv⟩
            have hbel := hj.bel
            rw [HSW.out.1, HSW.out.2] at hbel
            have HBL := Lib.hid hbel
            clear hj hmv hbel HO c2
            go_wp2_with fail
            refine (HON.out _).mono ?_
            rintro e w4 ⟨rfl, rfl⟩
            go_wp2_with fail
            refine (HRB.out _).mono ?_
            rintro e w4 ⟨k, rfl, rfl, hk1, hk2⟩
            have qk : decide ((ff : Int) ≤ 14 - (k : Int)) = false := by have := HN.out; simp; omega
            have hkb : k ≤ 1000 := by omega
            clear hk1 hk2
            go_wp2_with fail
            refine (HTN.out _).mono ?_
            rintro e w4 ⟨rfl, rfl⟩
            go_wp2_with fail
            refine (HHN.out _).mono ?_
            rintro e w4 ⟨rfl, rfl⟩
            go_wp2_with fail
            refine (HFN.out _).mono ?_
            rintro e w4 ⟨rfl, rfl⟩
            go_wp2_with fail
            refine (HGN.out _).mono ?_
            rintro e w4 ⟨rfl, rfl⟩
            go_wp2_with fail
            refine (HCN.out _).mono ?_
            rintro e w4 ⟨rfl, rfl⟩
            go_wp2
            go_ret
            exact ⟨rfl, HBL.out⟩
          · have HO := Lib.hid (aOpen_bad (k := 370000) (HD2.out.1.jou.less (by decide)) ff nn (by omega) (14 - ff) (by omega) (by omega) (fun i hi => (HM.out _).2 (by omega)) (fun e => by have := (HM.out _).1 e; omega))
            have HN := Lib.hid (And.intro h4 (And.intro h1 (And.intro h2 h3)))
            clear h1 h2 h3 h4 h5 hf1 hf2 hn1 hn2
            go_wp2_with fail
            refine (HO.out).mono ?_
            rintro e w3 ⟨O3, rfl, hj, hmv⟩
            have hbel := hj.bel
            rw [HSW.out.1, HSW.out.2] at hbel
            have HBL := Lib.hid hbel
            clear hj hmv hbel HO c2
            go_wp2_with fail
            refine (HON.out _).mono ?_
            rintro e w4 ⟨rfl, rfl⟩
            go_wp2_with fail
            refine (HRB.out _).mono ?_
            rintro e w4 ⟨k, rfl, rfl, hk1, hk2⟩
            have qk : decide ((ff : Int) ≤ 14 - (k : Int)) = false := by have := HN.out; simp; omega
            have hkb : k ≤ 1000 := by omega
            clear hk1 hk2
            go_wp2_with fail
            refine (HTN.out _).mono ?_
            rintro e w4 ⟨rfl, rfl⟩
            go_wp2_with fail
            refine (HHN.out _).mono ?_
            rintro e w4 ⟨rfl, rfl⟩
            go_wp2_with fail
            refine (HFN.out _).mono ?_
            rintro e w4 ⟨rfl, rfl⟩
            go_wp2_with fail
            refine (HGN.out _).mono ?_
            rintro e w4 ⟨rfl, rfl⟩
            go_wp2_with fail
            refine (HCN.out _).mono ?_
            rintro e w4 ⟨rfl, rfl⟩
            go_wp2
            go_ret
            exact ⟨rfl, HBL.out⟩
      · have q3 : decide (fi ≥ 0) = false := by simpa using h3
        have HO := Lib.hid (aOpen_no (some ⟨G.p, 0, none⟩) fi n w2 (by omega))
        clear h1 h2 h3 hf1 hf2 hn1 hn2
        go_wp2_with fail
        refine (HO.out).mono ?_
        rintro e w3 ⟨rfl, rfl⟩
        clear HO c2
        go_wp2_with fail
        refine (HON.out _).mono ?_
        rintro e w4 ⟨rfl, rfl⟩
        go_wp2_with fail
        refine (HTN.out _).mono ?_
        rintro e w4 ⟨rfl, rfl⟩
        go_wp2_with fail
        refine (HHN.out _).mono ?_
        rintro e w4 ⟨rfl, rfl⟩
        go_wp2_with fail
        refine (HFN.out _).mono ?_
        rintro e w4 ⟨rfl, rfl⟩
        go_wp2_with fail
        refine (HGN.out _).mono ?_
        rintro e w4 ⟨rfl, rfl⟩
        go_wp2_with fail
        refine (HCN.out _).mono ?_
        rintro e w4 ⟨rfl, rfl⟩
        go_wp2
        go_ret
        exact ⟨rfl, HD2.out.2⟩
    · have q2 : decide (n ≤ 4096) = false := by simpa using h2
      have HO := Lib.hid (aOpen_no (some ⟨G.p, 0, none⟩) fi n w2 (by omega))
      clear h1 h2 hf1 hf2 hn1 hn2
      go_wp2_with fail
      refine (HO.out).mono ?_
      rintro e w3 ⟨rfl, rfl⟩
      clear HO c2
      go_wp2_with fail
      refine (HON.out _).mono ?_
      rintro e w4 ⟨rfl, rfl⟩
      go_wp2_with fail
      refine (HTN.out _).mono ?_
      rintro e w4 ⟨rfl, rfl⟩
      go_wp2_with fail
      refine (HHN.out _).mono ?_
      rintro e w4 ⟨rfl, rfl⟩
      go_wp2_with fail
      refine (HFN.out _).mono ?_
      rintro e w4 ⟨rfl, rfl⟩
      go_wp2_with fail
      refine (HGN.out _).mono ?_
      rintro e w4 ⟨rfl, rfl⟩
      go_wp2_with fail
      refine (HCN.out _).mono ?_
      rintro e w4 ⟨rfl, rfl⟩
      go_wp2
      go_ret
      exact ⟨rfl, HD2.out.2⟩
  · have q1 : decide (n ≥ 1) = false := by simpa using h1
    have HO := Lib.hid (aOpen_no (some ⟨G.p, 0, none⟩) fi n w2 (by omega))
    clear h1 hf1 hf2 hn1 hn2
    go_wp2_with fail
    refine (HO.out).mono ?_
    rintro e w3 ⟨rfl, rfl⟩
    clear HO c2
    go_wp2_with fail
    refine (HON.out _).mono ?_
    rintro e w4 ⟨rfl, rfl⟩
    go_wp2_with fail
    refine (HTN.out _).mono ?_
    rintro e w4 ⟨rfl, rfl⟩
    go_wp2_with fail
    refine (HHN.out _).mono ?_
    rintro e w4 ⟨rfl, rfl⟩
    go_wp2_with fail
    refine (HFN.out _).mono ?_
    rintro e w4 ⟨rfl, rfl⟩
    go_wp2_with fail
    refine (HGN.out _).mono ?_
    rintro e w4 ⟨rfl, rfl⟩
    go_wp2_with fail
    refine (HCN.out _).mono ?_
    rintro e w4 ⟨rfl, rfl⟩
    go_wp2
    go_ret
    exact ⟨rfl, HD2.out.2⟩
set_option maxRecDepth 100000 in
/-- WHAT THE WALK GIVES, FOR EVERY ARGUMENT AND EVERY WORLD THAT HOLDS THE TABLES. -/
theorem contract (H : Type) (enc : TypeId × Value → H) (W : World) (base : Nat) (args : Array Value) (ds gs : List (DataW H)) (before : List MemPlace)
    (hval : ∀ (j : Nat) t v, Tryz.f11.params[j]? = some t → args[j]? = some v → Value.okWide Tryz.prog W .any base t v)
    (hW : DataW.Whole enc Tryz.prog Tryz.f11.params.toList Rows.allocNobodySpec.vars false W args.toList ds gs before)
    (hsz : (DataW.weightsEach Tryz.prog (Tryz.f11.params.toList ++ (OpenSpec.ofChange Rows.allocNobodySpec).bare.plain.varTypes Tryz.prog) (ds ++ gs)).all (· ≤ reachBytes) = true) (hL : laidMetH Tryz.prog laidBoth W) :
    Calls Tryz.prog 11 args W fun e W' => ∃ v, e = .returned v ∧ Rows.allocNobodySpec.post enc Tryz.prog Tryz.f11 false true false false W args v W' := by
  have hW' := hW
  obtain ⟨p, q, hA0, hV, rfl, hfz, hnd⟩ := hW
  have hA : DataW.TrodAll enc Tryz.prog W 0 (fun _ => true) true Tryz.f11.params.toList args.toList ds p := hA0
  have hsz2 : (DataW.weightsEach Tryz.prog (Tryz.f11.params.toList ++ []) (ds ++ gs)).all (· ≤ reachBytes) = true := hsz
  rw [Tryz.params11] at hA hval hsz2
  obtain ⟨v0, vs0, d0, ds0, p0, q0, hargs, rfl, rfl, h0, r0⟩ := trodAll_cons hA
  obtain ⟨v1, vs1, d1, ds1, p1, q1, rfl, rfl, rfl, h1, r1⟩ := trodAll_cons r0
  obtain ⟨v2, vs2, d2, ds2, p2, q2, rfl, rfl, rfl, h2, r2⟩ := trodAll_cons r1
  obtain ⟨rfl, rfl, rfl⟩ := trodAll_nil r2
  obtain rfl : args = #[v0, v1, v2] := by cases args; simp_all
  obtain ⟨rfl, rfl⟩ := trodVars_none hV
  obtain ⟨a0, rfl, rfl, rfl, w0⟩ := open_int Tryz.underlying3 (hval 0 3 v0 rfl rfl) h0
  have bd0 := bounds_i64 w0
  obtain ⟨a1, rfl, rfl, rfl, w1⟩ := open_int Tryz.underlying3 (hval 1 3 v1 rfl rfl) h1
  have bd1 := bounds_i64 w1
  obtain ⟨a2, rfl, rfl, rfl, w2⟩ := open_int Tryz.underlying3 (hval 2 3 v2 rfl rfl) h2
  have bd2 := bounds_i64 w2
  have hT := tabs_of_laid hL
  refine (walk a0 bd0.1 bd0.2 a1 bd1.1 bd1.2 a2 bd2.1 bd2.2 hT).mono fun e W' ⟨he, bel⟩ => ?_
  subst he
  exact ⟨_, rfl, _, _, _, [], _, [], hW', trodAll_mk1 (shut_bool Tryz.underlying4 _), (trodAll_cons_mk (shut_int Tryz.underlying3 w0) (trodAll_cons_mk (shut_int Tryz.underlying3 w1) (trodAll_cons_mk (shut_int Tryz.underlying3 w2) trodAll_mk0))), rfl, bel.frame _, fun h => by cases h⟩

theorem laid_met (os : Os) : laidMetH Tryz.prog laidBoth ((laidWorld os).forCall (fun _ _ => 0) ⟨#[], #[.int .i64 0, .int .i64 0, .int .i64 0], []⟩).memory :=
  laidMetH_of_parts3 (fuel := 8) (laidMet_of_run' 8 (by kernel_rfl) (by kernel_rfl)) (by kernel_rfl) (by kernel_rfl)
theorem reads (os : Os) {H : Type} (enc : TypeId × Value → H) : ∃ places, DataW.whole enc Tryz.prog ((laidWorld os).forCall (fun _ _ => 0) ⟨#[], #[.int .i64 0, .int .i64 0, .int .i64 0], []⟩).memory Tryz.f11.params.toList Rows.allocNobodySpec.vars false (#[.int .i64 0, .int .i64 0, .int .i64 0] : Array Value).toList 8 = some ([.lit (.int .i64 0), .lit (.int .i64 0), .lit (.int .i64 0)], [], places) :=
  ⟨[], by kernel_rfl⟩
set_option maxRecDepth 100000 in
theorem lifted (os : Os) (started : os.Started) (H : Type) (enc : TypeId × Value → H) (F : Stop.Interp) :
    ReturnsInHanded {} Tryz.checked os 11 .any ((OpenSpec.ofChange Rows.allocNobodySpec).preRow enc Tryz.prog Tryz.f11 Rows.allocNobodyRow.domain false Rows.allocNobodyRow.laid) (((OpenSpec.ofChange Rows.allocNobodySpec).at F).post enc Tryz.prog Tryz.f11 false true false false) := by
  obtain ⟨places, hx⟩ := reads os enc
  refine returnsInHanded_of_row (C := Tryz.checked) (s := (OpenSpec.ofChange Rows.allocNobodySpec)) own started (by kernel_rfl) Tryz.func11
    (witness_row_at (enc := enc) (C := Tryz.checked) false (laidWorld os) #[.int .i64 0, .int .i64 0, .int .i64 0] rfl (by kernel_rfl) (by kernel_rfl) (by kernel_rfl)
      (OpenSpec.preRow_of_cond 8 hx (by kernel_rfl) (fun k hk => by cases hk) (by kernel_rfl) (laid_met os))) ?_
  intro W base args ds gs before hval hW _ hcond hsz hL _ _
  exact contract H enc W base args ds gs before hval hW hsz hL
theorem closed_h1 : Jf.j1 Tryz.prog Tryz.f11 ((OpenSpec.ofChange Rows.allocNobodySpec)).bare Rows.allocNobodyRow = true := by kernel_rfl
theorem closed_h2 : Jf.j2 Tryz.prog Tryz.f11 ((OpenSpec.ofChange Rows.allocNobodySpec)).bare Rows.allocNobodyRow = true := by kernel_rfl
theorem closed_h3 : Jf.j3 Tryz.prog Tryz.f11 ((OpenSpec.ofChange Rows.allocNobodySpec)).bare Rows.allocNobodyRow = true := by kernel_rfl
theorem closed_h4 : Jf.j4 Tryz.prog Rows.allocNobodyRow = true := by kernel_rfl
theorem closed_h5 : Jf.j5 Tryz.prog Tryz.f11 Rows.allocNobodyRow = true := by kernel_rfl
theorem closed_h6 : Jf.j6 Tryz.prog Tryz.f11 ((OpenSpec.ofChange Rows.allocNobodySpec)).bare Rows.allocNobodyRow = true := by kernel_rfl
theorem closed_l1 : laidOutB Tryz.prog = true := by kernel_rfl
theorem closed_l2 : mapsRowed Tryz.prog = true := by kernel_rfl
theorem closed_l3 : Tryz.prog.stopsHeard = true := by kernel_rfl
theorem closed_l4 : Tryz.prog.mayEnter = true := by kernel_rfl
theorem closed_m1 : (Rows.allocNobodyRow.inPlace == Tryz.prog.inPlace 11) = true := by kernel_rfl
theorem closed_m2 : (Rows.allocNobodyRow.unfollowed == Tryz.prog.unfollowed 11) = true := by kernel_rfl
theorem closed_m3 : (Rows.allocNobodyRow.recurses == Tryz.prog.recurses 11) = true := by kernel_rfl
theorem closed_m4 : (Rows.allocNobodyRow.named == Tryz.prog.varsNamed 11) = true := by kernel_rfl
theorem closed : joinedFacts Tryz.pinned.checked.prog 11 Tryz.f11 ((OpenSpec.ofChange Rows.allocNobodySpec)).bare Rows.allocNobodyRow = true :=
  Jf.joined_of closed_h1 closed_h2 closed_h3 closed_h4 closed_h5 closed_h6 closed_l1 closed_l2 closed_l3 closed_l4 closed_m1 closed_m2 closed_m3 closed_m4
theorem said : Rows.AllocNobodySaid :=
  OpenClaim.holds_of_cond 11 Tryz.f11 rfl rfl rfl rfl rfl rfl rfl ⟨rfl, rfl, rfl, rfl, rfl⟩ rfl rfl rfl rfl rfl (by kernel_rfl) Tryz.func11 closed
    (of_decide_eq_true (by kernel_rfl)) (by unfold Func.isWrapper; first | (rw [if_pos (by decide +kernel)]; kernel_rfl) | (rw [if_neg (by decide +kernel)]; exact ⟨rfl, rfl⟩))
    (fun os started H enc _ F => by rw [OpenClaim.pre_eq_preRow]; exact lifted os started H enc F)
theorem plain (f : FuncId) (fn : Func) (hf : Tryz.pinned.checked.prog.funcNamed "ashlar/ashlarlaw12.AllocNobody" = some f) (hfn : Tryz.pinned.checked.prog.funcs[f]? = some fn) :
    false = Tryz.pinned.checked.prog.looks [] ∧ ∀ (j : Nat) t, fn.params[j]? = some t → Tryz.pinned.checked.prog.wantsStandIn t = false := by
  obtain rfl : f = 11 := Option.some.inj ((show Tryz.prog.funcNamed "ashlar/ashlarlaw12.AllocNobody" = some 11 by kernel_rfl).symm.trans hf) |>.symm
  obtain rfl : fn = Tryz.f11 := (Option.some.inj (Tryz.func11.symm.trans hfn)).symm
  refine ⟨by kernel_rfl, fun j t ht => ?_⟩
  rw [Tryz.params11] at ht
  have hm : t ∈ [3, 3, 3] := by simpa using Array.mem_of_getElem? ht
  have hall : ([3, 3, 3].all fun u => !Tryz.prog.wantsStandIn u) = true := by kernel_rfl
  exact (show Tryz.prog.wantsStandIn t = false by simpa using List.all_eq_true.1 hall t hm)

/-- ████ THE CARD ████ -/
theorem card : Rows.AllocNobodyCardSaid :=
  Claim7.holds_tied_plain_at .later [] _ _ _ _ said (fun _ h => by cases h) (by kernel_rfl) (fun _ h => by cases h) allocNobody_row_tie rfl ⟨rfl, rfl⟩ (by kernel_rfl) rfl plain (by kernel_rfl)
end Go.Proofs.YtcnjpmcelihknaaGreatDoor.U.allocNobody
