/-
  CacheNobody: the walk, and its card.
  Conditions: the tables hold what the program's text lays.
-/
import Derived.Test.YtggpollcjdbmdaaGreatDoorZ39
namespace Go.Proofs.YtggpollcjdbmdaaGreatDoor.U.cacheNobody
open Go.ChangeShapes Go.WideShapes Go.ChangeAt Go.RowKit Go.Maps

set_option maxRecDepth 100000 in
set_option maxHeartbeats 8000000 in
theorem walk {w : World} (bl : Int) (_ : -9223372036854775808 ≤ bl) (_ : bl ≤ 9223372036854775807) (A : Option Addr) (m c : Nat) (l : List Nat) (_ : Small l) (_ : Reads w w.heap.size A m (bts l)) (_ : m ≤ 140737488351232) (mo : Int) (_ : -9223372036854775808 ≤ mo) (_ : mo ≤ 9223372036854775807) (hA : All10 w) :
    Calls Tryz.prog 9 #[.int .i64 bl, .slice A m c, .int .i64 mo] w fun e w' => e = .returned (.bool true) ∧ Below w.heap.size w w' := by
  have HV := Lib.hid (volume_any hA)
  have HA := Lib.hid hA
  clear hA
  go_enter Tryz.func9, Tryz.ntmps9
  go_wp2_with fail
  refine HV.out.mono ?_
  rintro e w1 ⟨J, x0, p, rfl, hG, hI, hcont, hB, hW⟩
  have hN : ar10.St * (ar10.M - 1) ≤ 1073741824 := by decide
  have HB := Lib.hid (And.intro hB hW)
  by_cases hr : 1 ≤ mo ∧ mo ≤ 1024
  · obtain ⟨k, rfl⟩ : ∃ k : Nat, mo = (k : Int) := ⟨mo.toNat, by omega⟩
    have HNEW := Lib.hid (show Calls Tryz.prog 27 #[.pointer (some ⟨J.v, 0, none⟩), .int .i64 (k : Int)] w1 _ from Go.Proofs.YtggpollcjdbmdaaGreatDoor.Kc.cNew (V := Hv J ar10 hG hN) (x := x0) (k := 390000) (most := k) hI (by omega) (by omega))
    have q1 : decide ((k : Int) ≥ 1) = true := by simpa using hr.1
    have q2 : decide ((k : Int) ≤ 1024) = true := by simpa using hr.2
    clear hI HV hcont hB hW hr
    generalize hkm : (k : Int) = km at *
    clear hkm
    go_wp2_with fail
    refine HNEW.out.mono ?_
    rintro e w2 ⟨g, rfl, hc, _⟩
    have hbel := (hc.vol : IsR J ar10 w2 x0 390000).vr.bel
    rw [HB.out.1, HB.out.2] at hbel
    have HBL := Lib.hid hbel
    have HL := Lib.hid (lives10 (HA.out.over hbel))
    clear hc hbel HNEW
    go_wp2_with fail
    refine (Go.Proofs.YtggpollcjdbmdaaGreatDoor.Kc.cNew_no none 5 w2 (.inl rfl)).mono ?_
    rintro e w2' ⟨rfl, rfl⟩
    go_wp2_with fail
    refine (Go.Proofs.YtggpollcjdbmdaaGreatDoor.Kc.cGet_nil bl w2).mono ?_
    rintro e w2' ⟨rfl, rfl⟩
    go_wp2_with fail
    refine HL.out.mono ?_
    rintro e w3 ⟨rfl, hb3⟩
    have HB3 := Lib.hid hb3
    clear hb3 HL
    go_wp2_with fail
    refine (Go.Proofs.YtggpollcjdbmdaaGreatDoor.Kc.cPut_nil bl A m c w3).mono ?_
    rintro e w3' ⟨rfl, rfl⟩
    go_wp2_with fail
    refine (Go.Proofs.YtggpollcjdbmdaaGreatDoor.Kc.cPin_nil bl w3).mono ?_
    rintro e w3' ⟨rfl, rfl⟩
    go_wp2_with fail
    refine (Go.Proofs.YtggpollcjdbmdaaGreatDoor.Kc.cUnpin_nil bl w3).mono ?_
    rintro e w3' ⟨rfl, rfl⟩
    go_wp2_with fail
    refine (Go.Proofs.YtggpollcjdbmdaaGreatDoor.Kc.cFlush_nil w3).mono ?_
    rintro e w3' ⟨rfl, rfl⟩
    go_wp2_with fail
    refine (Go.Proofs.YtggpollcjdbmdaaGreatDoor.Kc.cBlocks_nil w3).mono ?_
    rintro e w3' ⟨rfl, rfl⟩
    go_wp2_with fail
    refine (Go.Proofs.YtggpollcjdbmdaaGreatDoor.Kc.cDirty_nil w3).mono ?_
    rintro e w3' ⟨rfl, rfl⟩
    go_wp2_with fail
    refine (Go.Proofs.YtggpollcjdbmdaaGreatDoor.Kc.cVolume_nil w3).mono ?_
    rintro e w3' ⟨rfl, rfl⟩
    go_wp2
    go_ret
    exact ⟨rfl, HBL.out.trans (HB3.out.mono HBL.out.size)⟩
  · have HNEW := Lib.hid (Go.Proofs.YtggpollcjdbmdaaGreatDoor.Kc.cNew_no (some ⟨J.v, 0, none⟩) mo w1 (.inr (by omega)))
    have hbel := hI.vr.bel
    rw [HB.out.1, HB.out.2] at hbel
    have HBL := Lib.hid hbel
    have HL := Lib.hid (lives10 (HA.out.over hbel))
    clear hI HV hcont hB hW hbel
    by_cases h1 : 1 ≤ mo
    · have q1 : decide (mo ≥ 1) = true := by simpa using h1
      have q2 : decide (mo ≤ 1024) = false := by simp; omega
      clear hr h1
      go_wp2_with fail
      refine HNEW.out.mono ?_
      rintro e w1' ⟨rfl, rfl⟩
      go_wp2_with fail
      refine (Go.Proofs.YtggpollcjdbmdaaGreatDoor.Kc.cNew_no none 5 w1 (.inl rfl)).mono ?_
      rintro e w1' ⟨rfl, rfl⟩
      go_wp2_with fail
      refine (Go.Proofs.YtggpollcjdbmdaaGreatDoor.Kc.cGet_nil bl w1).mono ?_
      rintro e w1' ⟨rfl, rfl⟩
      go_wp2_with fail
      refine HL.out.mono ?_
      rintro e w3 ⟨rfl, hb3⟩
      have HB3 := Lib.hid hb3
      clear hb3 HL
      go_wp2_with fail
      refine (Go.Proofs.YtggpollcjdbmdaaGreatDoor.Kc.cPut_nil bl A m c w3).mono ?_
      rintro e w3' ⟨rfl, rfl⟩
      go_wp2_with fail
      refine (Go.Proofs.YtggpollcjdbmdaaGreatDoor.Kc.cPin_nil bl w3).mono ?_
      rintro e w3' ⟨rfl, rfl⟩
      go_wp2_with fail
      refine (Go.Proofs.YtggpollcjdbmdaaGreatDoor.Kc.cUnpin_nil bl w3).mono ?_
      rintro e w3' ⟨rfl, rfl⟩
      go_wp2_with fail
      refine (Go.Proofs.YtggpollcjdbmdaaGreatDoor.Kc.cFlush_nil w3).mono ?_
      rintro e w3' ⟨rfl, rfl⟩
      go_wp2_with fail
      refine (Go.Proofs.YtggpollcjdbmdaaGreatDoor.Kc.cBlocks_nil w3).mono ?_
      rintro e w3' ⟨rfl, rfl⟩
      go_wp2_with fail
      refine (Go.Proofs.YtggpollcjdbmdaaGreatDoor.Kc.cDirty_nil w3).mono ?_
      rintro e w3' ⟨rfl, rfl⟩
      go_wp2_with fail
      refine (Go.Proofs.YtggpollcjdbmdaaGreatDoor.Kc.cVolume_nil w3).mono ?_
      rintro e w3' ⟨rfl, rfl⟩
      go_wp2
      go_ret
      exact ⟨rfl, HBL.out.trans (HB3.out.mono HBL.out.size)⟩
    · have q1 : decide (mo ≥ 1) = false := by simpa using h1
      clear hr h1
      go_wp2_with fail
      refine HNEW.out.mono ?_
      rintro e w1' ⟨rfl, rfl⟩
      go_wp2_with fail
      refine (Go.Proofs.YtggpollcjdbmdaaGreatDoor.Kc.cNew_no none 5 w1 (.inl rfl)).mono ?_
      rintro e w1' ⟨rfl, rfl⟩
      go_wp2_with fail
      refine (Go.Proofs.YtggpollcjdbmdaaGreatDoor.Kc.cGet_nil bl w1).mono ?_
      rintro e w1' ⟨rfl, rfl⟩
      go_wp2_with fail
      refine HL.out.mono ?_
      rintro e w3 ⟨rfl, hb3⟩
      have HB3 := Lib.hid hb3
      clear hb3 HL
      go_wp2_with fail
      refine (Go.Proofs.YtggpollcjdbmdaaGreatDoor.Kc.cPut_nil bl A m c w3).mono ?_
      rintro e w3' ⟨rfl, rfl⟩
      go_wp2_with fail
      refine (Go.Proofs.YtggpollcjdbmdaaGreatDoor.Kc.cPin_nil bl w3).mono ?_
      rintro e w3' ⟨rfl, rfl⟩
      go_wp2_with fail
      refine (Go.Proofs.YtggpollcjdbmdaaGreatDoor.Kc.cUnpin_nil bl w3).mono ?_
      rintro e w3' ⟨rfl, rfl⟩
      go_wp2_with fail
      refine (Go.Proofs.YtggpollcjdbmdaaGreatDoor.Kc.cFlush_nil w3).mono ?_
      rintro e w3' ⟨rfl, rfl⟩
      go_wp2_with fail
      refine (Go.Proofs.YtggpollcjdbmdaaGreatDoor.Kc.cBlocks_nil w3).mono ?_
      rintro e w3' ⟨rfl, rfl⟩
      go_wp2_with fail
      refine (Go.Proofs.YtggpollcjdbmdaaGreatDoor.Kc.cDirty_nil w3).mono ?_
      rintro e w3' ⟨rfl, rfl⟩
      go_wp2_with fail
      refine (Go.Proofs.YtggpollcjdbmdaaGreatDoor.Kc.cVolume_nil w3).mono ?_
      rintro e w3' ⟨rfl, rfl⟩
      go_wp2
      go_ret
      exact ⟨rfl, HBL.out.trans (HB3.out.mono HBL.out.size)⟩
set_option maxRecDepth 100000 in
/-- WHAT THE WALK GIVES, FOR EVERY ARGUMENT AND EVERY WORLD THAT HOLDS THE TABLES. -/
theorem contract (H : Type) (enc : TypeId × Value → H) (W : World) (base : Nat) (args : Array Value) (ds gs : List (DataW H)) (before : List MemPlace)
    (hval : ∀ (j : Nat) t v, Tryz.f9.params[j]? = some t → args[j]? = some v → Value.okWide Tryz.prog W .any base t v)
    (hW : DataW.Whole enc Tryz.prog Tryz.f9.params.toList Rows.cacheNobodySpec.vars false W args.toList ds gs before)
    (hsz : (DataW.weightsEach Tryz.prog (Tryz.f9.params.toList ++ (OpenSpec.ofChange Rows.cacheNobodySpec).bare.plain.varTypes Tryz.prog) (ds ++ gs)).all (· ≤ reachBytes) = true) (hL : laidMetH Tryz.prog laidBoth W) :
    Calls Tryz.prog 9 args W fun e W' => ∃ v, e = .returned v ∧ Rows.cacheNobodySpec.post enc Tryz.prog Tryz.f9 false true false false W args v W' := by
  have hW' := hW
  obtain ⟨p, q, hA0, hV, rfl, hfz, hnd⟩ := hW
  have hA : DataW.TrodAll enc Tryz.prog W 0 (fun _ => true) true Tryz.f9.params.toList args.toList ds p := hA0
  have hsz2 : (DataW.weightsEach Tryz.prog (Tryz.f9.params.toList ++ []) (ds ++ gs)).all (· ≤ reachBytes) = true := hsz
  rw [Tryz.params9] at hA hval hsz2
  obtain ⟨v0, vs0, d0, ds0, p0, q0, hargs, rfl, rfl, h0, r0⟩ := trodAll_cons hA
  obtain ⟨v1, vs1, d1, ds1, p1, q1, rfl, rfl, rfl, h1, r1⟩ := trodAll_cons r0
  obtain ⟨v2, vs2, d2, ds2, p2, q2, rfl, rfl, rfl, h2, r2⟩ := trodAll_cons r1
  obtain ⟨rfl, rfl, rfl⟩ := trodAll_nil r2
  obtain rfl : args = #[v0, v1, v2] := by cases args; simp_all
  obtain ⟨rfl, rfl⟩ := trodVars_none hV
  obtain ⟨a0, rfl, rfl, rfl, w0⟩ := open_int Tryz.underlying3 (hval 0 3 v0 rfl rfl) h0
  have bd0 := bounds_i64 w0
  obtain ⟨A1, n1, c1, rfl⟩ := okWide_slice Tryz.underlying40 (hval 1 40 v1 rfl rfl)
  have k1 := h1
  have lt1 : ∀ x ∈ p1, x.block < W.heap.size := by obtain ⟨m, hm⟩ := k1; exact DataW.trod_lt m _ _ _ hm
  obtain ⟨l1, sl1, rd1, nc1, _, dd1⟩ : ∃ l, Small l ∧ Reads W W.heap.size A1 n1 (bts l) ∧ n1 ≤ c1 ∧ c1 ≤ maxLen ∧ ((d1 = .nil ∧ c1 = 0) ∨ ∃ es sp, d1 = .slice es sp ∧ es.length + sp.length = c1) := by obtain ⟨fuel, hf⟩ := h1; exact bytes_in (by simpa [Value.cells] using hf)
  have b1 : n1 ≤ 140737488351232 := by
    rcases dd1 with ⟨_, hc0⟩ | ⟨es, sp, hd, hc0⟩
    · omega
    · have := sized_slice (P := Tryz.prog) hsz2 (j := 1) (t := 40) (e := 5) rfl (by rw [hd]; rfl) Tryz.underlying40
      rw [bytesU8] at this; simp only [reachBytes] at this; omega
  obtain ⟨a2, rfl, rfl, rfl, w2⟩ := open_int Tryz.underlying3 (hval 2 3 v2 rfl rfl) h2
  have bd2 := bounds_i64 w2
  have hT := tabs_of_laid hL
  refine (walk a0 bd0.1 bd0.2 A1 n1 c1 l1 sl1 rd1 b1 a2 bd2.1 bd2.2 hT).mono fun e W' ⟨he, bel⟩ => ?_
  subst he
  exact ⟨_, rfl, _, _, _, [], _, [], hW', trodAll_mk1 (shut_bool Tryz.underlying4 _), (trodAll_cons_mk (shut_int Tryz.underlying3 w0) (trodAll_cons_mk (Below.trod laidOut (by kernel_rfl) (of_decide_eq_true (by kernel_rfl)) k1 bel lt1) (trodAll_cons_mk (shut_int Tryz.underlying3 w2) trodAll_mk0))), rfl, bel.frame _, fun h => by cases h⟩

theorem laid_met (os : Os) : laidMetH Tryz.prog laidBoth ((laidWorld os).forCall (fun _ _ => 0) ⟨#[], #[.int .i64 0, .slice none 0 0, .int .i64 0], []⟩).memory :=
  laidMetH_of_parts3 (fuel := 8) (laidMet_of_run' 8 (by kernel_rfl) (by kernel_rfl)) (by kernel_rfl) (by kernel_rfl)
theorem reads (os : Os) {H : Type} (enc : TypeId × Value → H) : ∃ places, DataW.whole enc Tryz.prog ((laidWorld os).forCall (fun _ _ => 0) ⟨#[], #[.int .i64 0, .slice none 0 0, .int .i64 0], []⟩).memory Tryz.f9.params.toList Rows.cacheNobodySpec.vars false (#[.int .i64 0, .slice none 0 0, .int .i64 0] : Array Value).toList 8 = some ([.lit (.int .i64 0), .nil, .lit (.int .i64 0)], [], places) :=
  ⟨[], by kernel_rfl⟩
set_option maxRecDepth 100000 in
theorem lifted (os : Os) (started : os.Started) (H : Type) (enc : TypeId × Value → H) (F : Stop.Interp) :
    ReturnsInHanded {} Tryz.checked os 9 .any ((OpenSpec.ofChange Rows.cacheNobodySpec).preRow enc Tryz.prog Tryz.f9 Rows.cacheNobodyRow.domain false Rows.cacheNobodyRow.laid) (((OpenSpec.ofChange Rows.cacheNobodySpec).at F).post enc Tryz.prog Tryz.f9 false true false false) := by
  obtain ⟨places, hx⟩ := reads os enc
  refine returnsInHanded_of_row (C := Tryz.checked) (s := (OpenSpec.ofChange Rows.cacheNobodySpec)) own started (by kernel_rfl) Tryz.func9
    (witness_row_at (enc := enc) (C := Tryz.checked) false (laidWorld os) #[.int .i64 0, .slice none 0 0, .int .i64 0] rfl (by kernel_rfl) (by kernel_rfl) (by kernel_rfl)
      (OpenSpec.preRow_of_cond 8 hx (by kernel_rfl) (fun k hk => by cases hk) (by kernel_rfl) (laid_met os))) ?_
  intro W base args ds gs before hval hW _ hcond hsz hL _ _
  exact contract H enc W base args ds gs before hval hW hsz hL
theorem said : Rows.CacheNobodySaid :=
  OpenClaim.holds_of_cond 9 Tryz.f9 rfl rfl rfl rfl rfl rfl rfl ⟨rfl, rfl, rfl, rfl, rfl⟩ rfl rfl rfl rfl rfl (by kernel_rfl) Tryz.func9 (by kernel_rfl)
    (of_decide_eq_true (by kernel_rfl)) (by unfold Func.isWrapper; first | (rw [if_pos (by decide +kernel)]; kernel_rfl) | (rw [if_neg (by decide +kernel)]; exact ⟨rfl, rfl⟩))
    (fun os started H enc _ F => by rw [OpenClaim.pre_eq_preRow]; exact lifted os started H enc F)
theorem plain (f : FuncId) (fn : Func) (hf : Tryz.pinned.checked.prog.funcNamed "ashlar/ashlarlaw10.CacheNobody" = some f) (hfn : Tryz.pinned.checked.prog.funcs[f]? = some fn) :
    false = Tryz.pinned.checked.prog.looks [] ∧ ∀ (j : Nat) t, fn.params[j]? = some t → Tryz.pinned.checked.prog.wantsStandIn t = false := by
  obtain rfl : f = 9 := Option.some.inj ((show Tryz.prog.funcNamed "ashlar/ashlarlaw10.CacheNobody" = some 9 by kernel_rfl).symm.trans hf) |>.symm
  obtain rfl : fn = Tryz.f9 := (Option.some.inj (Tryz.func9.symm.trans hfn)).symm
  refine ⟨by kernel_rfl, fun j t ht => ?_⟩
  rw [Tryz.params9] at ht
  have hm : t ∈ [3, 40, 3] := by simpa using Array.mem_of_getElem? ht
  have hall : ([3, 40, 3].all fun u => !Tryz.prog.wantsStandIn u) = true := by kernel_rfl
  exact (show Tryz.prog.wantsStandIn t = false by simpa using List.all_eq_true.1 hall t hm)

/-- ████ THE CARD ████ -/
theorem card : Rows.CacheNobodyCardSaid :=
  Claim7.holds_tied_plain_at .later [] _ _ _ _ said (fun _ h => by cases h) (by kernel_rfl) (fun _ h => by cases h) cacheNobody_row_tie rfl ⟨rfl, rfl⟩ (by kernel_rfl) rfl plain (by kernel_rfl)
end Go.Proofs.YtggpollcjdbmdaaGreatDoor.U.cacheNobody
