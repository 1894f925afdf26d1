/-
  PathSlashes is true for every text and place: more slashes, where there is one, or at the end, change nothing.
  Conditions: none.
-/
import Derived.Test.YtblkfiaeifckjaaN15
namespace Go.Proofs.Ytblkfiaeifckjaa.pathSlashes
open Go.ChangeShapes Go.WideShapes Go.ChangeAt Go.RowKit

set_option maxRecDepth 100000 in
set_option maxHeartbeats 2000000 in
theorem walk {w : World} (s : ByteArray) (hs : s.size ≤ 140737488351232) (at_ : Int) (ha1 : -9223372036854775808 ≤ at_) (ha2 : at_ ≤ 9223372036854775807) :
    Calls Try.prog 7 #[.string s, .int .i64 at_] w fun e w' => e = .returned (.bool true) ∧ Below w.heap.size w w' := by
  obtain ⟨rS, hrS⟩ : ∃ r, splitE s.data.toList = r := ⟨_, rfl⟩
  obtain ⟨eS, lS⟩ := rS
  have hSn := splitE_err_nil s.data.toList
  rw [hrS] at hSn
  dsimp only at hSn
  have HS := Lib.hid (fun w => split_eq s _ w (by omega) hrS)
  go_enter Try.func7, Try.ntmps7
  go_wp2_with (fail)
  refine (HS.out _).mono ?_
  rintro e w1 ⟨A1, c1, rfl, hc1, r1, hb1⟩
  go_wp2_with (fail)
  refine (lives _).mono ?_
  rintro e w2 ⟨rfl, hb2⟩
  have HB := Lib.hid (hb1.trans (hb2.mono hb1.size))
  have R1 := Lib.hid (r1.below hb2)
  have hb12 := Lib.hid hb2
  clear hb1 hb2 r1
  by_cases he : eS = 0
  · subst he
    by_cases h0 : at_ < 0
    · go_wp2
      go_ret
      exact ⟨rfl, HB.out⟩
    · obtain ⟨i, rfl⟩ : ∃ i : Nat, at_ = (i : Int) := ⟨at_.toNat, by omega⟩
      by_cases hi : i < s.size
      · obtain ⟨b, hb⟩ : ∃ b, s[i]'hi = b := ⟨_, rfl⟩
        have hiz : ¬ (s.size : Int) ≤ (i : Int) := by omega
        have hiz2 : (i : Int) < (s.size : Int) := by omega
        have hbl : s.data.toList[i]? = some b := by rw [← hb]; exact Lib.data_getElem? s i hi
        by_cases h47 : b = 47
        · subst h47
          by_cases h253 : 253 < s.size
          · have hz : (253 : Int) < (s.size : Int) := by omega
            go_wp2
            go_ret
            exact ⟨rfl, HB.out⟩
          · have hz : ¬ (253 : Int) < (s.size : Int) := by omega
            have hz2 : (s.size : Int) ≤ 253 := by omega
            have hsl := Lib.hid (split_slashes hrS hbl (by rw [← Lib.size_eq]; omega))
            have hT : (s.extract 0 i ++ ⟨#[47]⟩ ++ s.extract i s.size ++ ⟨#[47]⟩ : ByteArray).data.toList = s.data.toList.take i ++ [47] ++ s.data.toList.drop i ++ [47] := by
              rw [extract_front, extract_behind]
              simp only [ByteArray.data_append, Array.toList_append]
            have hTs : (s.extract 0 i ++ ⟨#[47]⟩ ++ s.extract i s.size ++ ⟨#[47]⟩ : ByteArray).size ≤ 255 := by
              rw [Lib.size_eq, hT]
              have h1 := Lib.size_eq s
              simp only [List.length_append, List.length_take, List.length_drop, List.length_cons, List.length_nil]
              omega
            have H2 := Lib.hid (fun w => split_eq (s.extract 0 i ++ ⟨#[47]⟩ ++ s.extract i s.size ++ ⟨#[47]⟩) (0, lS) w (by omega) (by rw [hT]; exact hsl.out))
            clear hT hTs
            have hlS : lS.length ≤ 9223372036854775807 := by
              obtain ⟨r, hj, _, _⟩ := split_join hrS
              have := (joinE_fine hj).2.1
              omega
            go_wp2
            go_region_with (go_at_call 13; refine (H2.out _).mono ?_; rintro e w3 ⟨A3, c3, rfl, hc3, r3, hb3⟩)
            all_goals
              have R1' := R1.out.below ((drew_below _).trans (hb3.mono hb12.out.size))
              have HB3 := Lib.hid (HB.out.trans ((drew_below _).trans (hb3.mono HB.out.size)))
              clear hb3
              go_wp2_with (fail)
              refine (refSame A1 A3 _ _ c1 c3 lS lS _ _ _ R1' r3 hlS).mono ?_
              rintro e w4 ⟨rfl, q4, rfl⟩
              rw [show decide (lS = lS) = true from decide_eq_true rfl]
              go_wp2
              go_ret
              exact ⟨rfl, HB3.out.trans (drew_below _)⟩
        · have hne : ((b.toNat : Int) == 47) = false := byte_ne h47
          go_wp2
          all_goals (try (have h9 : b.toNat = 47 := (by omega); exact absurd (UInt8.toNat_inj.1 (show b.toNat = (47 : UInt8).toNat from h9)) h47))
          go_ret
          exact ⟨rfl, HB.out⟩
      · have hiz : (s.size : Int) ≤ (i : Int) := by omega
        go_wp2
        go_ret
        exact ⟨rfl, HB.out⟩
  · have hze : (eS != 0) = true := bne_iff_ne.2 he
    have hze2 : (eS == 0) = false := beq_eq_false_iff_ne.2 he
    have hl0 := hSn he
    subst hl0
    go_wp2
    go_ret
    exact ⟨rfl, HB.out⟩
set_option maxRecDepth 100000 in
/-- WHAT THE WALK GIVES, FOR EVERY ARGUMENT AND EVERY WORLD THAT HOLDS THE TABLES. -/
theorem contract (H : Type) (enc : TypeId × Value → H) (W : World) (base : Nat) (args : Array Value) (ds gs : List (DataW H)) (before : List MemPlace)
    (hval : ∀ (j : Nat) t v, Try.f7.params[j]? = some t → args[j]? = some v → Value.okWide Try.prog W .any base t v)
    (hW : DataW.Whole enc Try.prog Try.f7.params.toList Rows.pathSlashesSpec.vars false W args.toList ds gs before)
    (hsz : (DataW.weightsEach Try.prog (Try.f7.params.toList ++ (OpenSpec.ofChange Rows.pathSlashesSpec).bare.plain.varTypes Try.prog) (ds ++ gs)).all (· ≤ reachBytes) = true) (_hL : laidMetH Try.prog laidBoth W) :
    Calls Try.prog 7 args W fun e W' => ∃ v, e = .returned v ∧ Rows.pathSlashesSpec.post enc Try.prog Try.f7 false true false false W args v W' := by
  have hW' := hW
  obtain ⟨p, q, hA0, hV, rfl, hfz, hnd⟩ := hW
  have hA : DataW.TrodAll enc Try.prog W 0 (fun _ => true) true Try.f7.params.toList args.toList ds p := hA0
  have hsz2 : (DataW.weightsEach Try.prog (Try.f7.params.toList ++ []) (ds ++ gs)).all (· ≤ reachBytes) = true := hsz
  rw [Try.params7] at hA hval hsz2
  obtain ⟨v0, vs0, d0, ds0, p0, q0, hargs, rfl, rfl, h0, r0⟩ := trodAll_cons hA
  obtain ⟨v1, vs1, d1, ds1, p1, q1, rfl, rfl, rfl, h1, r1⟩ := trodAll_cons r0
  obtain ⟨rfl, rfl, rfl⟩ := trodAll_nil r1
  obtain rfl : args = #[v0, v1] := by cases args; simp_all
  obtain ⟨rfl, rfl⟩ := trodVars_none hV
  have hw0 : ∀ m ∈ d0.weights Try.prog 9, m ≤ reachBytes := fun m hm => by simpa using List.all_eq_true.1 hsz2 m (DataW.weights_mem_each (j := 0) (t := 9) rfl rfl m hm)
  obtain ⟨s0, rfl, rfl, rfl, b0⟩ := str_in (hval 0 9 v0 rfl rfl) h0 hw0
  obtain ⟨a1, rfl, rfl, rfl, w1⟩ := open_int Try.underlying3 (hval 1 3 v1 rfl rfl) h1
  have bd1 := bounds_i64 w1
  refine (walk s0 b0 a1 bd1.1 bd1.2).mono fun e W' ⟨he, bel⟩ => ?_
  subst he
  exact ⟨_, rfl, _, _, _, [], _, [], hW', trodAll_mk1 (shut_bool Try.underlying4 _), (trodAll_cons_mk (shut_str b0) (trodAll_cons_mk (shut_int Try.underlying3 w1) trodAll_mk0)), rfl, bel.frame _, fun h => by cases h⟩

theorem laid_met (os : Os) : laidMetH Try.prog laidBoth ((laidWorld os).forCall (fun _ _ => 0) ⟨#[], #[.string ⟨#[]⟩, .int .i64 0], []⟩).memory :=
  laidMetH_of_parts3 (fuel := 8) (laidMet_of_run' 8 (by kernel_rfl) (by kernel_rfl)) (by kernel_rfl) (by kernel_rfl)
theorem reads (os : Os) {H : Type} (enc : TypeId × Value → H) : ∃ places, DataW.whole enc Try.prog ((laidWorld os).forCall (fun _ _ => 0) ⟨#[], #[.string ⟨#[]⟩, .int .i64 0], []⟩).memory Try.f7.params.toList Rows.pathSlashesSpec.vars false (#[.string ⟨#[]⟩, .int .i64 0] : Array Value).toList 8 = some ([.lit (.string []), .lit (.int .i64 0)], [], places) :=
  ⟨[], by kernel_rfl⟩
set_option maxRecDepth 100000 in
theorem lifted (os : Os) (started : os.Started) (H : Type) (enc : TypeId × Value → H) (F : Stop.Interp) :
    ReturnsInHanded {} Try.checked os 7 .any ((OpenSpec.ofChange Rows.pathSlashesSpec).preRow enc Try.prog Try.f7 Rows.pathSlashesRow.domain false Rows.pathSlashesRow.laid) (((OpenSpec.ofChange Rows.pathSlashesSpec).at F).post enc Try.prog Try.f7 false true false false) := by
  obtain ⟨places, hx⟩ := reads os enc
  refine returnsInHanded_of_row (C := Try.checked) (s := (OpenSpec.ofChange Rows.pathSlashesSpec)) own started (by kernel_rfl) Try.func7
    (witness_row_at (enc := enc) (C := Try.checked) false (laidWorld os) #[.string ⟨#[]⟩, .int .i64 0] rfl (by kernel_rfl) (by kernel_rfl) (by kernel_rfl)
      (OpenSpec.preRow_of_cond 8 hx (by kernel_rfl) (fun k hk => by cases hk) (by kernel_rfl) (laid_met os))) ?_
  intro W base args ds gs before hval hW _ hcond hsz hL _ _
  exact contract H enc W base args ds gs before hval hW hsz hL
theorem said : Rows.PathSlashesSaid :=
  OpenClaim.holds_of_cond 7 Try.f7 rfl rfl rfl rfl rfl rfl rfl ⟨rfl, rfl, rfl, rfl, rfl⟩ rfl rfl rfl rfl rfl (by kernel_rfl) Try.func7 (by kernel_rfl)
    (of_decide_eq_true (by kernel_rfl)) (by unfold Func.isWrapper; first | (rw [if_pos (by decide +kernel)]; kernel_rfl) | (rw [if_neg (by decide +kernel)]; exact ⟨rfl, rfl⟩))
    (fun os started H enc _ F => by rw [OpenClaim.pre_eq_preRow]; exact lifted os started H enc F)
end Go.Proofs.Ytblkfiaeifckjaa.pathSlashes
