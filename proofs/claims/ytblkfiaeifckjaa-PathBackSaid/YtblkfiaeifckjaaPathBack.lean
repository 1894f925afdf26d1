/-
  PathBack is true for all texts: the names of a path that was joined are these; a path that was split, joined and split again has the same names.
  Conditions: none.
-/
import Derived.Test.YtblkfiaeifckjaaN15
namespace Go.Proofs.Ytblkfiaeifckjaa.pathBack
open Go.ChangeShapes Go.WideShapes Go.ChangeAt Go.RowKit

set_option maxRecDepth 100000 in
set_option maxHeartbeats 2000000 in
theorem walk {w : World} (A0 : Option Addr) (n0 c0 : Nat) (l0 : List Bs) (r0 : Reads w w.heap.size A0 n0 (svs l0)) (f0 : Fine l0) (b0 : n0 * 16 ≤ 140737488351232) (nc0 : n0 ≤ c0) (s : ByteArray) (hs : s.size ≤ 140737488351232) :
    Calls Try.prog 6 #[.slice A0 n0 c0, .string s] w fun e w' => e = .returned (.bool true) ∧ Below w.heap.size w w' := by
  have HJ := Lib.hid (join A0 n0 c0 l0 w r0 f0 (by omega) nc0)
  have R0 := Lib.hid r0
  clear r0
  obtain ⟨rJ, hrJ⟩ : ∃ r, joinE l0 = r := ⟨_, rfl⟩
  obtain ⟨eJ, pJ⟩ := rJ
  rw [hrJ] at HJ
  dsimp only at HJ
  unfold sv at HJ
  obtain ⟨P, hP⟩ : ∃ P : ByteArray, (⟨pJ.toArray⟩ : ByteArray) = P := ⟨_, rfl⟩
  have hPl : P.data.toList = pJ := by rw [← hP]
  rw [hP] at HJ
  clear hP
  go_enter Try.func6, Try.ntmps6
  go_wp2_with (fail)
  refine HJ.out.mono ?_
  rintro e w1 ⟨rfl, hb1⟩
  clear HJ
  go_wp2_with (fail)
  refine (lives _).mono ?_
  rintro e w2 ⟨rfl, hb2⟩
  have hb12 := hb1.trans (hb2.mono hb1.size)
  have R0 := Lib.hid (R0.out.below hb12)
  clear hb1 hb2
  by_cases he : eJ = 0
  · subst he
    have h1 := join_split hrJ
    rw [← hPl] at h1
    have hPs : P.size ≤ 255 := by
      rw [Lib.size_eq]
      unfold splitE at h1
      split at h1
      · cases h1
      · split at h1
        · cases h1
        · omega
    have HS := Lib.hid (fun w => split_eq P _ w (by omega) h1)
    go_wp2_with (fail)
    refine (HS.out _).mono ?_
    rintro e w3 ⟨A3, c3, rfl, hc3, r3, hb3⟩
    have R3 := Lib.hid r3
    have HB := Lib.hid (hb12.trans (hb3.mono hb12.size))
    have R0 := Lib.hid (R0.out.below (hb3.mono hb12.size))
    clear r3 hb12 hb3 HS
    go_wp2_with (fail)
    refine (refSame A3 A0 _ n0 c3 c0 l0 l0 _ _ _ R3.out R0.out (by rw [R0.out.slen]; omega)).mono ?_
    rintro e w4 ⟨rfl, q4, rfl⟩
    rw [show decide (l0 = l0) = true from decide_eq_true rfl]
    have HB := Lib.hid (HB.out.trans (drew_below q4))
    obtain ⟨W4, hW4⟩ : ∃ W4, w3.drewN q4 = W4 := ⟨_, rfl⟩
    rw [hW4] at HB ⊢
    clear hW4 R3 R0
    go_wp2_with (fail)
    obtain ⟨rS, hrS⟩ : ∃ r, splitE s.data.toList = r := ⟨_, rfl⟩
    obtain ⟨eS, lS⟩ := rS
    have hSn := splitE_err_nil s.data.toList
    rw [hrS] at hSn
    dsimp only at hSn
    by_cases he2 : eS = 0
    · subst he2
      obtain ⟨r, hj, hsr, hlen⟩ := split_join hrS
      obtain ⟨hfi, h16, h255⟩ := joinE_fine hj
      rw [← Lib.size_eq] at hlen
      obtain ⟨R, hR⟩ : ∃ R : ByteArray, (⟨r.toArray⟩ : ByteArray) = R := ⟨_, rfl⟩
      have hRl : R.data.toList = r := by rw [← hR]
      have hRs : R.size = r.length := by rw [Lib.size_eq, hRl]
      have hsr2 : splitE R.data.toList = (0, lS) := by rw [hRl]; exact hsr
      have hle : (R.size : Int) ≤ (s.size : Int) := by omega
      have hR255 : R.size ≤ 255 := by omega
      clear hRs
      refine (split_eq s _ _ (by omega) hrS).mono ?_
      rintro e w5 ⟨A5, c5, rfl, hc5, r5, hb5⟩
      have HB5 := Lib.hid (HB.out.trans (hb5.mono HB.out.size))
      have HJ2 := Lib.hid (join A5 lS.length c5 lS w5 r5 hfi (by omega) hc5)
      have R5 := Lib.hid r5
      rw [hj] at HJ2
      dsimp only at HJ2
      unfold sv at HJ2
      rw [hR] at HJ2
      clear hb5 r5 hR hRl hsr hj hlen
      go_wp2_with (fail)
      refine HJ2.out.mono ?_
      rintro e w6 ⟨rfl, hb6⟩
      have HB6 := Lib.hid (HB5.out.trans (hb6.mono HB5.out.size))
      have R5 := Lib.hid (R5.out.below hb6)
      clear HJ2
      go_wp2_with (fail)
      refine (split_eq R _ _ (by omega) hsr2).mono ?_
      rintro e w7 ⟨A7, c7, rfl, hc7, r7, hb7⟩
      have HB7 := Lib.hid (HB6.out.trans (hb7.mono HB6.out.size))
      have R5 := Lib.hid (R5.out.below (hb7.mono hb6.size))
      have R7 := Lib.hid r7
      clear hb6 hb7 r7
      go_wp2_with (fail)
      refine (refSame A5 A7 _ _ c5 c7 lS lS _ _ _ R5.out R7.out (by show lS.length ≤ _; omega)).mono ?_
      rintro e w8 ⟨rfl, q8, rfl⟩
      rw [show decide (lS = lS) = true from decide_eq_true rfl]
      go_wp2
      go_ret
      exact ⟨rfl, HB7.out.trans (drew_below _)⟩
    · have hze : (eS != 0) = true := bne_iff_ne.2 he2
      have hze2 : (eS == 0) = false := beq_eq_false_iff_ne.2 he2
      have hl0 := hSn he2
      subst hl0
      refine (split_eq s _ _ (by omega) hrS).mono ?_
      rintro e w5 ⟨A5, c5, rfl, hc5, r5, hb5⟩
      clear hc5 r5
      go_wp2
      go_ret
      exact ⟨rfl, HB.out.trans (hb5.mono HB.out.size)⟩
  · have hze : (eJ != 0) = true := bne_iff_ne.2 he
    have hze2 : (eJ == 0) = false := beq_eq_false_iff_ne.2 he
    have HB := Lib.hid hb12
    clear hb12 R0
    go_wp2_with (fail)
    obtain ⟨rS, hrS⟩ : ∃ r, splitE s.data.toList = r := ⟨_, rfl⟩
    obtain ⟨eS, lS⟩ := rS
    have hSn := splitE_err_nil s.data.toList
    rw [hrS] at hSn
    dsimp only at hSn
    by_cases he2 : eS = 0
    · subst he2
      obtain ⟨r, hj, hsr, hlen⟩ := split_join hrS
      obtain ⟨hfi, h16, h255⟩ := joinE_fine hj
      rw [← Lib.size_eq] at hlen
      obtain ⟨R, hR⟩ : ∃ R : ByteArray, (⟨r.toArray⟩ : ByteArray) = R := ⟨_, rfl⟩
      have hRl : R.data.toList = r := by rw [← hR]
      have hRs : R.size = r.length := by rw [Lib.size_eq, hRl]
      have hsr2 : splitE R.data.toList = (0, lS) := by rw [hRl]; exact hsr
      have hle : (R.size : Int) ≤ (s.size : Int) := by omega
      have hR255 : R.size ≤ 255 := by omega
      clear hRs
      refine (split_eq s _ _ (by omega) hrS).mono ?_
      rintro e w5 ⟨A5, c5, rfl, hc5, r5, hb5⟩
      have HB5 := Lib.hid (HB.out.trans (hb5.mono HB.out.size))
      have HJ2 := Lib.hid (join A5 lS.length c5 lS w5 r5 hfi (by omega) hc5)
      have R5 := Lib.hid r5
      rw [hj] at HJ2
      dsimp only at HJ2
      unfold sv at HJ2
      rw [hR] at HJ2
      clear hb5 r5 hR hRl hsr hj hlen
      go_wp2_with (fail)
      refine HJ2.out.mono ?_
      rintro e w6 ⟨rfl, hb6⟩
      have HB6 := Lib.hid (HB5.out.trans (hb6.mono HB5.out.size))
      have R5 := Lib.hid (R5.out.below hb6)
      clear HJ2
      go_wp2_with (fail)
      refine (split_eq R _ _ (by omega) hsr2).mono ?_
      rintro e w7 ⟨A7, c7, rfl, hc7, r7, hb7⟩
      have HB7 := Lib.hid (HB6.out.trans (hb7.mono HB6.out.size))
      have R5 := Lib.hid (R5.out.below (hb7.mono hb6.size))
      have R7 := Lib.hid r7
      clear hb6 hb7 r7
      go_wp2_with (fail)
      refine (refSame A5 A7 _ _ c5 c7 lS lS _ _ _ R5.out R7.out (by show lS.length ≤ _; omega)).mono ?_
      rintro e w8 ⟨rfl, q8, rfl⟩
      rw [show decide (lS = lS) = true from decide_eq_true rfl]
      go_wp2
      go_ret
      exact ⟨rfl, HB7.out.trans (drew_below _)⟩
    · have hze : (eS != 0) = true := bne_iff_ne.2 he2
      have hze2 : (eS == 0) = false := beq_eq_false_iff_ne.2 he2
      have hl0 := hSn he2
      subst hl0
      refine (split_eq s _ _ (by omega) hrS).mono ?_
      rintro e w5 ⟨A5, c5, rfl, hc5, r5, hb5⟩
      clear hc5 r5
      go_wp2
      go_ret
      exact ⟨rfl, HB.out.trans (hb5.mono HB.out.size)⟩
set_option maxRecDepth 100000 in
/-- WHAT THE WALK GIVES, FOR EVERY ARGUMENT AND EVERY WORLD THAT HOLDS THE TABLES. -/
theorem contract (H : Type) (enc : TypeId × Value → H) (W : World) (base : Nat) (args : Array Value) (ds gs : List (DataW H)) (before : List MemPlace)
    (hval : ∀ (j : Nat) t v, Try.f6.params[j]? = some t → args[j]? = some v → Value.okWide Try.prog W .any base t v)
    (hW : DataW.Whole enc Try.prog Try.f6.params.toList Rows.pathBackSpec.vars false W args.toList ds gs before)
    (hsz : (DataW.weightsEach Try.prog (Try.f6.params.toList ++ (OpenSpec.ofChange Rows.pathBackSpec).bare.plain.varTypes Try.prog) (ds ++ gs)).all (· ≤ reachBytes) = true) (_hL : laidMetH Try.prog laidBoth W) :
    Calls Try.prog 6 args W fun e W' => ∃ v, e = .returned v ∧ Rows.pathBackSpec.post enc Try.prog Try.f6 false true false false W args v W' := by
  have hW' := hW
  obtain ⟨p, q, hA0, hV, rfl, hfz, hnd⟩ := hW
  have hA : DataW.TrodAll enc Try.prog W 0 (fun _ => true) true Try.f6.params.toList args.toList ds p := hA0
  have hsz2 : (DataW.weightsEach Try.prog (Try.f6.params.toList ++ []) (ds ++ gs)).all (· ≤ reachBytes) = true := hsz
  rw [Try.params6] at hA hval hsz2
  obtain ⟨v0, vs0, d0, ds0, p0, q0, hargs, rfl, rfl, h0, r0⟩ := trodAll_cons hA
  obtain ⟨v1, vs1, d1, ds1, p1, q1, rfl, rfl, rfl, h1, r1⟩ := trodAll_cons r0
  obtain ⟨rfl, rfl, rfl⟩ := trodAll_nil r1
  obtain rfl : args = #[v0, v1] := by cases args; simp_all
  obtain ⟨rfl, rfl⟩ := trodVars_none hV
  obtain ⟨A0, n0, c0, rfl⟩ := okWide_slice Try.underlying26 (hval 0 26 v0 rfl rfl)
  have k0 := h0
  have lt0 : ∀ x ∈ p0, x.block < W.heap.size := by obtain ⟨m, hm⟩ := k0; exact DataW.trod_lt m _ _ _ hm
  have hw0 : ∀ m ∈ d0.weights Try.prog 26, m ≤ reachBytes := fun m hm => by simpa using List.all_eq_true.1 hsz2 m (DataW.weights_mem_each (j := 0) (t := 26) rfl rfl m hm)
  obtain ⟨l0, rd0, fn0, b0, nc0⟩ : ∃ l : List Bs, Reads W W.heap.size A0 n0 (svs l) ∧ Fine l ∧ n0 * 16 ≤ 140737488351232 ∧ n0 ≤ c0 := by obtain ⟨fuel, hf⟩ := h0; exact strs_in (by simpa [Value.cells] using hf) hw0
  have hw1 : ∀ m ∈ d1.weights Try.prog 9, m ≤ reachBytes := fun m hm => by simpa using List.all_eq_true.1 hsz2 m (DataW.weights_mem_each (j := 1) (t := 9) rfl rfl m hm)
  obtain ⟨s1, rfl, rfl, rfl, b1⟩ := str_in (hval 1 9 v1 rfl rfl) h1 hw1
  refine (walk A0 n0 c0 l0 rd0 fn0 b0 nc0 s1 b1).mono fun e W' ⟨he, bel⟩ => ?_
  subst he
  exact ⟨_, rfl, _, _, _, [], _, [], hW', trodAll_mk1 (shut_bool Try.underlying4 _), (trodAll_cons_mk (Below.trod laidOut (by kernel_rfl) (of_decide_eq_true (by kernel_rfl)) k0 bel lt0) (trodAll_cons_mk (shut_str b1) trodAll_mk0)), rfl, bel.frame _, fun h => by cases h⟩

theorem laid_met (os : Os) : laidMetH Try.prog laidBoth ((laidWorld os).forCall (fun _ _ => 0) ⟨#[], #[.slice none 0 0, .string ⟨#[]⟩], []⟩).memory :=
  laidMetH_of_parts3 (fuel := 8) (laidMet_of_run' 8 (by kernel_rfl) (by kernel_rfl)) (by kernel_rfl) (by kernel_rfl)
theorem reads (os : Os) {H : Type} (enc : TypeId × Value → H) : ∃ places, DataW.whole enc Try.prog ((laidWorld os).forCall (fun _ _ => 0) ⟨#[], #[.slice none 0 0, .string ⟨#[]⟩], []⟩).memory Try.f6.params.toList Rows.pathBackSpec.vars false (#[.slice none 0 0, .string ⟨#[]⟩] : Array Value).toList 8 = some ([.nil, .lit (.string [])], [], places) :=
  ⟨[], by kernel_rfl⟩
set_option maxRecDepth 100000 in
theorem lifted (os : Os) (started : os.Started) (H : Type) (enc : TypeId × Value → H) (F : Stop.Interp) :
    ReturnsInHanded {} Try.checked os 6 .any ((OpenSpec.ofChange Rows.pathBackSpec).preRow enc Try.prog Try.f6 Rows.pathBackRow.domain false Rows.pathBackRow.laid) (((OpenSpec.ofChange Rows.pathBackSpec).at F).post enc Try.prog Try.f6 false true false false) := by
  obtain ⟨places, hx⟩ := reads os enc
  refine returnsInHanded_of_row (C := Try.checked) (s := (OpenSpec.ofChange Rows.pathBackSpec)) own started (by kernel_rfl) Try.func6
    (witness_row_at (enc := enc) (C := Try.checked) false (laidWorld os) #[.slice none 0 0, .string ⟨#[]⟩] rfl (by kernel_rfl) (by kernel_rfl) (by kernel_rfl)
      (OpenSpec.preRow_of_cond 8 hx (by kernel_rfl) (fun k hk => by cases hk) (by kernel_rfl) (laid_met os))) ?_
  intro W base args ds gs before hval hW _ hcond hsz hL _ _
  exact contract H enc W base args ds gs before hval hW hsz hL
theorem said : Rows.PathBackSaid :=
  OpenClaim.holds_of_cond 6 Try.f6 rfl rfl rfl rfl rfl rfl rfl ⟨rfl, rfl, rfl, rfl, rfl⟩ rfl rfl rfl rfl rfl (by kernel_rfl) Try.func6 (by kernel_rfl)
    (of_decide_eq_true (by kernel_rfl)) (by unfold Func.isWrapper; first | (rw [if_pos (by decide +kernel)]; kernel_rfl) | (rw [if_neg (by decide +kernel)]; exact ⟨rfl, rfl⟩))
    (fun os started H enc _ F => by rw [OpenClaim.pre_eq_preRow]; exact lifted os started H enc F)
end Go.Proofs.Ytblkfiaeifckjaa.pathBack
