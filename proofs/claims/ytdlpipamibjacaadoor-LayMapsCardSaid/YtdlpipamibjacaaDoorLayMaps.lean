/-
  LayMaps is true for every number of members, of stripes and every block: where the block lies, which member has the parity, and how many blocks there are, are the definition's.
  Conditions: none of its own; the table of places holds what the program's text lays (the card ties that).
-/
import Derived.Test.YtdlpipamibjacaaDoorLg
namespace Go.Proofs.YtdlpipamibjacaaDoor.L.layMaps
open Go.ChangeShapes Go.WideShapes Go.ChangeAt Go.RowKit

set_option maxHeartbeats 1000000 in
theorem walk {w : World} (n : Int) (_ : -9223372036854775808 ≤ n) (_ : n ≤ 9223372036854775807) (s : Int) (_ : -9223372036854775808 ≤ s) (_ : s ≤ 9223372036854775807) (b : Int) (_ : -9223372036854775808 ≤ b) (hb2 : b ≤ 9223372036854775807) (hT : Tab w) :
    Calls Tryd.prog 3 #[.int .i64 n, .int .i64 s, .int .i64 b] w fun e w' => e = .returned (.bool true) ∧ Below w.heap.size w w' := by
  have HT := Lib.hid hT
  clear hT
  obtain ⟨x1, y1, q1, q2⟩ := cap_both n s
  obtain ⟨x2, y2, q3, q4⟩ := parity_both n b hb2
  obtain ⟨a, c, d, y3, q5, q6⟩ := map_both n b hb2
  go_enter Tryd.func3, Tryd.ntmps3
  go_wp2_with (first
    | (go_at_call 15; refine (q1 _).mono ?_; rintro e w' ⟨rfl, rfl⟩)
    | (go_at_call 16; refine (q2 _).mono ?_; rintro e w' ⟨rfl, rfl⟩)
    | (go_at_call 17; refine (q3 _).mono ?_; rintro e w' ⟨rfl, rfl⟩)
    | (go_at_call 18; refine (q4 _).mono ?_; rintro e w' ⟨rfl, rfl⟩))
  refine (q5 _).mono ?_
  rintro e w1 ⟨rfl, hb1⟩
  have hblk1 := heap_alloc_last w1 (.cells #[.int .i64 a, .int .i64 c, .int .i64 d] 26)
  go_wp2_with fail
  have hb2 := hb1.alloc hb1.size (.cells #[.int .i64 a, .int .i64 c, .int .i64 d] 26)
  have hg1 : w1.heap.size < (w1.alloc (.cells #[.int .i64 a, .int .i64 c, .int .i64 d] 26)).heap.size := by simp
  generalize w1.alloc (.cells #[.int .i64 a, .int .i64 c, .int .i64 d] 26) = w2 at *
  generalize w1.heap.size = g1 at *
  clear hb1
  refine (q6 _).mono ?_
  rintro e w3 ⟨rfl, hb3⟩
  have hblk2 := (hb3.block g1 hg1).trans hblk1
  have hg2 : g1 < w3.heap.size := Nat.lt_of_lt_of_le hg1 hb3.size
  have hb4 := below_on hb2 hb3
  clear hblk1 hb2 hb3 hg1
  go_wp2_with fail
  have hb5 := hb4.alloc hb4.size (.cells #[.int .i64 a, .int .i64 c, .int .i64 d] 26)
  have hblk3 := heap_alloc_last w3 (.cells #[.int .i64 a, .int .i64 c, .int .i64 d] 26)
  have hblk4 := (Below.heap_alloc w3 (.cells #[.int .i64 a, .int .i64 c, .int .i64 d] 26) g1 hg2).trans hblk2
  have hg3 : w3.heap.size < (w3.alloc (.cells #[.int .i64 a, .int .i64 c, .int .i64 d] 26)).heap.size := by simp
  generalize w3.alloc (.cells #[.int .i64 a, .int .i64 c, .int .i64 d] 26) = w4 at *
  generalize w3.heap.size = g3 at *
  clear hb4 hblk2
  refine (lives_yes w4 (HT.out.over hb5)).mono ?_
  rintro e w5 ⟨rfl, hb6⟩
  have hx := (hb6.block g1 (by omega)).trans hblk4
  have hy := (hb6.block g3 hg3).trans hblk3
  have k0 : w5.cell? ⟨g1, 0, none⟩ = some (.int .i64 a) := cell_of_row _ _ 0 _ _ _ hx
  have k1 : w5.cell? ⟨g1, 1, none⟩ = some (.int .i64 c) := cell_of_row _ _ 1 _ _ _ hx
  have k2 : w5.cell? ⟨g1, 2, none⟩ = some (.int .i64 d) := cell_of_row _ _ 2 _ _ _ hx
  have j0 : w5.cell? ⟨g3, 0, none⟩ = some (.int .i64 a) := cell_of_row _ _ 0 _ _ _ hy
  have j1 : w5.cell? ⟨g3, 1, none⟩ = some (.int .i64 c) := cell_of_row _ _ 1 _ _ _ hy
  have j2 : w5.cell? ⟨g3, 2, none⟩ = some (.int .i64 d) := cell_of_row _ _ 2 _ _ _ hy
  clear hx hy hblk3 hblk4
  go_wp2_with fail
  go_ret
  exact ⟨rfl, below_on hb5 hb6⟩

set_option maxRecDepth 100000 in
/-- WHAT THE WALK GIVES, FOR EVERY ARGUMENT AND EVERY WORLD THAT HOLDS THE TABLES. -/
theorem contract (H : Type) (enc : TypeId × Value → H) (W : World) (base : Nat) (args : Array Value) (ds gs : List (DataW H)) (before : List MemPlace)
    (hval : ∀ (j : Nat) t v, Tryd.f3.params[j]? = some t → args[j]? = some v → Value.okWide Tryd.prog W .any base t v)
    (hW : DataW.Whole enc Tryd.prog Tryd.f3.params.toList Rows.layMapsSpec.vars false W args.toList ds gs before)
    (hsz : (DataW.weightsEach Tryd.prog (Tryd.f3.params.toList ++ (OpenSpec.ofChange Rows.layMapsSpec).bare.plain.varTypes Tryd.prog) (ds ++ gs)).all (· ≤ reachBytes) = true) (hL : laidMetH Tryd.prog laidBoth W) :
    Calls Tryd.prog 3 args W fun e W' => ∃ v, e = .returned v ∧ Rows.layMapsSpec.post enc Tryd.prog Tryd.f3 false true false false W args v W' := by
  have hW' := hW
  obtain ⟨p, q, hA0, hV, rfl, hfz, hnd⟩ := hW
  have hA : DataW.TrodAll enc Tryd.prog W 0 (fun _ => true) true Tryd.f3.params.toList args.toList ds p := hA0
  have hsz2 : (DataW.weightsEach Tryd.prog (Tryd.f3.params.toList ++ []) (ds ++ gs)).all (· ≤ reachBytes) = true := hsz
  rw [Tryd.params3] at hA hval hsz2
  obtain ⟨v0, vs0, d0, ds0, p0, q0, hargs, rfl, rfl, h0, r0⟩ := trodAll_cons hA
  obtain ⟨v1, vs1, d1, ds1, p1, q1, rfl, rfl, rfl, h1, r1⟩ := trodAll_cons r0
  obtain ⟨v2, vs2, d2, ds2, p2, q2, rfl, rfl, rfl, h2, r2⟩ := trodAll_cons r1
  obtain ⟨rfl, rfl, rfl⟩ := trodAll_nil r2
  obtain rfl : args = #[v0, v1, v2] := by cases args; simp_all
  obtain ⟨rfl, rfl⟩ := trodVars_none hV
  obtain ⟨a0, rfl, rfl, rfl, w0⟩ := open_int Tryd.underlying3 (hval 0 3 v0 rfl rfl) h0
  have bd0 := bounds_i64 w0
  obtain ⟨a1, rfl, rfl, rfl, w1⟩ := open_int Tryd.underlying3 (hval 1 3 v1 rfl rfl) h1
  have bd1 := bounds_i64 w1
  obtain ⟨a2, rfl, rfl, rfl, w2⟩ := open_int Tryd.underlying3 (hval 2 3 v2 rfl rfl) h2
  have bd2 := bounds_i64 w2
  have hT := tabs_of_laid hL
  refine (walk a0 bd0.1 bd0.2 a1 bd1.1 bd1.2 a2 bd2.1 bd2.2 hT).mono fun e W' ⟨he, bel⟩ => ?_
  subst he
  exact ⟨_, rfl, _, _, _, [], _, [], hW', trodAll_mk1 (shut_bool Tryd.underlying4 _), (trodAll_cons_mk (shut_int Tryd.underlying3 w0) (trodAll_cons_mk (shut_int Tryd.underlying3 w1) (trodAll_cons_mk (shut_int Tryd.underlying3 w2) trodAll_mk0))), rfl, bel.frame _, fun h => by cases h⟩

theorem laid_met (os : Os) : laidMetH Tryd.prog laidBoth ((laidWorld os).forCall (fun _ _ => 0) ⟨#[], #[.int .i64 0, .int .i64 0, .int .i64 0], []⟩).memory :=
  laidMetH_of_parts3 (fuel := 8) (laidMet_of_run' 8 (by kernel_rfl) (by kernel_rfl)) (by kernel_rfl) (by kernel_rfl)
theorem reads (os : Os) {H : Type} (enc : TypeId × Value → H) : ∃ places, DataW.whole enc Tryd.prog ((laidWorld os).forCall (fun _ _ => 0) ⟨#[], #[.int .i64 0, .int .i64 0, .int .i64 0], []⟩).memory Tryd.f3.params.toList Rows.layMapsSpec.vars false (#[.int .i64 0, .int .i64 0, .int .i64 0] : Array Value).toList 8 = some ([.lit (.int .i64 0), .lit (.int .i64 0), .lit (.int .i64 0)], [], places) :=
  ⟨[], by kernel_rfl⟩
set_option maxRecDepth 100000 in
theorem lifted (os : Os) (started : os.Started) (H : Type) (enc : TypeId × Value → H) (F : Stop.Interp) :
    ReturnsInHanded {} Tryd.checked os 3 .any ((OpenSpec.ofChange Rows.layMapsSpec).preRow enc Tryd.prog Tryd.f3 Rows.layMapsRow.domain false Rows.layMapsRow.laid) (((OpenSpec.ofChange Rows.layMapsSpec).at F).post enc Tryd.prog Tryd.f3 false true false false) := by
  obtain ⟨places, hx⟩ := reads os enc
  refine returnsInHanded_of_row (C := Tryd.checked) (s := (OpenSpec.ofChange Rows.layMapsSpec)) own started (by kernel_rfl) Tryd.func3
    (witness_row_at (enc := enc) (C := Tryd.checked) false (laidWorld os) #[.int .i64 0, .int .i64 0, .int .i64 0] rfl (by kernel_rfl) (by kernel_rfl) (by kernel_rfl)
      (OpenSpec.preRow_of_cond 8 hx (by kernel_rfl) (fun k hk => by cases hk) (by kernel_rfl) (laid_met os))) ?_
  intro W base args ds gs before hval hW _ hcond hsz hL _ _
  exact contract H enc W base args ds gs before hval hW hsz hL
theorem said : Rows.LayMapsSaid :=
  OpenClaim.holds_of_cond 3 Tryd.f3 rfl rfl rfl rfl rfl rfl rfl ⟨rfl, rfl, rfl, rfl, rfl⟩ rfl rfl rfl rfl rfl (by kernel_rfl) Tryd.func3 (by kernel_rfl)
    (of_decide_eq_true (by kernel_rfl)) (by unfold Func.isWrapper; first | (rw [if_pos (by decide +kernel)]; kernel_rfl) | (rw [if_neg (by decide +kernel)]; exact ⟨rfl, rfl⟩))
    (fun os started H enc _ F => by rw [OpenClaim.pre_eq_preRow]; exact lifted os started H enc F)
theorem plain (f : FuncId) (fn : Func) (hf : Tryd.pinned.checked.prog.funcNamed "ashlar/ashlarlaw03.LayMaps" = some f) (hfn : Tryd.pinned.checked.prog.funcs[f]? = some fn) :
    false = Tryd.pinned.checked.prog.looks [] ∧ ∀ (j : Nat) t, fn.params[j]? = some t → Tryd.pinned.checked.prog.wantsStandIn t = false := by
  obtain rfl : f = 3 := Option.some.inj ((show Tryd.prog.funcNamed "ashlar/ashlarlaw03.LayMaps" = some 3 by kernel_rfl).symm.trans hf) |>.symm
  obtain rfl : fn = Tryd.f3 := (Option.some.inj (Tryd.func3.symm.trans hfn)).symm
  refine ⟨by kernel_rfl, fun j t ht => ?_⟩
  rw [Tryd.params3] at ht
  have hm : t ∈ [3, 3, 3] := by simpa using Array.mem_of_getElem? ht
  have hall : ([3, 3, 3].all fun u => !Tryd.prog.wantsStandIn u) = true := by kernel_rfl
  exact (show Tryd.prog.wantsStandIn t = false by simpa using List.all_eq_true.1 hall t hm)

/-- ████ THE CARD ████ -/
theorem card : Rows.LayMapsCardSaid :=
  Claim7.holds_tied_plain_at .later [] _ _ _ _ said (fun _ h => by cases h) (by kernel_rfl) (fun _ h => by cases h) layMaps_row_tie rfl ⟨rfl, rfl⟩ (by kernel_rfl) rfl plain (by kernel_rfl)
end Go.Proofs.YtdlpipamibjacaaDoor.L.layMaps
