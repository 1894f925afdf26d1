/-
  PplBack is true for every record: what was encoded is decoded, and shares nothing with what was handed in.
  Conditions: none of its own; the tables hold what the program's text lays (the card ties that).
-/
import Derived.Test.YtohdieddocogkaaDoorQo
namespace Go.Proofs.YtohdieddocogkaaDoor.U.pplBack
open Go.ChangeShapes Go.WideShapes Go.ChangeAt Go.RowKit Go.Maps

set_option maxRecDepth 20000 in
theorem walk_no {w : World} (s q : Int) (A : Option Addr) (n c : Nat) (l : List Nat) (hs : -9223372036854775808 ≤ s ∧ s ≤ 9223372036854775807) (hq : -9223372036854775808 ≤ q ∧ q ≤ 9223372036854775807) (hl : Small l) (hr : Reads w w.heap.size A n (bts l)) (hn : n ≤ maxLen) (hA : All w) (hm : mayB s q n = false) :
    Calls Tryd.prog 4 #[.agg #[.int .i64 s, .int .i64 q, .slice A n c]] w fun e w' => e = .returned (.bool true) ∧ Below w.heap.size w w' := by
  have hb0 : Below w.heap.size w (w.alloc (.cells #[.int .i64 s, .int .i64 q, .slice A n c] 24)) := (Below.refl _ _).alloc (Nat.le_refl _) _
  have r0 := heap_alloc_new w (.cells #[.int .i64 s, .int .i64 q, .slice A n c] 24)
  have z0 : w.heap.size < (w.alloc (.cells #[.int .i64 s, .int .i64 q, .slice A n c] 24)).heap.size := by simp
  have A0 := hA.over hb0
  have QE := Lib.hid (encode_no s q A n c l _ hl ((hr.below hb0).more hb0.size) hn A0.tabs A0.fld hm)
  have QM := Lib.hid (fun w' => refMay_any s q A n c w' hs hq hn)
  rw [hm] at QM
  obtain ⟨k0, k1, k2, _⟩ := cells3_of r0
  clear hr hl hm
  go_enter Tryd.func4, Tryd.ntmps4
  go_wp2_with fail
  generalize w.alloc (.cells #[.int .i64 s, .int .i64 q, .slice A n c] 24) = W0 at *
  refine QE.out.mono ?_
  rintro e w1 ⟨rfl, b1⟩
  have A1 := A0.over b1
  have hb1 := hb0.trans (b1.mono (Nat.le_of_lt z0))
  have r1 := (b1.block w.heap.size z0).trans r0
  have z1 := Nat.lt_of_lt_of_le z0 b1.size
  clear k0 k1 k2 r0
  go_wp2_with fail
  refine (lives_true w1 A1.tabs A1.fld).mono ?_
  rintro e w2 ⟨rfl, b2⟩
  have hb2 := hb1.trans (b2.mono (Nat.le_of_lt z1))
  obtain ⟨k0, k1, k2, _⟩ := cells3_of ((b2.block w.heap.size z1).trans r1)
  have z2 := Nat.lt_of_lt_of_le z1 b2.size
  clear r1
  go_wp2_with fail
  refine (QM.out w2).mono ?_
  rintro e w3 ⟨rfl, b3⟩
  have hb3 := hb2.trans (b3.mono (Nat.le_of_lt z2))
  go_wp2_with fail
  go_ret
  exact ⟨rfl, hb3⟩
set_option maxRecDepth 20000 in
set_option maxHeartbeats 4000000 in
theorem walk_yes {w : World} (a b : Nat) (ha : a < 1024) (hb : b < 15) (ad : Addr) (c : Nat) (l : List Nat) (hl : Small l) (hr : Reads w w.heap.size (some ad) 128 (bts l)) (hA : All w) :
    Calls Tryd.prog 4 #[.agg #[.int .i64 a, .int .i64 b, .slice (some ad) 128 c]] w fun e w' => e = .returned (.bool true) ∧ Below w.heap.size w w' := by
  have hb0 : Below w.heap.size w (w.alloc (.cells #[.int .i64 a, .int .i64 b, .slice (some ad) 128 c] 24)) := (Below.refl _ _).alloc (Nat.le_refl _) _
  have r0 := heap_alloc_new w (.cells #[.int .i64 a, .int .i64 b, .slice (some ad) 128 c] 24)
  have z0 : w.heap.size < (w.alloc (.cells #[.int .i64 a, .int .i64 b, .slice (some ad) 128 c] 24)).heap.size := by simp
  have A0 := hA.over hb0
  have QE := Lib.hid (encode_ok a b ha hb (some ad) c l _ hl ((hr.below hb0).more hb0.size) A0.tabs A0.fld)
  have HO := Lib.hid (okD_head ha hb l hl)
  have HHS := Lib.hid (headL_small (numF a b (Nums.sum 0 l)))
  have HLN := Lib.hid (headL_length (numF a b (Nums.sum 0 l)))
  obtain ⟨k0, k1, k2, _⟩ := cells3_of r0
  go_enter Tryd.func4, Tryd.ntmps4
  go_wp2_with fail
  generalize w.alloc (.cells #[.int .i64 a, .int .i64 b, .slice (some ad) 128 c] 24) = W0 at *
  generalize headL (numF a b (Nums.sum 0 l)) = hL at *
  refine QE.out.mono ?_
  rintro e w1 ⟨v, rfl, g, rfl, hg, hrow, b1⟩
  have A1 := A0.over b1
  have hb1 := hb0.trans (b1.mono (Nat.le_of_lt z0))
  have r1 := (b1.block w.heap.size z0).trans r0
  have z1 := Nat.lt_of_lt_of_le z0 b1.size
  have hlt : g < w1.heap.size := (Array.getElem?_eq_some_iff.1 hrow).1
  have hr1 : Reads w1 w1.heap.size (some ⟨g, 0, none⟩) 128 (bts hL) := by
    refine ⟨(bts_length hL).trans HLN.out, fun _ => ⟨_, rfl, hlt, fun j u hu => ?_⟩⟩
    rw [add_plain, Nat.zero_add, cell_of_row _ _ j _ _ _ hrow, List.getElem?_toArray]
    exact hu
  clear k0 k1 k2 r0 hrow hlt
  go_wp2_with fail
  refine (lives_true w1 A1.tabs A1.fld).mono ?_
  rintro e w2 ⟨rfl, b2⟩
  have A2 := A1.over b2
  have hb2 := hb1.trans (b2.mono (Nat.le_of_lt z1))
  have r2 := (b2.block w.heap.size z1).trans r1
  have z2 := Nat.lt_of_lt_of_le z1 b2.size
  have hr2 := (hr1.below b2).more b2.size
  have hp2 := (hr.below hb2).more hb2.size
  have R2 := Lib.hid r2
  obtain ⟨k0, k1, k2, _⟩ := cells3_of r2
  clear r1 hr1 A1 r2
  go_wp2_with (at_builtin; refine append_copy rfl _ _ rfl rfl rfl hp2 (by decide) ?_; intro v3 w3 own3 b3; obtain ⟨gp, cp, rfl, hgp, hltp⟩ := own_row own3 (by decide))
  have A3 := A2.over b3
  have hb3 := hb2.trans (b3.mono (Nat.le_of_lt z2))
  have r3 := (b3.block w.heap.size z2).trans R2.out
  have z3 := Nat.lt_of_lt_of_le z2 b3.size
  have hr3 := (hr2.below b3).more b3.size
  have QD := Lib.hid (decode_any (some ⟨g, 0, none⟩) (some ⟨gp, 0, none⟩) 128 128 128 cp hL l w3 HHS.out hl hr3 (Reads.of_own own3) (by decide) (by decide) A3.tabs A3.fld)
  rw [HO.out.1, HO.out.2.1, HO.out.2.2.1] at QD
  clear k0 k1 k2 R2 A2 hr2 hp2 hr3
  refine QD.out.mono ?_
  rintro e w4 (⟨h0, _⟩ | ⟨_, v4, rfl, own4, b4⟩)
  · cases h0
  obtain ⟨gd, cd, rfl, hgd, hltd⟩ := own_row own4 (by decide)
  have b5 : Below w4.heap.size w4 (w4.alloc (.cells #[.int .i64 a, .int .i64 b, .slice (some ⟨gd, 0, none⟩) 128 cd] 24)) := (Below.refl _ _).alloc (Nat.le_refl _) _
  have own5 := own_below (own_below own3 b4) b5
  have t5 := heap_alloc_new w4 (.cells #[.int .i64 a, .int .i64 b, .slice (some ⟨gd, 0, none⟩) 128 cd] 24)
  have z4 := Nat.lt_of_lt_of_le z3 b4.size
  have r5 := (b5.block w.heap.size z4).trans ((b4.block w.heap.size z3).trans r3)
  have hb5 := (hb3.trans (b4.mono (Nat.le_of_lt z3))).trans (b5.mono (Nat.le_of_lt z4))
  have ownd5 := own_below own4 b5
  have s5 := b5.size
  have s4 := b4.size
  clear own3 own4 r3 A3 QD b3 b4 b5
  have rp5 := Lib.hid ((hr.below hb5).more hb5.size)
  have rd5 := Lib.hid (Reads.of_own ownd5)
  have hblk : ∀ x, some ad = some x → ¬ x.block = gp := fun x hx e => by
    obtain ⟨ad', h1, h2, _⟩ := hr.2 (by decide)
    rw [h1] at hx
    injection hx with hx
    subst hx
    omega
  have hc := own5.cellAt 0 (by decide)
  rw [bts_get _ _ (by rw [hr.len]; decide)] at hc
  have hf := own5.frozenAt 0
  have hx0 := hl.get 0
  generalize l.getD 0 0 = x0 at *
  have hne1 : gp ≠ w.heap.size := by omega
  have hne2 : gp ≠ w4.heap.size := by omega
  have hne1' : w.heap.size ≠ gp := by omega
  have hne2' : w4.heap.size ≠ gp := by omega
  have hgg : gd ≠ gp := by omega
  obtain ⟨k0, k1, k2, _⟩ := cells3_of r5
  obtain ⟨i0, i1, i2, _⟩ := cells3_of t5
  have HB5 := Lib.hid hb5
  have hle : w.heap.size ≤ gp := by omega
  have HLE := Lib.hid hle
  clear own5 ownd5 r5 t5 hb5 hle hr s4 s5 hgd hgp hltp hltd z0 z1 z2 z3 z4
  have QS := Lib.hid (fun W' (ho : Sh.Only (fun b => b = gp) (w4.alloc (.cells #[.int .i64 a, .int .i64 b, .slice (some ⟨gd, 0, none⟩) 128 cd] 24)) W') => refSame_self a b (some ⟨gd, 0, none⟩) (some ad) 128 cd 128 c l W' hl (reads_only rd5.out ho (fun x hx => by injection hx with hx; subst hx; exact hgg)) (reads_only rp5.out ho hblk))
  clear hblk hgg rd5 rp5
  go_wp2_with fail
  have O6 := only_set (w4.alloc (.cells #[.int .i64 a, .int .i64 b, .slice (some ⟨gd, 0, none⟩) 128 cd] 24)) gp 0 (.int .u8 (((x0 : Nat) + 1 : Int) % 256))
  have HB6 := Lib.hid (only_row_below' HB5.out O6 HLE.out (Nat.le_refl _))
  have HQ := Lib.hid (QS.out _ O6)
  clear k0 k1 k2 i0 i1 i2 hc hf O6
  generalize (w4.alloc (.cells #[.int .i64 a, .int .i64 b, .slice (some ⟨gd, 0, none⟩) 128 cd] 24)).setCell ⟨gp, 0, none⟩ (.int .u8 (((x0 : Nat) + 1 : Int) % 256)) = W6 at *
  refine HQ.out.mono ?_
  rintro e w7 ⟨rfl, b7⟩
  have HB7 := Lib.hid (HB6.out.trans (b7.mono HB6.out.size))
  clear b7
  go_wp2_with fail
  go_ret
  exact ⟨rfl, HB7.out⟩
theorem walk {w : World} (z : RecV) (hz : RecOk w z) (_ : z.n ≤ 140737488351232) (hA : All w) :
    Calls Tryd.prog 4 #[z.val] w fun e w' => e = .returned (.bool true) ∧ Below w.heap.size w w' := by
  obtain ⟨s, q, A, n, c, l⟩ := z
  obtain ⟨hs, hq, hl, hr, hn⟩ := hz
  dsimp only at hs hq hl hr hn
  unfold RecV.val
  dsimp only
  cases hm : mayB s q n
  · exact walk_no s q A n c l hs hq hl hr hn hA hm
  · obtain ⟨rfl, h1, h2⟩ := (mayB_iff hs hq).1 hm
    obtain ⟨a, rfl⟩ := nat_of h1.1
    obtain ⟨b, rfl⟩ := nat_of h2.1
    obtain ⟨ad, rfl, _, _⟩ := hr.2 (by decide)
    exact walk_yes a b (by omega) (by omega) ad c l hl hr hA
set_option maxRecDepth 100000 in
/-- WHAT THE WALK GIVES, FOR EVERY ARGUMENT AND EVERY WORLD THAT HOLDS THE TABLES. -/
theorem contract (H : Type) (enc : TypeId × Value → H) (W : World) (base : Nat) (args : Array Value) (ds gs : List (DataW H)) (before : List MemPlace)
    (hval : ∀ (j : Nat) t v, Tryd.f4.params[j]? = some t → args[j]? = some v → Value.okWide Tryd.prog W .any base t v)
    (hW : DataW.Whole enc Tryd.prog Tryd.f4.params.toList Rows.pplBackSpec.vars false W args.toList ds gs before)
    (hsz : (DataW.weightsEach Tryd.prog (Tryd.f4.params.toList ++ (OpenSpec.ofChange Rows.pplBackSpec).bare.plain.varTypes Tryd.prog) (ds ++ gs)).all (· ≤ reachBytes) = true) (hL : laidMetH Tryd.prog laidBoth W) :
    Calls Tryd.prog 4 args W fun e W' => ∃ v, e = .returned v ∧ Rows.pplBackSpec.post enc Tryd.prog Tryd.f4 false true false false W args v W' := by
  have hW' := hW
  obtain ⟨p, q, hA0, hV, rfl, hfz, hnd⟩ := hW
  have hA : DataW.TrodAll enc Tryd.prog W 0 (fun _ => true) true Tryd.f4.params.toList args.toList ds p := hA0
  have hsz2 : (DataW.weightsEach Tryd.prog (Tryd.f4.params.toList ++ []) (ds ++ gs)).all (· ≤ reachBytes) = true := hsz
  rw [Tryd.params4] at hA hval hsz2
  obtain ⟨v0, vs0, d0, ds0, p0, q0, hargs, rfl, rfl, h0, r0⟩ := trodAll_cons hA
  obtain ⟨rfl, rfl, rfl⟩ := trodAll_nil r0
  obtain rfl : args = #[v0] := by cases args; simp_all
  obtain ⟨rfl, rfl⟩ := trodVars_none hV
  have k0 := h0
  have lt0 : ∀ x ∈ p0, x.block < W.heap.size := by obtain ⟨m, hm⟩ := k0; exact DataW.trod_lt m _ _ _ hm
  have hw0 : ∀ m ∈ d0.weights Tryd.prog 24, m ≤ reachBytes := fun m hm => by simpa using List.all_eq_true.1 hsz2 m (DataW.weights_mem_each (j := 0) (t := 24) rfl rfl m hm)
  obtain ⟨z0, rfl, zf0, zb0⟩ := rec_came (hval 0 24 v0 rfl rfl) h0 hw0
  have hT := tabs_of_laid hL
  refine (walk z0 zf0 zb0 hT).mono fun e W' ⟨he, bel⟩ => ?_
  subst he
  exact ⟨_, rfl, _, _, _, [], _, [], hW', trodAll_mk1 (shut_bool Tryd.underlying4 _), (trodAll_cons_mk (Below.trod laidOut (by kernel_rfl) (of_decide_eq_true (by kernel_rfl)) k0 bel lt0) trodAll_mk0), rfl, bel.frame _, fun h => by cases h⟩

theorem laid_met (os : Os) : laidMetH Tryd.prog laidBoth ((laidWorld os).forCall (fun _ _ => 0) ⟨#[], #[.agg #[.int .i64 0, .int .i64 0, .slice none 0 0]], []⟩).memory :=
  laidMetH_of_parts3 (fuel := 8) (laidMet_of_run' 8 (by kernel_rfl) (by kernel_rfl)) (by kernel_rfl) (by kernel_rfl)
theorem reads (os : Os) {H : Type} (enc : TypeId × Value → H) : ∃ places, DataW.whole enc Tryd.prog ((laidWorld os).forCall (fun _ _ => 0) ⟨#[], #[.agg #[.int .i64 0, .int .i64 0, .slice none 0 0]], []⟩).memory Tryd.f4.params.toList Rows.pplBackSpec.vars false (#[.agg #[.int .i64 0, .int .i64 0, .slice none 0 0]] : Array Value).toList 8 = some ([.agg [.lit (.int .i64 0), .lit (.int .i64 0), .nil]], [], places) :=
  ⟨[], by kernel_rfl⟩
set_option maxRecDepth 100000 in
theorem lifted (os : Os) (started : os.Started) (H : Type) (enc : TypeId × Value → H) (F : Stop.Interp) :
    ReturnsInHanded {} Tryd.checked os 4 .any ((OpenSpec.ofChange Rows.pplBackSpec).preRow enc Tryd.prog Tryd.f4 Rows.pplBackRow.domain false Rows.pplBackRow.laid) (((OpenSpec.ofChange Rows.pplBackSpec).at F).post enc Tryd.prog Tryd.f4 false true false false) := by
  obtain ⟨places, hx⟩ := reads os enc
  refine returnsInHanded_of_row (C := Tryd.checked) (s := (OpenSpec.ofChange Rows.pplBackSpec)) own started (by kernel_rfl) Tryd.func4
    (witness_row_at (enc := enc) (C := Tryd.checked) false (laidWorld os) #[.agg #[.int .i64 0, .int .i64 0, .slice none 0 0]] rfl (by kernel_rfl) (by kernel_rfl) (by kernel_rfl)
      (OpenSpec.preRow_of_cond 8 hx (by kernel_rfl) (fun k hk => by cases hk) (by kernel_rfl) (laid_met os))) ?_
  intro W base args ds gs before hval hW _ hcond hsz hL _ _
  exact contract H enc W base args ds gs before hval hW hsz hL
theorem said : Rows.PplBackSaid :=
  OpenClaim.holds_of_cond 4 Tryd.f4 rfl rfl rfl rfl rfl rfl rfl ⟨rfl, rfl, rfl, rfl, rfl⟩ rfl rfl rfl rfl rfl (by kernel_rfl) Tryd.func4 (by kernel_rfl)
    (of_decide_eq_true (by kernel_rfl)) (by unfold Func.isWrapper; first | (rw [if_pos (by decide +kernel)]; kernel_rfl) | (rw [if_neg (by decide +kernel)]; exact ⟨rfl, rfl⟩))
    (fun os started H enc _ F => by rw [OpenClaim.pre_eq_preRow]; exact lifted os started H enc F)
theorem plain (f : FuncId) (fn : Func) (hf : Tryd.pinned.checked.prog.funcNamed "ashlar/ashlarlaw07.PplBack" = some f) (hfn : Tryd.pinned.checked.prog.funcs[f]? = some fn) :
    false = Tryd.pinned.checked.prog.looks [] ∧ ∀ (j : Nat) t, fn.params[j]? = some t → Tryd.pinned.checked.prog.wantsStandIn t = false := by
  obtain rfl : f = 4 := Option.some.inj ((show Tryd.prog.funcNamed "ashlar/ashlarlaw07.PplBack" = some 4 by kernel_rfl).symm.trans hf) |>.symm
  obtain rfl : fn = Tryd.f4 := (Option.some.inj (Tryd.func4.symm.trans hfn)).symm
  refine ⟨by kernel_rfl, fun j t ht => ?_⟩
  rw [Tryd.params4] at ht
  have hm : t ∈ [24] := by simpa using Array.mem_of_getElem? ht
  have hall : ([24].all fun u => !Tryd.prog.wantsStandIn u) = true := by kernel_rfl
  exact (show Tryd.prog.wantsStandIn t = false by simpa using List.all_eq_true.1 hall t hm)

/-- ████ THE CARD ████ -/
theorem card : Rows.PplBackCardSaid :=
  Claim7.holds_tied_plain_at .later [] _ _ _ _ said (fun _ h => by cases h) (by kernel_rfl) (fun _ h => by cases h) pplBack_row_tie rfl ⟨rfl, rfl⟩ (by kernel_rfl) rfl plain (by kernel_rfl)
end Go.Proofs.YtohdieddocogkaaDoor.U.pplBack
