/-
  OctetsJoins is true for every seed and every two slices of bytes: the sum of both together goes on with that of the first; the sum of none is the seed.
  Conditions: what is handed in holds at most 1048576 values and letters together (the second form); the two tables of the sum hold what the program's text lays (the card ties that).
-/
import Derived.Test.YtbagmmngepkaeaaDoorFrame
namespace Go.Proofs.YtbagmmngepkaeaaDoor.octetsJoins
open Go.ChangeShapes Go.WideShapes Go.ChangeAt Go.RowKit

set_option maxHeartbeats 1000000 in
theorem walk {w : World} (s : Nat) (hs : s < 4294967296) (A : Option Addr) (n c : Nat) (l : List Nat) (hl : Small l) (hr : Reads w w.heap.size A n (bts l)) (hn : n ≤ 1048576)
    (B : Option Addr) (m d : Nat) (k : List Nat) (hk : Small k) (hr2 : Reads w w.heap.size B m (bts k)) (hm : m ≤ 1048576) (hT : Tabs w) :
    Calls Tryd.prog 6 #[.int .u32 s, .slice A n c, .slice B m d] w fun e w' => e = .returned (.bool true) ∧ Below w.heap.size w w' := by
  have hsz := hT.size
  obtain ⟨i0, hi, hz0, hz1, hz2⟩ := info_parts info_u8
  have hlen := Lib.hid hr.len
  have hlen2 := Lib.hid hr2.len
  have hjoin := Lib.hid (Nums.sum_append s l k)
  have hnil := Lib.hid (Nums.sum_nil s)
  have hlt := Nums.sum_lt hl hs
  go_enter Tryd.func6, Tryd.ntmps6
  go_wp2_with fail
  refine (lives_yes w hT).mono ?_
  rintro e w1 ⟨rfl, hb⟩
  have hr1 := reads_over hr hb
  have hr21 := reads_over hr2 hb
  have hT1 := hT.below hsz hb
  have hsz1 := hT1.size
  clear hr hr2
  go_wp2_with (first
    | (at_builtin; refine appendAllG _ (by first | rfl | simp [Region.wanted, yielded]) (.tmp 10) (.tmp 11) 23 rfl w1.heap.size 5 i0 (.int .u8 0) 1 Tryd.underlying23 hi hz0 hz1 hz2 rfl (.slice (some ⟨w1.heap.size, 0, none⟩) 0 0) 0 [] rfl (by exact World.ownsRow_made w1 #[] 0 (Nat.le_refl _) (by decide) rfl) w1.heap.size A n c (bts l) rfl (hr1.alloc (Nat.le_refl _) _) (bts_one l) (by unfold maxLen; omega) (by omega) w1 (by exact (Below.refl _ _).alloc (Nat.le_refl _) _) (by simp) ?_; intro v2 w2 hown2 hgr2 hbel2)
    | (at_builtin; refine appendAllG _ (by first | rfl | simp [Region.wanted, yielded]) (.tmp 12) (.tmp 13) 23 rfl w1.heap.size 5 i0 (.int .u8 0) 1 Tryd.underlying23 hi hz0 hz1 hz2 rfl v2 (0 + n) ([] ++ bts l) rfl (by exact hown2) w1.heap.size B m d (bts k) rfl (hr21.below hbel2) (bts_one k) (by unfold maxLen; omega) (by omega) w1 (by exact hbel2) hbel2.size ?_; intro v3 w3 hown3 hgr3 hbel3))
  have e3 : ([] ++ bts l) ++ bts k = bts (l ++ k) := by rw [bts_append]; rfl
  rw [e3] at hown3
  obtain ⟨A3, c3, rfl, hr3, _, _⟩ := own_shape hown3
  have hT3 := hT1.below hsz1 hbel3
  have hr13 := hr1.below hbel3
  have hr23 := hr21.below hbel3
  have hbw := below_on hb hbel3
  have hlk : Small (l ++ k) := fun x hx => by exact (List.mem_append.1 hx).elim (hl x) (hk x)
  clear hown2 hown3 hgr2 hgr3 hbel2 hbel3 e3 hr1 hr21 hT1
  go_wp2_with fail
  refine (crc_any A3 _ c3 _ (l ++ k) s w3 hs hlk hr3 (by unfold maxLen; omega) hT3).mono ?_
  rintro e w' ⟨rfl, d1, rfl⟩
  go_wp2_with fail
  refine (crc_any A n c _ l s _ hs hl (hr13.drewN d1) (by unfold maxLen; omega) (hT3.drewN d1)).mono ?_
  rintro e w' ⟨rfl, d2, rfl⟩
  go_wp2_with fail
  refine (crc_any B m d _ k (Nums.sum s l) _ hlt hk (hr23.drewN (d1 + d2)) (by unfold maxLen; omega) (hT3.drewN (d1 + d2))).mono ?_
  rintro e w' ⟨rfl, d3, rfl⟩
  rw [hjoin.out]
  go_wp2_with fail
  refine (crc_any none 0 0 0 [] s _ hs (fun _ h => by cases h) Reads.none_ (by unfold maxLen; omega) (hT3.drewN _)).mono ?_
  rintro e w' ⟨rfl, d4, rfl⟩
  rw [hnil.out]
  go_wp2_with fail
  go_ret
  exact ⟨rfl, hbw.trans ⟨rfl, rfl, rfl, Nat.le_refl _, fun _ _ => rfl⟩⟩

set_option maxRecDepth 100000 in
/-- WHAT THE WALK GIVES, FOR EVERY ARGUMENT AND EVERY WORLD THAT HOLDS THE TABLES. -/
theorem contract (H : Type) (enc : TypeId × Value → H) (W : World) (base : Nat) (args : Array Value) (ds gs : List (DataW H)) (before : List MemPlace)
    (hval : ∀ (j : Nat) t v, Tryd.f6.params[j]? = some t → args[j]? = some v → Value.okWide Tryd.prog W .any base t v)
    (hW : DataW.Whole enc Tryd.prog Tryd.f6.params.toList Rows.octetsJoinsSpec.vars false W args.toList ds gs before)
    (hsz : (DataW.weightsEach Tryd.prog (Tryd.f6.params.toList ++ (Rows.OpenSpec.upto Rows.octetsJoinsSpec).bare.plain.varTypes Tryd.prog) (ds ++ gs)).all (· ≤ reachBytes) = true) (hL : laidMetH Tryd.prog laidBoth W) (hbulk : Rows.uptoSmall H (ds ++ gs) = true) :
    Calls Tryd.prog 6 args W fun e W' => ∃ v, e = .returned v ∧ Rows.octetsJoinsSpec.post enc Tryd.prog Tryd.f6 false true false false W args v W' := by
  have hW' := hW
  obtain ⟨p, q, hA0, hV, rfl, hfz, hnd⟩ := hW
  have hA : DataW.TrodAll enc Tryd.prog W 0 (fun _ => true) true Tryd.f6.params.toList args.toList ds p := hA0
  have hsz2 : (DataW.weightsEach Tryd.prog (Tryd.f6.params.toList ++ []) (ds ++ gs)).all (· ≤ reachBytes) = true := hsz
  rw [Tryd.params6] at hA hval hsz2
  obtain ⟨v0, vs0, d0, ds0, p0, q0, hargs, rfl, rfl, h0, r0⟩ := trodAll_cons hA
  obtain ⟨v1, vs1, d1, ds1, p1, q1, rfl, rfl, rfl, h1, r1⟩ := trodAll_cons r0
  obtain ⟨v2, vs2, d2, ds2, p2, q2, rfl, rfl, rfl, h2, r2⟩ := trodAll_cons r1
  obtain ⟨rfl, rfl, rfl⟩ := trodAll_nil r2
  obtain rfl : args = #[v0, v1, v2] := by cases args; simp_all
  obtain ⟨rfl, rfl⟩ := trodVars_none hV
  obtain ⟨a0, rfl, rfl, rfl, w0⟩ := open_int Tryd.underlying32 (hval 0 32 v0 rfl rfl) h0
  have bd0 := bounds_u32 w0
  obtain ⟨m0, hm0⟩ : ∃ m : Nat, a0 = (m : Int) := ⟨a0.toNat, by omega⟩
  obtain ⟨A1, n1, c1, rfl⟩ := okWide_slice Tryd.underlying23 (hval 1 23 v1 rfl rfl)
  have k1 := h1
  have lt1 : ∀ x ∈ p1, x.block < W.heap.size := by obtain ⟨m, hm⟩ := k1; exact DataW.trod_lt m _ _ _ hm
  obtain ⟨l1, sl1, rd1, nc1, _, dd1⟩ : ∃ l, Small l ∧ Reads W W.heap.size A1 n1 (bts l) ∧ n1 ≤ c1 ∧ c1 ≤ maxLen ∧ ((d1 = .nil ∧ c1 = 0) ∨ ∃ es sp, d1 = .slice es sp ∧ es.length + sp.length = c1) := by obtain ⟨fuel, hf⟩ := h1; exact bytes_in (by simpa [Value.cells] using hf)
  have b1 : n1 ≤ 140737488351232 := by
    rcases dd1 with ⟨_, hc0⟩ | ⟨es, sp, hd, hc0⟩
    · omega
    · have := sized_slice (P := Tryd.prog) hsz2 (j := 1) (t := 23) (e := 5) rfl (by rw [hd]; rfl) Tryd.underlying23
      rw [bytesU8] at this; simp only [reachBytes] at this; omega
  have u1 : n1 ≤ 1048576 := by
    have hb := of_decide_eq_true hbulk
    rcases dd1 with ⟨_, hc0⟩ | ⟨es, sp, hd, hc0⟩
    · omega
    · have h2 := slice_le (H := H) es sp
      rw [hd] at hb
      simp only [List.append_nil, Rows.uptoBulkAll] at hb; omega
  obtain ⟨A2, n2, c2, rfl⟩ := okWide_slice Tryd.underlying23 (hval 2 23 v2 rfl rfl)
  have k2 := h2
  have lt2 : ∀ x ∈ p2, x.block < W.heap.size := by obtain ⟨m, hm⟩ := k2; exact DataW.trod_lt m _ _ _ hm
  obtain ⟨l2, sl2, rd2, nc2, _, dd2⟩ : ∃ l, Small l ∧ Reads W W.heap.size A2 n2 (bts l) ∧ n2 ≤ c2 ∧ c2 ≤ maxLen ∧ ((d2 = .nil ∧ c2 = 0) ∨ ∃ es sp, d2 = .slice es sp ∧ es.length + sp.length = c2) := by obtain ⟨fuel, hf⟩ := h2; exact bytes_in (by simpa [Value.cells] using hf)
  have b2 : n2 ≤ 140737488351232 := by
    rcases dd2 with ⟨_, hc0⟩ | ⟨es, sp, hd, hc0⟩
    · omega
    · have := sized_slice (P := Tryd.prog) hsz2 (j := 2) (t := 23) (e := 5) rfl (by rw [hd]; rfl) Tryd.underlying23
      rw [bytesU8] at this; simp only [reachBytes] at this; omega
  have u2 : n2 ≤ 1048576 := by
    have hb := of_decide_eq_true hbulk
    rcases dd2 with ⟨_, hc0⟩ | ⟨es, sp, hd, hc0⟩
    · omega
    · have h2 := slice_le (H := H) es sp
      rw [hd] at hb
      simp only [List.append_nil, Rows.uptoBulkAll] at hb; omega
  have hT := tabs_of_laid hL
  subst hm0
  refine (walk m0 (by omega) A1 n1 c1 l1 sl1 rd1 u1 A2 n2 c2 l2 sl2 rd2 u2 hT).mono fun e W' ⟨he, bel⟩ => ?_
  subst he
  exact ⟨_, rfl, _, _, _, [], _, [], hW', trodAll_mk1 (shut_bool Tryd.underlying4 _), (trodAll_cons_mk (shut_int Tryd.underlying32 w0) (trodAll_cons_mk (Below.trod laidOut (by kernel_rfl) (of_decide_eq_true (by kernel_rfl)) k1 bel lt1) (trodAll_cons_mk (Below.trod laidOut (by kernel_rfl) (of_decide_eq_true (by kernel_rfl)) k2 bel lt2) trodAll_mk0))), rfl, bel.frame _, fun h => by cases h⟩

theorem laid_met (os : Os) : laidMetH Tryd.prog laidBoth ((laidWorld os).forCall (fun _ _ => 0) ⟨#[], #[.int .u32 0, .slice none 0 0, .slice none 0 0], []⟩).memory :=
  laidMetH_of_parts3 (fuel := 8) (laidMet_of_run' 8 (by kernel_rfl) (by kernel_rfl)) (by kernel_rfl) (by kernel_rfl)
theorem reads (os : Os) {H : Type} (enc : TypeId × Value → H) : ∃ places, DataW.whole enc Tryd.prog ((laidWorld os).forCall (fun _ _ => 0) ⟨#[], #[.int .u32 0, .slice none 0 0, .slice none 0 0], []⟩).memory Tryd.f6.params.toList Rows.octetsJoinsSpec.vars false (#[.int .u32 0, .slice none 0 0, .slice none 0 0] : Array Value).toList 8 = some ([.lit (.int .u32 0), .nil, .nil], [], places) :=
  ⟨[], by kernel_rfl⟩
set_option maxRecDepth 100000 in
theorem lifted (os : Os) (started : os.Started) (H : Type) (enc : TypeId × Value → H) (F : Stop.Interp) :
    ReturnsInHanded {} Tryd.checked os 6 .any ((Rows.OpenSpec.upto Rows.octetsJoinsSpec).preRow enc Tryd.prog Tryd.f6 Rows.octetsJoinsUptoRow.domain false Rows.octetsJoinsUptoRow.laid) (((Rows.OpenSpec.upto Rows.octetsJoinsSpec).at F).post enc Tryd.prog Tryd.f6 false true false false) := by
  obtain ⟨places, hx⟩ := reads os enc
  refine returnsInHanded_of_row (C := Tryd.checked) (s := (Rows.OpenSpec.upto Rows.octetsJoinsSpec)) own started (by kernel_rfl) Tryd.func6
    (witness_row_at (enc := enc) (C := Tryd.checked) false (laidWorld os) #[.int .u32 0, .slice none 0 0, .slice none 0 0] rfl (by kernel_rfl) (by kernel_rfl) (by kernel_rfl)
      (OpenSpec.preRow_of_cond 8 hx (by kernel_rfl) (fun k hk => by cases hk; kernel_rfl) (by kernel_rfl) (laid_met os))) ?_
  intro W base args ds gs before hval hW _ hcond hsz hL _ _
  exact contract H enc W base args ds gs before hval hW hsz hL (hcond _ rfl)
theorem said : Rows.OctetsJoinsUptoSaid :=
  OpenClaim.holds_of_cond 6 Tryd.f6 rfl rfl rfl rfl rfl rfl rfl ⟨rfl, rfl, rfl, rfl, rfl⟩ rfl rfl rfl rfl rfl (by kernel_rfl) Tryd.func6 (by kernel_rfl)
    (of_decide_eq_true (by kernel_rfl)) (by unfold Func.isWrapper; first | (rw [if_pos (by decide +kernel)]; kernel_rfl) | (rw [if_neg (by decide +kernel)]; exact ⟨rfl, rfl⟩))
    (fun os started H enc _ F => by rw [OpenClaim.pre_eq_preRow]; exact lifted os started H enc F)
theorem plain (f : FuncId) (fn : Func) (hf : Tryd.pinned.checked.prog.funcNamed "ashlar/ashlarlaw01.OctetsJoins" = some f) (hfn : Tryd.pinned.checked.prog.funcs[f]? = some fn) :
    false = Tryd.pinned.checked.prog.looks [] ∧ ∀ (j : Nat) t, fn.params[j]? = some t → Tryd.pinned.checked.prog.wantsStandIn t = false := by
  obtain rfl : f = 6 := Option.some.inj ((show Tryd.prog.funcNamed "ashlar/ashlarlaw01.OctetsJoins" = some 6 by kernel_rfl).symm.trans hf) |>.symm
  obtain rfl : fn = Tryd.f6 := (Option.some.inj (Tryd.func6.symm.trans hfn)).symm
  refine ⟨by kernel_rfl, fun j t ht => ?_⟩
  rw [Tryd.params6] at ht
  have hm : t ∈ [32, 23, 23] := by simpa using Array.mem_of_getElem? ht
  have hall : ([32, 23, 23].all fun u => !Tryd.prog.wantsStandIn u) = true := by kernel_rfl
  exact (show Tryd.prog.wantsStandIn t = false by simpa using List.all_eq_true.1 hall t hm)

/-- ████ THE CARD ████ -/
theorem card : Rows.OctetsJoinsUptoCardSaid :=
  Claim7.holds_tied_plain_at .later [] _ _ _ _ said (fun _ h => by cases h) (by kernel_rfl) (fun _ h => by cases h) octetsJoinsUpto_row_tie rfl ⟨rfl, rfl⟩ (by kernel_rfl) rfl plain (by kernel_rfl)
end Go.Proofs.YtbagmmngepkaeaaDoor.octetsJoins
