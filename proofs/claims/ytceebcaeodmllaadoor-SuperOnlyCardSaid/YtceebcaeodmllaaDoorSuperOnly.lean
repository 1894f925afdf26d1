/-
  SuperOnly is true for all bytes: what is decoded is that of those bytes alone.
  Conditions: none of its own; the tables hold what the program's text lays (the card ties that).
-/
import Derived.Test.YtceebcaeodmllaaDoorSy
namespace Go.Proofs.YtceebcaeodmllaaDoor.S.superOnly
open Go.ChangeShapes Go.WideShapes Go.ChangeAt Go.RowKit

set_option maxRecDepth 20000 in
set_option maxHeartbeats 2000000 in
theorem walk_len {w : World} (A : Option Addr) (n c : Nat) (hn : n ≠ 128) (hm : n ≤ 140737488355328) (hA : All w) :
    Calls Tryd.prog 5 #[.slice A n c] w fun e w' => e = .returned (.bool true) ∧ Below w.heap.size w w' := by
  have q := decode_len A n c w hn hm
  unfold Decoded at q
  simp only [sup0, Sup.val, Sup.cells] at q
  clear hn hm
  go_enter Tryd.func5, Tryd.ntmps5
  go_wp2_with fail
  refine q.mono ?_
  clear q
  rintro e w1 ⟨rfl, b1⟩
  have b2 : Below w1.heap.size w1 (w1.alloc (.cells #[.int .i64 0, .int .i64 0, .int .i64 0, .int .i64 0, .int .i64 0, .int .i64 0, .int .i64 0, .int .i64 0] 23)) := (Below.refl _ _).alloc (Nat.le_refl _) _
  have r2 : (w1.alloc (.cells #[.int .i64 0, .int .i64 0, .int .i64 0, .int .i64 0, .int .i64 0, .int .i64 0, .int .i64 0, .int .i64 0] 23)).heap[w1.heap.size]? = some (.cells #[.int .i64 0, .int .i64 0, .int .i64 0, .int .i64 0, .int .i64 0, .int .i64 0, .int .i64 0, .int .i64 0] 23 (0, 0)) := heap_alloc_last _ _
  have z2 : w1.heap.size < (w1.alloc (.cells #[.int .i64 0, .int .i64 0, .int .i64 0, .int .i64 0, .int .i64 0, .int .i64 0, .int .i64 0, .int .i64 0] 23)).heap.size := by simp
  have A2 := (hA.over b1).over b2
  have hb2 := below_on b1 b2
  clear b1 b2
  go_wp2_with fail
  generalize w1.alloc (.cells #[.int .i64 0, .int .i64 0, .int .i64 0, .int .i64 0, .int .i64 0, .int .i64 0, .int .i64 0, .int .i64 0] 23) = w2 at *
  refine (lives_true w2 A2).mono ?_
  rintro e w3 ⟨rfl, b3⟩
  obtain ⟨k0, k1, k2, k3, k4, k5, k6, k7, _⟩ := cells8_of ((b3.block _ z2).trans r2)
  have hb3 := below_on hb2 b3
  clear r2 z2 A2 hb2 b3
  go_wp2_with fail
  go_ret
  exact ⟨rfl, hb3⟩
set_option maxRecDepth 20000 in
set_option maxHeartbeats 2000000 in
theorem walk_no {w : World} (A : Option Addr) (c : Nat) (l : List Nat) (hs : Small l) (hr : Reads w w.heap.size A 128 (bts l)) (hA : All w) (ho : okD l = false) :
    Calls Tryd.prog 5 #[.slice A 128 c] w fun e w' => e = .returned (.bool true) ∧ Below w.heap.size w w' := by
  have q := decode_is A c l hs w hr hA.tabs hA.wid
  unfold toldOf codeD at q
  rw [ho] at q
  unfold Decoded at q
  simp only [sup0, Sup.val, Sup.cells, Bool.false_eq_true, if_false] at q
  clear ho hs hr
  go_enter Tryd.func5, Tryd.ntmps5
  go_wp2_with fail
  refine q.mono ?_
  clear q
  rintro e w1 ⟨rfl, b1⟩
  have b2 : Below w1.heap.size w1 (w1.alloc (.cells #[.int .i64 0, .int .i64 0, .int .i64 0, .int .i64 0, .int .i64 0, .int .i64 0, .int .i64 0, .int .i64 0] 23)) := (Below.refl _ _).alloc (Nat.le_refl _) _
  have r2 : (w1.alloc (.cells #[.int .i64 0, .int .i64 0, .int .i64 0, .int .i64 0, .int .i64 0, .int .i64 0, .int .i64 0, .int .i64 0] 23)).heap[w1.heap.size]? = some (.cells #[.int .i64 0, .int .i64 0, .int .i64 0, .int .i64 0, .int .i64 0, .int .i64 0, .int .i64 0, .int .i64 0] 23 (0, 0)) := heap_alloc_last _ _
  have z2 : w1.heap.size < (w1.alloc (.cells #[.int .i64 0, .int .i64 0, .int .i64 0, .int .i64 0, .int .i64 0, .int .i64 0, .int .i64 0, .int .i64 0] 23)).heap.size := by simp
  have A2 := (hA.over b1).over b2
  have hb2 := below_on b1 b2
  clear b1 b2
  go_wp2_with fail
  generalize w1.alloc (.cells #[.int .i64 0, .int .i64 0, .int .i64 0, .int .i64 0, .int .i64 0, .int .i64 0, .int .i64 0, .int .i64 0] 23) = w2 at *
  refine (lives_true w2 A2).mono ?_
  rintro e w3 ⟨rfl, b3⟩
  obtain ⟨k0, k1, k2, k3, k4, k5, k6, k7, _⟩ := cells8_of ((b3.block _ z2).trans r2)
  have hb3 := below_on hb2 b3
  clear r2 z2 A2 hb2 b3
  go_wp2_with fail
  go_ret
  exact ⟨rfl, hb3⟩
set_option maxRecDepth 20000 in
set_option maxHeartbeats 2000000 in
theorem walk_yes {w : World} (A : Option Addr) (c : Nat) (l : List Nat) (hs : Small l) (hr : Reads w w.heap.size A 128 (bts l)) (hA : All w) (ho : okD l = true) :
    Calls Tryd.prog 5 #[.slice A 128 c] w fun e w' => e = .returned (.bool true) ∧ Below w.heap.size w w' := by
  have q := decode_is A c l hs w hr hA.tabs hA.wid
  unfold toldOf codeD at q
  rw [ho] at q
  have ho2 : (supOf l).right = true ∧ encL (supOf l).nums = l := by simpa [okD] using ho
  have QE := Lib.hid (fun w => encode_ok (supOf l) w ho2.1)
  rw [ho2.2] at QE
  unfold Decoded at q
  simp only [if_true] at q
  clear ho ho2
  generalize supOf l = s at *
  obtain ⟨x0, x1, x2, x3, x4, x5, x6, x7⟩ := s
  simp only [Sup.val, Sup.cells] at *
  go_enter Tryd.func5, Tryd.ntmps5
  go_wp2_with fail
  refine q.mono ?_
  clear q
  rintro e w1 ⟨rfl, b1⟩
  have b2 : Below w1.heap.size w1 (w1.alloc (.cells #[.int .i64 x0, .int .i64 x1, .int .i64 x2, .int .i64 x3, .int .i64 x4, .int .i64 x5, .int .i64 x6, .int .i64 x7] 23)) := (Below.refl _ _).alloc (Nat.le_refl _) _
  have r2 : (w1.alloc (.cells #[.int .i64 x0, .int .i64 x1, .int .i64 x2, .int .i64 x3, .int .i64 x4, .int .i64 x5, .int .i64 x6, .int .i64 x7] 23)).heap[w1.heap.size]? = some (.cells #[.int .i64 x0, .int .i64 x1, .int .i64 x2, .int .i64 x3, .int .i64 x4, .int .i64 x5, .int .i64 x6, .int .i64 x7] 23 (0, 0)) := heap_alloc_last _ _
  have z2 : w1.heap.size < (w1.alloc (.cells #[.int .i64 x0, .int .i64 x1, .int .i64 x2, .int .i64 x3, .int .i64 x4, .int .i64 x5, .int .i64 x6, .int .i64 x7] 23)).heap.size := by simp
  have A2 := (hA.over b1).over b2
  have hb2 := below_on b1 b2
  have d2 := reads_over (reads_over hr b1) b2
  clear b1 b2 hr hA
  go_wp2_with fail
  generalize w1.alloc (.cells #[.int .i64 x0, .int .i64 x1, .int .i64 x2, .int .i64 x3, .int .i64 x4, .int .i64 x5, .int .i64 x6, .int .i64 x7] 23) = w2 at *
  refine (lives_true w2 A2).mono ?_
  rintro e w3 ⟨rfl, b3⟩
  obtain ⟨k0, k1, k2, k3, k4, k5, k6, k7, _⟩ := cells8_of ((b3.block _ z2).trans r2)
  have hb3 := below_on hb2 b3
  have A3 := A2.over b3
  have d3 := reads_over d2 b3
  clear r2 z2 A2 hb2 b3 d2
  go_wp2_with fail
  refine (QE.out w3 A3.tabs A3.wid).mono ?_
  rintro e w4 ⟨g, rfl, hown, b4⟩
  have c1 := run_str 128 (Reads.of_own hown)
  have c2 := run_str c (reads_over d3 b4)
  have hb4 := below_on hb3 b4
  generalize strL l = sv at *
  clear k0 k1 k2 k3 k4 k5 k6 k7 hown b4 d3 hb3 A3
  go_wp2_with fail
  go_ret
  exact ⟨rfl, hb4⟩
theorem walk {w : World} (A : Option Addr) (n c : Nat) (l : List Nat) (hs : Small l) (hr : Reads w w.heap.size A n (bts l)) (hn : n ≤ 140737488351232) (hA : All w) :
    Calls Tryd.prog 5 #[.slice A n c] w fun e w' => e = .returned (.bool true) ∧ Below w.heap.size w w' := by
  by_cases h : n = 128
  · subst h
    cases ho : okD l
    · exact walk_no A c l hs hr hA ho
    · exact walk_yes A c l hs hr hA ho
  · exact walk_len A n c h (by omega) hA
set_option maxRecDepth 100000 in
/-- WHAT THE WALK GIVES, FOR EVERY ARGUMENT AND EVERY WORLD THAT HOLDS THE TABLES. -/
theorem contract (H : Type) (enc : TypeId × Value → H) (W : World) (base : Nat) (args : Array Value) (ds gs : List (DataW H)) (before : List MemPlace)
    (hval : ∀ (j : Nat) t v, Tryd.f5.params[j]? = some t → args[j]? = some v → Value.okWide Tryd.prog W .any base t v)
    (hW : DataW.Whole enc Tryd.prog Tryd.f5.params.toList Rows.superOnlySpec.vars false W args.toList ds gs before)
    (hsz : (DataW.weightsEach Tryd.prog (Tryd.f5.params.toList ++ (OpenSpec.ofChange Rows.superOnlySpec).bare.plain.varTypes Tryd.prog) (ds ++ gs)).all (· ≤ reachBytes) = true) (hL : laidMetH Tryd.prog laidBoth W) :
    Calls Tryd.prog 5 args W fun e W' => ∃ v, e = .returned v ∧ Rows.superOnlySpec.post enc Tryd.prog Tryd.f5 false true false false W args v W' := by
  have hW' := hW
  obtain ⟨p, q, hA0, hV, rfl, hfz, hnd⟩ := hW
  have hA : DataW.TrodAll enc Tryd.prog W 0 (fun _ => true) true Tryd.f5.params.toList args.toList ds p := hA0
  have hsz2 : (DataW.weightsEach Tryd.prog (Tryd.f5.params.toList ++ []) (ds ++ gs)).all (· ≤ reachBytes) = true := hsz
  rw [Tryd.params5] at hA hval hsz2
  obtain ⟨v0, vs0, d0, ds0, p0, q0, hargs, rfl, rfl, h0, r0⟩ := trodAll_cons hA
  obtain ⟨rfl, rfl, rfl⟩ := trodAll_nil r0
  obtain rfl : args = #[v0] := by cases args; simp_all
  obtain ⟨rfl, rfl⟩ := trodVars_none hV
  obtain ⟨A0, n0, c0, rfl⟩ := okWide_slice Tryd.underlying24 (hval 0 24 v0 rfl rfl)
  have k0 := h0
  have lt0 : ∀ x ∈ p0, x.block < W.heap.size := by obtain ⟨m, hm⟩ := k0; exact DataW.trod_lt m _ _ _ hm
  obtain ⟨l0, sl0, rd0, nc0, _, dd0⟩ : ∃ l, Small l ∧ Reads W W.heap.size A0 n0 (bts l) ∧ n0 ≤ c0 ∧ c0 ≤ maxLen ∧ ((d0 = .nil ∧ c0 = 0) ∨ ∃ es sp, d0 = .slice es sp ∧ es.length + sp.length = c0) := by obtain ⟨fuel, hf⟩ := h0; exact bytes_in (by simpa [Value.cells] using hf)
  have b0 : n0 ≤ 140737488351232 := by
    rcases dd0 with ⟨_, hc0⟩ | ⟨es, sp, hd, hc0⟩
    · omega
    · have := sized_slice (P := Tryd.prog) hsz2 (j := 0) (t := 24) (e := 5) rfl (by rw [hd]; rfl) Tryd.underlying24
      rw [bytesU8] at this; simp only [reachBytes] at this; omega
  have hT := tabs_of_laid hL
  refine (walk A0 n0 c0 l0 sl0 rd0 b0 hT).mono fun e W' ⟨he, bel⟩ => ?_
  subst he
  exact ⟨_, rfl, _, _, _, [], _, [], hW', trodAll_mk1 (shut_bool Tryd.underlying4 _), (trodAll_cons_mk (Below.trod laidOut (by kernel_rfl) (of_decide_eq_true (by kernel_rfl)) k0 bel lt0) trodAll_mk0), rfl, bel.frame _, fun h => by cases h⟩

theorem laid_met (os : Os) : laidMetH Tryd.prog laidBoth ((laidWorld os).forCall (fun _ _ => 0) ⟨#[], #[.slice none 0 0], []⟩).memory :=
  laidMetH_of_parts3 (fuel := 8) (laidMet_of_run' 8 (by kernel_rfl) (by kernel_rfl)) (by kernel_rfl) (by kernel_rfl)
theorem reads (os : Os) {H : Type} (enc : TypeId × Value → H) : ∃ places, DataW.whole enc Tryd.prog ((laidWorld os).forCall (fun _ _ => 0) ⟨#[], #[.slice none 0 0], []⟩).memory Tryd.f5.params.toList Rows.superOnlySpec.vars false (#[.slice none 0 0] : Array Value).toList 8 = some ([.nil], [], places) :=
  ⟨[], by kernel_rfl⟩
set_option maxRecDepth 100000 in
theorem lifted (os : Os) (started : os.Started) (H : Type) (enc : TypeId × Value → H) (F : Stop.Interp) :
    ReturnsInHanded {} Tryd.checked os 5 .any ((OpenSpec.ofChange Rows.superOnlySpec).preRow enc Tryd.prog Tryd.f5 Rows.superOnlyRow.domain false Rows.superOnlyRow.laid) (((OpenSpec.ofChange Rows.superOnlySpec).at F).post enc Tryd.prog Tryd.f5 false true false false) := by
  obtain ⟨places, hx⟩ := reads os enc
  refine returnsInHanded_of_row (C := Tryd.checked) (s := (OpenSpec.ofChange Rows.superOnlySpec)) own started (by kernel_rfl) Tryd.func5
    (witness_row_at (enc := enc) (C := Tryd.checked) false (laidWorld os) #[.slice none 0 0] rfl (by kernel_rfl) (by kernel_rfl) (by kernel_rfl)
      (OpenSpec.preRow_of_cond 8 hx (by kernel_rfl) (fun k hk => by cases hk) (by kernel_rfl) (laid_met os))) ?_
  intro W base args ds gs before hval hW _ hcond hsz hL _ _
  exact contract H enc W base args ds gs before hval hW hsz hL
theorem said : Rows.SuperOnlySaid :=
  OpenClaim.holds_of_cond 5 Tryd.f5 rfl rfl rfl rfl rfl rfl rfl ⟨rfl, rfl, rfl, rfl, rfl⟩ rfl rfl rfl rfl rfl (by kernel_rfl) Tryd.func5 (by kernel_rfl)
    (of_decide_eq_true (by kernel_rfl)) (by unfold Func.isWrapper; first | (rw [if_pos (by decide +kernel)]; kernel_rfl) | (rw [if_neg (by decide +kernel)]; exact ⟨rfl, rfl⟩))
    (fun os started H enc _ F => by rw [OpenClaim.pre_eq_preRow]; exact lifted os started H enc F)
theorem plain (f : FuncId) (fn : Func) (hf : Tryd.pinned.checked.prog.funcNamed "ashlar/ashlarlaw04.SuperOnly" = some f) (hfn : Tryd.pinned.checked.prog.funcs[f]? = some fn) :
    false = Tryd.pinned.checked.prog.looks [] ∧ ∀ (j : Nat) t, fn.params[j]? = some t → Tryd.pinned.checked.prog.wantsStandIn t = false := by
  obtain rfl : f = 5 := Option.some.inj ((show Tryd.prog.funcNamed "ashlar/ashlarlaw04.SuperOnly" = some 5 by kernel_rfl).symm.trans hf) |>.symm
  obtain rfl : fn = Tryd.f5 := (Option.some.inj (Tryd.func5.symm.trans hfn)).symm
  refine ⟨by kernel_rfl, fun j t ht => ?_⟩
  rw [Tryd.params5] at ht
  have hm : t ∈ [24] := by simpa using Array.mem_of_getElem? ht
  have hall : ([24].all fun u => !Tryd.prog.wantsStandIn u) = true := by kernel_rfl
  exact (show Tryd.prog.wantsStandIn t = false by simpa using List.all_eq_true.1 hall t hm)

/-- ████ THE CARD ████ -/
theorem card : Rows.SuperOnlyCardSaid :=
  Claim7.holds_tied_plain_at .later [] _ _ _ _ said (fun _ h => by cases h) (by kernel_rfl) (fun _ h => by cases h) superOnly_row_tie rfl ⟨rfl, rfl⟩ (by kernel_rfl) rfl plain (by kernel_rfl)
end Go.Proofs.YtceebcaeodmllaaDoor.S.superOnly
