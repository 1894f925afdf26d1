/-
  OctetsTurned is true for every seed, every slice of bytes, every place and every byte: one byte that is another one makes another sum.
  Conditions: none of its own; the two tables of the sum hold what the program's text lays (the card ties that).
-/
import Derived.Test.YtbagmmngepkaeaaDoorFrame
namespace Go.Proofs.YtbagmmngepkaeaaDoor.octetsTurned
open Go.ChangeShapes Go.WideShapes Go.ChangeAt Go.RowKit

set_option maxHeartbeats 400000 in
theorem walk_out {w : World} (s : Nat) (A : Option Addr) (n c : Nat) (hn0 : n ≤ 140737488351232) (i : Int) (x : Nat) (hT : Tabs w) (h : x = 0 ∨ i < 0 ∨ (n : Int) ≤ i) :
    Calls Tryd.prog 7 #[.int .u32 s, .slice A n c, .int .i64 i, .int .u8 x] w fun e w' => e = .returned (.bool true) ∧ Below w.heap.size w w' := by
  by_cases h0 : x = 0
  · have t0 : ((x : Int) == 0) = true := by rw [beq_iff_eq]; omega
    clear h0 h
    go_enter Tryd.func7, Tryd.ntmps7
    go_wp2_with fail
    refine (lives_yes w hT).mono ?_
    rintro e w1 ⟨rfl, hb⟩
    go_wp2_with fail
    go_ret
    exact ⟨rfl, hb⟩
  · have t0 : ((x : Int) == 0) = false := by rw [beq_eq_false_iff_ne]; omega
    by_cases h1 : i < 0
    · have t1 : decide (i < 0) = true := by simpa using h1
      clear h0 h
      go_enter Tryd.func7, Tryd.ntmps7
      go_wp2_with fail
      refine (lives_yes w hT).mono ?_
      rintro e w1 ⟨rfl, hb⟩
      go_wp2_with fail
      go_ret
      exact ⟨rfl, hb⟩
    · have t1 : decide (i < 0) = false := by simpa using h1
      have t2 : decide ((n : Int) ≤ i) = true := by simp; omega
      clear h0 h h1
      go_enter Tryd.func7, Tryd.ntmps7
      go_wp2_with fail
      refine (lives_yes w hT).mono ?_
      rintro e w1 ⟨rfl, hb⟩
      go_wp2_with fail
      go_ret
      exact ⟨rfl, hb⟩

set_option maxHeartbeats 400000 in
theorem walk_in {w : World} (s : Nat) (hs : s < 4294967296) (A : Option Addr) (n c : Nat) (l : List Nat) (hl : Small l) (hr : Reads w w.heap.size A n (bts l)) (hn0 : n ≤ 140737488351232) (i : Nat) (x : Nat) (hx : x < 256) (hT : Tabs w) (hx0 : x ≠ 0) (hin : i < n) :
    Calls Tryd.prog 7 #[.int .u32 s, .slice A n c, .int .i64 i, .int .u8 x] w fun e w' => e = .returned (.bool true) ∧ Below w.heap.size w w' := by
  have hsz := hT.size
  have hn : n ≤ maxLen := by unfold maxLen; omega
  obtain ⟨i0, hi, hz0, hz1, hz2⟩ := info_parts info_u8
  have t0 : ((x : Int) == 0) = false := by rw [beq_eq_false_iff_ne]; omega
  have t1 : decide ((i : Int) < 0) = false := by simp
  have t2 : decide ((n : Int) ≤ (i : Int)) = false := by simp; omega
  have hlen := Lib.hid hr.len
  go_enter Tryd.func7, Tryd.ntmps7
  go_wp2_with fail
  refine (lives_yes w hT).mono ?_
  rintro e w1 ⟨rfl, hb⟩
  have hr1 := reads_over hr hb
  have hT1 := hT.below hsz hb
  have hy := hl.get i
  have hne := Lib.hid (Nums.sum_set_ne hl hs i (by rw [hr.len]; exact hin) (l.getD i 0 ^^^ x) (Nums.xor_lt_256 hy hx) (by
    intro h
    have h2 : l.getD i 0 ^^^ x = l.getD i 0 ^^^ 0 := by rw [h, Nat.xor_zero]
    exact hx0 (Nums.xor_cancel_left h2)))
  have e1 := u8_xor_nat _ _ hy hx
  have hsm : Small (l.set i (l.getD i 0 ^^^ x)) := by
    intro y hyy
    rcases List.mem_or_eq_of_mem_set hyy with h | h
    · exact hl y h
    · rw [h]; exact Nums.xor_lt_256 hy hx
  have hget := Lib.hid (bts_get l i (by rw [hr.len]; exact hin))
  have hset := Lib.hid (bts_set l i (l.getD i 0 ^^^ x))
  generalize l.getD i 0 = y at *
  go_wp2_with (at_builtin; refine appendAll _ rfl _ _ 23 rfl w1.heap.size 5 i0 (.int .u8 0) 1 Tryd.underlying23 hi hz0 hz1 hz2 rfl (.slice (some ⟨w1.heap.size, 0, none⟩) 0 0) 0 [] rfl (by exact World.ownsRow_made w1 #[] 0 (Nat.le_refl _) (by decide) rfl) w1.heap.size A n c (bts l) rfl (hr1.alloc (Nat.le_refl _) _) (bts_one l) (by unfold maxLen; omega) (by omega) w1 (by exact (Below.refl _ _).alloc (Nat.le_refl _) _) (by simp) ?_; intro v2 w2 hown2 _ hbel2; rw [Nat.zero_add, List.nil_append] at hown2; obtain ⟨g, cap, rfl, hg, hltg⟩ := hown2.form (by omega); have hfz := hown2.frozenAt i; have hc := hown2.cellAt i (by omega); rw [hget.out] at hc)
  have hst := (hown2.stored i (.int .u8 ((y ^^^ x : Nat) : Int))).1
  rw [hset.out] at hst
  obtain ⟨A3, c3, hv3, hr3, _, _⟩ := own_shape hst
  injection hv3 with hA3 _ hc3
  subst hA3; subst hc3
  have hrA := (hr1.below hbel2).setCell (p := ⟨g, i, none⟩) hg (.int .u8 ((y ^^^ x : Nat) : Int))
  have hbw := below_on hb (hbel2.setCell (p := ⟨g, i, none⟩) hg (.int .u8 ((y ^^^ x : Nat) : Int)))
  have hTw := hT.below hsz hbw
  clear hst hown2 hbel2 hfz hc hr1 hT1
  generalize w2.setCell ⟨g, i, none⟩ (.int .u8 ((y ^^^ x : Nat) : Int)) = w3 at *
  go_wp2_with fail
  refine (crc_any A n c _ l s w3 hs hl hrA hn hTw).mono ?_
  rintro e w' ⟨rfl, d1, rfl⟩
  go_wp2_with fail
  refine (crc_any _ n _ _ (l.set i (y ^^^ x)) s _ hs hsm (hr3.drewN d1) hn (hTw.drewN d1)).mono ?_
  rintro e w' ⟨rfl, d2, rfl⟩
  have hneq : (((Nums.sum s l : Nat) : Int) != ((Nums.sum s (l.set i (y ^^^ x)) : Nat) : Int)) = true := by
    have := hne.out
    rw [bne_iff_ne]; omega
  go_wp2_with fail
  go_ret
  exact ⟨rfl, hbw.trans ⟨rfl, rfl, rfl, Nat.le_refl _, fun _ _ => rfl⟩⟩

theorem walk {w : World} (s : Nat) (hs : s < 4294967296) (A : Option Addr) (n c : Nat) (l : List Nat) (hl : Small l) (hr : Reads w w.heap.size A n (bts l)) (hn0 : n ≤ 140737488351232) (i : Int) (hlo : -9223372036854775808 ≤ i) (hhi : i ≤ 9223372036854775807) (x : Nat) (hx : x < 256) (hT : Tabs w) :
    Calls Tryd.prog 7 #[.int .u32 s, .slice A n c, .int .i64 i, .int .u8 x] w fun e w' => e = .returned (.bool true) ∧ Below w.heap.size w w' := by
  by_cases h : x = 0 ∨ i < 0 ∨ (n : Int) ≤ i
  · exact walk_out s A n c hn0 i x hT h
  · obtain ⟨j, rfl⟩ := Int.eq_ofNat_of_zero_le (show 0 ≤ i by omega)
    exact walk_in s hs A n c l hl hr hn0 j x hx hT (by omega) (by omega)

set_option maxRecDepth 100000 in
/-- WHAT THE WALK GIVES, FOR EVERY ARGUMENT AND EVERY WORLD THAT HOLDS THE TABLES. -/
theorem contract (H : Type) (enc : TypeId × Value → H) (W : World) (base : Nat) (args : Array Value) (ds gs : List (DataW H)) (before : List MemPlace)
    (hval : ∀ (j : Nat) t v, Tryd.f7.params[j]? = some t → args[j]? = some v → Value.okWide Tryd.prog W .any base t v)
    (hW : DataW.Whole enc Tryd.prog Tryd.f7.params.toList Rows.octetsTurnedSpec.vars false W args.toList ds gs before)
    (hsz : (DataW.weightsEach Tryd.prog (Tryd.f7.params.toList ++ (OpenSpec.ofChange Rows.octetsTurnedSpec).bare.plain.varTypes Tryd.prog) (ds ++ gs)).all (· ≤ reachBytes) = true) (hL : laidMetH Tryd.prog laidBoth W) :
    Calls Tryd.prog 7 args W fun e W' => ∃ v, e = .returned v ∧ Rows.octetsTurnedSpec.post enc Tryd.prog Tryd.f7 false true false false W args v W' := by
  have hW' := hW
  obtain ⟨p, q, hA0, hV, rfl, hfz, hnd⟩ := hW
  have hA : DataW.TrodAll enc Tryd.prog W 0 (fun _ => true) true Tryd.f7.params.toList args.toList ds p := hA0
  have hsz2 : (DataW.weightsEach Tryd.prog (Tryd.f7.params.toList ++ []) (ds ++ gs)).all (· ≤ reachBytes) = true := hsz
  rw [Tryd.params7] at hA hval hsz2
  obtain ⟨v0, vs0, d0, ds0, p0, q0, hargs, rfl, rfl, h0, r0⟩ := trodAll_cons hA
  obtain ⟨v1, vs1, d1, ds1, p1, q1, rfl, rfl, rfl, h1, r1⟩ := trodAll_cons r0
  obtain ⟨v2, vs2, d2, ds2, p2, q2, rfl, rfl, rfl, h2, r2⟩ := trodAll_cons r1
  obtain ⟨v3, vs3, d3, ds3, p3, q3, rfl, rfl, rfl, h3, r3⟩ := trodAll_cons r2
  obtain ⟨rfl, rfl, rfl⟩ := trodAll_nil r3
  obtain rfl : args = #[v0, v1, v2, v3] := by cases args; simp_all
  obtain ⟨rfl, rfl⟩ := trodVars_none hV
  obtain ⟨a0, rfl, rfl, rfl, w0⟩ := open_int Tryd.underlying32 (hval 0 32 v0 rfl rfl) h0
  have bd0 := bounds_u32 w0
  obtain ⟨m0, hm0⟩ : ∃ m : Nat, a0 = (m : Int) := ⟨a0.toNat, by omega⟩
  obtain ⟨A1, n1, c1, rfl⟩ := okWide_slice Tryd.underlying23 (hval 1 23 v1 rfl rfl)
  have k1 := h1
  have lt1 : ∀ x ∈ p1, x.block < W.heap.size := by obtain ⟨m, hm⟩ := k1; exact DataW.trod_lt m _ _ _ hm
  obtain ⟨l1, sl1, rd1, nc1, _, dd1⟩ : ∃ l, Small l ∧ Reads W W.heap.size A1 n1 (bts l) ∧ n1 ≤ c1 ∧ c1 ≤ maxLen ∧ ((d1 = .nil ∧ c1 = 0) ∨ ∃ es sp, d1 = .slice es sp ∧ es.length + sp.length = c1) := by obtain ⟨fuel, hf⟩ := h1; exact bytes_in (by simpa [Value.cells] using hf)
  have b1 : n1 ≤ 140737488351232 := by
    rcases dd1 with ⟨_, hc0⟩ | ⟨es, sp, hd, hc0⟩
    · omega
    · have := sized_slice (P := Tryd.prog) hsz2 (j := 1) (t := 23) (e := 5) rfl (by rw [hd]; rfl) Tryd.underlying23
      rw [bytesU8] at this; simp only [reachBytes] at this; omega
  obtain ⟨a2, rfl, rfl, rfl, w2⟩ := open_int Tryd.underlying3 (hval 2 3 v2 rfl rfl) h2
  have bd2 := bounds_i64 w2
  obtain ⟨a3, rfl, rfl, rfl, w3⟩ := open_int Tryd.underlying5 (hval 3 5 v3 rfl rfl) h3
  have bd3 := bounds_u8 w3
  obtain ⟨m3, hm3⟩ : ∃ m : Nat, a3 = (m : Int) := ⟨a3.toNat, by omega⟩
  have hT := tabs_of_laid hL
  subst hm0
  subst hm3
  refine (walk m0 (by omega) A1 n1 c1 l1 sl1 rd1 b1 a2 bd2.1 bd2.2 m3 (by omega) hT).mono fun e W' ⟨he, bel⟩ => ?_
  subst he
  exact ⟨_, rfl, _, _, _, [], _, [], hW', trodAll_mk1 (shut_bool Tryd.underlying4 _), (trodAll_cons_mk (shut_int Tryd.underlying32 w0) (trodAll_cons_mk (Below.trod laidOut (by kernel_rfl) (of_decide_eq_true (by kernel_rfl)) k1 bel lt1) (trodAll_cons_mk (shut_int Tryd.underlying3 w2) (trodAll_cons_mk (shut_int Tryd.underlying5 w3) trodAll_mk0)))), rfl, bel.frame _, fun h => by cases h⟩

theorem laid_met (os : Os) : laidMetH Tryd.prog laidBoth ((laidWorld os).forCall (fun _ _ => 0) ⟨#[], #[.int .u32 0, .slice none 0 0, .int .i64 0, .int .u8 0], []⟩).memory :=
  laidMetH_of_parts3 (fuel := 8) (laidMet_of_run' 8 (by kernel_rfl) (by kernel_rfl)) (by kernel_rfl) (by kernel_rfl)
theorem reads (os : Os) {H : Type} (enc : TypeId × Value → H) : ∃ places, DataW.whole enc Tryd.prog ((laidWorld os).forCall (fun _ _ => 0) ⟨#[], #[.int .u32 0, .slice none 0 0, .int .i64 0, .int .u8 0], []⟩).memory Tryd.f7.params.toList Rows.octetsTurnedSpec.vars false (#[.int .u32 0, .slice none 0 0, .int .i64 0, .int .u8 0] : Array Value).toList 8 = some ([.lit (.int .u32 0), .nil, .lit (.int .i64 0), .lit (.int .u8 0)], [], places) :=
  ⟨[], by kernel_rfl⟩
set_option maxRecDepth 100000 in
theorem lifted (os : Os) (started : os.Started) (H : Type) (enc : TypeId × Value → H) (F : Stop.Interp) :
    ReturnsInHanded {} Tryd.checked os 7 .any ((OpenSpec.ofChange Rows.octetsTurnedSpec).preRow enc Tryd.prog Tryd.f7 Rows.octetsTurnedRow.domain false Rows.octetsTurnedRow.laid) (((OpenSpec.ofChange Rows.octetsTurnedSpec).at F).post enc Tryd.prog Tryd.f7 false true false false) := by
  obtain ⟨places, hx⟩ := reads os enc
  refine returnsInHanded_of_row (C := Tryd.checked) (s := (OpenSpec.ofChange Rows.octetsTurnedSpec)) own started (by kernel_rfl) Tryd.func7
    (witness_row_at (enc := enc) (C := Tryd.checked) false (laidWorld os) #[.int .u32 0, .slice none 0 0, .int .i64 0, .int .u8 0] rfl (by kernel_rfl) (by kernel_rfl) (by kernel_rfl)
      (OpenSpec.preRow_of_cond 8 hx (by kernel_rfl) (fun k hk => by cases hk) (by kernel_rfl) (laid_met os))) ?_
  intro W base args ds gs before hval hW _ hcond hsz hL _ _
  exact contract H enc W base args ds gs before hval hW hsz hL
theorem said : Rows.OctetsTurnedSaid :=
  OpenClaim.holds_of_cond 7 Tryd.f7 rfl rfl rfl rfl rfl rfl rfl ⟨rfl, rfl, rfl, rfl, rfl⟩ rfl rfl rfl rfl rfl (by kernel_rfl) Tryd.func7 (by kernel_rfl)
    (of_decide_eq_true (by kernel_rfl)) (by unfold Func.isWrapper; first | (rw [if_pos (by decide +kernel)]; kernel_rfl) | (rw [if_neg (by decide +kernel)]; exact ⟨rfl, rfl⟩))
    (fun os started H enc _ F => by rw [OpenClaim.pre_eq_preRow]; exact lifted os started H enc F)
theorem plain (f : FuncId) (fn : Func) (hf : Tryd.pinned.checked.prog.funcNamed "ashlar/ashlarlaw01.OctetsTurned" = some f) (hfn : Tryd.pinned.checked.prog.funcs[f]? = some fn) :
    false = Tryd.pinned.checked.prog.looks [] ∧ ∀ (j : Nat) t, fn.params[j]? = some t → Tryd.pinned.checked.prog.wantsStandIn t = false := by
  obtain rfl : f = 7 := Option.some.inj ((show Tryd.prog.funcNamed "ashlar/ashlarlaw01.OctetsTurned" = some 7 by kernel_rfl).symm.trans hf) |>.symm
  obtain rfl : fn = Tryd.f7 := (Option.some.inj (Tryd.func7.symm.trans hfn)).symm
  refine ⟨by kernel_rfl, fun j t ht => ?_⟩
  rw [Tryd.params7] at ht
  have hm : t ∈ [32, 23, 3, 5] := by have := Array.mem_of_getElem? ht; simp only [List.mem_toArray, List.mem_cons, List.not_mem_nil, or_false] at this ⊢; omega
  have hall : ([32, 23, 3, 5].all fun u => !Tryd.prog.wantsStandIn u) = true := by kernel_rfl
  exact (show Tryd.prog.wantsStandIn t = false by simpa using List.all_eq_true.1 hall t hm)

/-- ████ THE CARD ████ -/
theorem card : Rows.OctetsTurnedCardSaid :=
  Claim7.holds_tied_plain_at .later [] _ _ _ _ said (fun _ h => by cases h) (by kernel_rfl) (fun _ h => by cases h) octetsTurned_row_tie rfl ⟨rfl, rfl⟩ (by kernel_rfl) rfl plain (by kernel_rfl)
end Go.Proofs.YtbagmmngepkaeaaDoor.octetsTurned
