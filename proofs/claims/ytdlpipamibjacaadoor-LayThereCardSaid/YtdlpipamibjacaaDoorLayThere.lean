/-
  LayThere is true for every number of members, of stripes and every block: each block has one spot, from which one comes back to it, and which is not the parity's.
  Conditions: none of its own; the table of places holds what the program's text lays (the card ties that).
-/
import Derived.Test.YtdlpipamibjacaaDoorLg
namespace Go.Proofs.YtdlpipamibjacaaDoor.L.layThere
open Go.ChangeShapes Go.WideShapes Go.ChangeAt Go.RowKit

set_option maxHeartbeats 1000000 in
theorem walk {w : World} (n : Int) (_ : -9223372036854775808 ≤ n) (_ : n ≤ 9223372036854775807) (s : Int) (_ : -9223372036854775808 ≤ s) (hs2 : s ≤ 9223372036854775807) (b : Int) (_ : -9223372036854775808 ≤ b) (hbM : b ≤ 9223372036854775807) (hT : Tab w) :
    Calls Tryd.prog 6 #[.int .i64 n, .int .i64 s, .int .i64 b] w fun e w' => e = .returned (.bool true) ∧ Below w.heap.size w w' := by
  have HT := Lib.hid hT
  clear hT
  rcases cap_or n s with h | ⟨h1, h2, h3, h4⟩
  · have q := Lib.hid (cap_no n s · h)
    clear h
    go_enter Tryd.func6, Tryd.ntmps6
    go_wp2_with (first
      | (go_at_call 15; refine (q.out _).mono ?_; rintro e w' ⟨rfl, rfl⟩)
      | (go_at_call 21; refine (lives_yes _ HT.out).mono ?_; rintro e w1 ⟨rfl, hb⟩))
    go_ret
    exact ⟨rfl, hb⟩
  · obtain ⟨n, rfl⟩ := nat_of (n := n) (by omega)
    obtain ⟨s, rfl⟩ := nat_of (n := s) (by omega)
    have q := Lib.hid (cap_ok n s · (by omega) (by omega) (by omega) (by omega))
    have hz : Hid (b < ((s * (n - 1) : Nat) : Int) → 0 ≤ b → b.toNat / (n - 1) < s) := Lib.hid fun h h0 => by
      rw [Nat.div_lt_iff_lt_mul (by omega)]; omega
    generalize hzz : s * (n - 1) = z at *
    clear hzz
    by_cases hlo : b < 0
    · go_enter Tryd.func6, Tryd.ntmps6
      go_wp2_with (first
        | (go_at_call 15; refine (q.out _).mono ?_; rintro e w' ⟨rfl, rfl⟩)
        | (go_at_call 21; refine (lives_yes _ HT.out).mono ?_; rintro e w1 ⟨rfl, hb⟩))
      go_ret
      exact ⟨rfl, hb⟩
    · by_cases hhi : b ≥ (z : Int)
      · have hd : decide (b < 0) = false := by simp; omega
        go_enter Tryd.func6, Tryd.ntmps6
        go_wp2_with (first
          | (go_at_call 15; refine (q.out _).mono ?_; rintro e w' ⟨rfl, rfl⟩)
          | (go_at_call 21; refine (lives_yes _ HT.out).mono ?_; rintro e w1 ⟨rfl, hb⟩))
        go_ret
        exact ⟨rfl, hb⟩
      · obtain ⟨b, rfl⟩ := nat_of (n := b) (by omega)
        have hq := hz.out (by omega) (by omega)
        rw [Int.toNat_natCast] at hq
        clear hz
        have d1 : decide ((b : Int) < 0) = false := by simp
        have d2 : decide ((b : Int) ≥ (z : Int)) = false := by simp; omega
        have d3 : decide ((z : Int) ≤ (b : Int)) = false := by simp; omega
        have hn3 : 3 ≤ n := by omega
        have hrb : b % (n - 1) < n - 1 := Nat.mod_lt _ (by omega)
        have hdm := Nat.div_add_mod b (n - 1)
        have q5 := fun w => map_ok n b w hn3 (by omega) (by omega)
        unfold spot at q5
        generalize b / (n - 1) = t at *
        generalize b % (n - 1) = r at *
        have hpn := par_lt n t (by omega)
        have hml := memAt_lt n (par n t) r (by omega)
        have hmp := mem_place n (par n t) (memAt n (par n t) r) r hpn hml (by omega)
        have hr := hmp.1 rfl
        have q6 := fun w => back_ok n t (memAt n (par n t) r) w hn3 (by omega) (by omega) hml
        unfold backV at q6
        rw [← hr, if_neg (by omega)] at q6
        have q7 := fun w => parity_ok n t w hn3 (by omega) (by omega)
        have hne : par n t ≠ memAt n (par n t) r := by
          intro e
          have := (mem_place n (par n t) (par n t) r hpn hpn (by omega)).1 e.symm
          have h2 := (mem_place n (par n t) (par n t) (n - 1) hpn hpn (by omega)).1 (memAt_last n _ hpn)
          omega
        have hbk : t * (n - 1) + r = b := by rw [Nat.mul_comm]; exact hdm
        rw [hbk] at q6
        have Q5 := Lib.hid q5
        have Q6 := Lib.hid q6
        have Q7 := Lib.hid q7
        clear q5 q6 q7 hmp hr hbk hdm
        generalize memAt n (par n t) r = m at *
        generalize par n t = p at *
        have d4 : ((p : Int) == (m : Int)) = false := by rw [beq_eq_false_iff_ne]; omega
        have d5 : ((p : Int) != (m : Int)) = true := by rw [bne_iff_ne]; omega
        have d6 : decide ((t : Int) < (s : Int)) = true := by simp; omega
        go_enter Tryd.func6, Tryd.ntmps6
        go_wp2_with (first
          | (go_at_call 15; refine (q.out _).mono ?_; rintro e w' ⟨rfl, rfl⟩)
          | (go_at_call 21; refine (lives_yes _ HT.out).mono ?_; rintro e w1 ⟨rfl, hb⟩))
        refine (Q5.out _).mono ?_
        rintro e w2 ⟨rfl, hb2⟩
        have hb3 := below_on hb hb2
        clear hb hb2
        have hblk := heap_alloc_last w2 (.cells #[.int .i64 t, .int .i64 m, .int .i64 r] 26)
        go_wp2_with fail
        have hb4 := hb3.alloc hb3.size (.cells #[.int .i64 t, .int .i64 m, .int .i64 r] 26)
        clear hb3
        generalize w2.alloc (.cells #[.int .i64 t, .int .i64 m, .int .i64 r] 26) = w3 at *
        generalize w2.heap.size = g at *
        have k0 : w3.cell? ⟨g, 0, none⟩ = some (.int .i64 t) := cell_of_row _ _ 0 _ _ _ hblk
        have k1 : w3.cell? ⟨g, 1, none⟩ = some (.int .i64 m) := cell_of_row _ _ 1 _ _ _ hblk
        have k2 : w3.cell? ⟨g, 2, none⟩ = some (.int .i64 r) := cell_of_row _ _ 2 _ _ _ hblk
        clear hblk
        refine (Q6.out _ (HT.out.over hb4)).mono ?_
        rintro e w' ⟨rfl, rfl⟩
        go_wp2_with (go_at_call 17; refine (Q7.out _).mono ?_; rintro e w' ⟨rfl, rfl⟩)
        go_ret
        exact ⟨rfl, hb4⟩

set_option maxRecDepth 100000 in
/-- WHAT THE WALK GIVES, FOR EVERY ARGUMENT AND EVERY WORLD THAT HOLDS THE TABLES. -/
theorem contract (H : Type) (enc : TypeId × Value → H) (W : World) (base : Nat) (args : Array Value) (ds gs : List (DataW H)) (before : List MemPlace)
    (hval : ∀ (j : Nat) t v, Tryd.f6.params[j]? = some t → args[j]? = some v → Value.okWide Tryd.prog W .any base t v)
    (hW : DataW.Whole enc Tryd.prog Tryd.f6.params.toList Rows.layThereSpec.vars false W args.toList ds gs before)
    (hsz : (DataW.weightsEach Tryd.prog (Tryd.f6.params.toList ++ (OpenSpec.ofChange Rows.layThereSpec).bare.plain.varTypes Tryd.prog) (ds ++ gs)).all (· ≤ reachBytes) = true) (hL : laidMetH Tryd.prog laidBoth W) :
    Calls Tryd.prog 6 args W fun e W' => ∃ v, e = .returned v ∧ Rows.layThereSpec.post enc Tryd.prog Tryd.f6 false true false false W args v W' := by
  have hW' := hW
  obtain ⟨p, q, hA0, hV, rfl, hfz, hnd⟩ := hW
  have hA : DataW.TrodAll enc Tryd.prog W 0 (fun _ => true) true Tryd.f6.params.toList args.toList ds p := hA0
  have hsz2 : (DataW.weightsEach Tryd.prog (Tryd.f6.params.toList ++ []) (ds ++ gs)).all (· ≤ reachBytes) = true := hsz
  rw [Tryd.params6] at hA hval hsz2
  obtain ⟨v0, vs0, d0, ds0, p0, q0, hargs, rfl, rfl, h0, r0⟩ := trodAll_cons hA
  obtain ⟨v1, vs1, d1, ds1, p1, q1, rfl, rfl, rfl, h1, r1⟩ := trodAll_cons r0
  obtain ⟨v2, vs2, d2, ds2, p2, q2, rfl, rfl, rfl, h2, r2⟩ := trodAll_cons r1
  obtain ⟨rfl, rfl, rfl⟩ := trodAll_nil r2
  obtain rfl : args = #[v0, v1, v2] := by cases args; simp_all
  obtain ⟨rfl, rfl⟩ := trodVars_none hV
  obtain ⟨a0, rfl, rfl, rfl, w0⟩ := open_int Tryd.underlying3 (hval 0 3 v0 rfl rfl) h0
  have bd0 := bounds_i64 w0
  obtain ⟨a1, rfl, rfl, rfl, w1⟩ := open_int Tryd.underlying3 (hval 1 3 v1 rfl rfl) h1
  have bd1 := bounds_i64 w1
  obtain ⟨a2, rfl, rfl, rfl, w2⟩ := open_int Tryd.underlying3 (hval 2 3 v2 rfl rfl) h2
  have bd2 := bounds_i64 w2
  have hT := tabs_of_laid hL
  refine (walk a0 bd0.1 bd0.2 a1 bd1.1 bd1.2 a2 bd2.1 bd2.2 hT).mono fun e W' ⟨he, bel⟩ => ?_
  subst he
  exact ⟨_, rfl, _, _, _, [], _, [], hW', trodAll_mk1 (shut_bool Tryd.underlying4 _), (trodAll_cons_mk (shut_int Tryd.underlying3 w0) (trodAll_cons_mk (shut_int Tryd.underlying3 w1) (trodAll_cons_mk (shut_int Tryd.underlying3 w2) trodAll_mk0))), rfl, bel.frame _, fun h => by cases h⟩

theorem laid_met (os : Os) : laidMetH Tryd.prog laidBoth ((laidWorld os).forCall (fun _ _ => 0) ⟨#[], #[.int .i64 0, .int .i64 0, .int .i64 0], []⟩).memory :=
  laidMetH_of_parts3 (fuel := 8) (laidMet_of_run' 8 (by kernel_rfl) (by kernel_rfl)) (by kernel_rfl) (by kernel_rfl)
theorem reads (os : Os) {H : Type} (enc : TypeId × Value → H) : ∃ places, DataW.whole enc Tryd.prog ((laidWorld os).forCall (fun _ _ => 0) ⟨#[], #[.int .i64 0, .int .i64 0, .int .i64 0], []⟩).memory Tryd.f6.params.toList Rows.layThereSpec.vars false (#[.int .i64 0, .int .i64 0, .int .i64 0] : Array Value).toList 8 = some ([.lit (.int .i64 0), .lit (.int .i64 0), .lit (.int .i64 0)], [], places) :=
  ⟨[], by kernel_rfl⟩
set_option maxRecDepth 100000 in
theorem lifted (os : Os) (started : os.Started) (H : Type) (enc : TypeId × Value → H) (F : Stop.Interp) :
    ReturnsInHanded {} Tryd.checked os 6 .any ((OpenSpec.ofChange Rows.layThereSpec).preRow enc Tryd.prog Tryd.f6 Rows.layThereRow.domain false Rows.layThereRow.laid) (((OpenSpec.ofChange Rows.layThereSpec).at F).post enc Tryd.prog Tryd.f6 false true false false) := by
  obtain ⟨places, hx⟩ := reads os enc
  refine returnsInHanded_of_row (C := Tryd.checked) (s := (OpenSpec.ofChange Rows.layThereSpec)) own started (by kernel_rfl) Tryd.func6
    (witness_row_at (enc := enc) (C := Tryd.checked) false (laidWorld os) #[.int .i64 0, .int .i64 0, .int .i64 0] rfl (by kernel_rfl) (by kernel_rfl) (by kernel_rfl)
      (OpenSpec.preRow_of_cond 8 hx (by kernel_rfl) (fun k hk => by cases hk) (by kernel_rfl) (laid_met os))) ?_
  intro W base args ds gs before hval hW _ hcond hsz hL _ _
  exact contract H enc W base args ds gs before hval hW hsz hL
theorem said : Rows.LayThereSaid :=
  OpenClaim.holds_of_cond 6 Tryd.f6 rfl rfl rfl rfl rfl rfl rfl ⟨rfl, rfl, rfl, rfl, rfl⟩ rfl rfl rfl rfl rfl (by kernel_rfl) Tryd.func6 (by kernel_rfl)
    (of_decide_eq_true (by kernel_rfl)) (by unfold Func.isWrapper; first | (rw [if_pos (by decide +kernel)]; kernel_rfl) | (rw [if_neg (by decide +kernel)]; exact ⟨rfl, rfl⟩))
    (fun os started H enc _ F => by rw [OpenClaim.pre_eq_preRow]; exact lifted os started H enc F)
theorem plain (f : FuncId) (fn : Func) (hf : Tryd.pinned.checked.prog.funcNamed "ashlar/ashlarlaw03.LayThere" = some f) (hfn : Tryd.pinned.checked.prog.funcs[f]? = some fn) :
    false = Tryd.pinned.checked.prog.looks [] ∧ ∀ (j : Nat) t, fn.params[j]? = some t → Tryd.pinned.checked.prog.wantsStandIn t = false := by
  obtain rfl : f = 6 := Option.some.inj ((show Tryd.prog.funcNamed "ashlar/ashlarlaw03.LayThere" = some 6 by kernel_rfl).symm.trans hf) |>.symm
  obtain rfl : fn = Tryd.f6 := (Option.some.inj (Tryd.func6.symm.trans hfn)).symm
  refine ⟨by kernel_rfl, fun j t ht => ?_⟩
  rw [Tryd.params6] at ht
  have hm : t ∈ [3, 3, 3] := by simpa using Array.mem_of_getElem? ht
  have hall : ([3, 3, 3].all fun u => !Tryd.prog.wantsStandIn u) = true := by kernel_rfl
  exact (show Tryd.prog.wantsStandIn t = false by simpa using List.all_eq_true.1 hall t hm)

/-- ████ THE CARD ████ -/
theorem card : Rows.LayThereCardSaid :=
  Claim7.holds_tied_plain_at .later [] _ _ _ _ said (fun _ h => by cases h) (by kernel_rfl) (fun _ h => by cases h) layThere_row_tie rfl ⟨rfl, rfl⟩ (by kernel_rfl) rfl plain (by kernel_rfl)
end Go.Proofs.YtdlpipamibjacaaDoor.L.layThere
