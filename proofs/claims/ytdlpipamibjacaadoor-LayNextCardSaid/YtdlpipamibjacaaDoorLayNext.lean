/-
  LayNext is true for every number of members and every block: the next block lies on the next member, round and round.
  Conditions: none of its own; the table of places holds what the program's text lays (the card ties that).
-/
import Derived.Test.YtdlpipamibjacaaDoorLg
namespace Go.Proofs.YtdlpipamibjacaaDoor.L.layNext
open Go.ChangeShapes Go.WideShapes Go.ChangeAt Go.RowKit

theorem next_in (n b : Nat) (_ : 3 ≤ n) (h : b % (n - 1) + 1 < n - 1) : (b + 1) / (n - 1) = b / (n - 1) ∧ (b + 1) % (n - 1) = b % (n - 1) + 1 := by
  have hdm := Nat.div_add_mod b (n - 1)
  generalize b / (n - 1) = q at *
  generalize b % (n - 1) = r at *
  have e : b + 1 = (r + 1) + (n - 1) * q := by omega
  rw [e, Nat.add_mul_div_left _ _ (by omega), Nat.add_mul_mod_self_left, Nat.div_eq_of_lt h, Nat.mod_eq_of_lt h]
  omega
theorem next_out (n b : Nat) (_ : 3 ≤ n) (h : b % (n - 1) + 1 = n - 1) : (b + 1) / (n - 1) = b / (n - 1) + 1 ∧ (b + 1) % (n - 1) = 0 := by
  have hdm := Nat.div_add_mod b (n - 1)
  generalize b / (n - 1) = q at *
  generalize b % (n - 1) = r at *
  have e : b + 1 = (n - 1) * (q + 1) := by rw [Nat.mul_add]; omega
  rw [e, Nat.mul_div_cancel_left _ (by omega), Nat.mul_mod_right]
  omega
theorem mod_succ (n q : Nat) (hn : 3 ≤ n) : (q + 1) % n = if q % n + 1 = n then 0 else q % n + 1 := by
  rw [Nat.add_mod, Nat.mod_eq_of_lt (show 1 < n by omega), mod_turn n (q % n + 1) (by have := Nat.mod_lt q (show 0 < n by omega); omega)]
  have := Nat.mod_lt q (show 0 < n by omega)
  split <;> split <;> omega
/-- The next block's member. -/
theorem next_member (n b : Nat) (hn : 3 ≤ n) : memAt n (par n ((b + 1) / (n - 1))) ((b + 1) % (n - 1)) = (memAt n (par n (b / (n - 1))) (b % (n - 1)) + 1) % n := by
  have hr : b % (n - 1) < n - 1 := Nat.mod_lt _ (by omega)
  have hq := Nat.mod_lt (b / (n - 1)) (show 0 < n by omega)
  rw [mod_turn n (memAt n (par n (b / (n - 1))) (b % (n - 1)) + 1) (by have := memAt_lt n (par n (b / (n - 1))) (b % (n - 1)) (by omega); omega)]
  rcases Nat.lt_or_ge (b % (n - 1) + 1) (n - 1) with h | h
  · obtain ⟨h1, h2⟩ := next_in n b hn h
    rw [h1, h2]
    have hp := par_lt n (b / (n - 1)) (by omega)
    rw [memAt_turn n _ _ hp (by omega), memAt_turn n _ _ hp (by omega)]
    generalize b % (n - 1) = r at *
    generalize par n (b / (n - 1)) = p at *
    split <;> split <;> split <;> omega
  · obtain ⟨h1, h2⟩ := next_out n b hn (by omega)
    rw [h1, h2]
    rw [memAt_turn n _ _ (par_lt n _ (by omega)) (by omega), memAt_turn n _ _ (par_lt n _ (by omega)) (by omega)]
    unfold par
    rw [mod_succ n _ hn]
    generalize b % (n - 1) = r at *
    generalize b / (n - 1) % n = y at *
    split <;> split <;> split <;> split <;> omega

set_option maxHeartbeats 1000000 in
theorem walk {w : World} (n : Int) (_ : -9223372036854775808 ≤ n) (_ : n ≤ 9223372036854775807) (b : Int) (_ : -9223372036854775808 ≤ b) (hbM : b ≤ 9223372036854775807) (hT : Tab w) :
    Calls Tryd.prog 9 #[.int .i64 n, .int .i64 b] w fun e w' => e = .returned (.bool true) ∧ Below w.heap.size w w' := by
  have HT := Lib.hid hT
  clear hT
  rcases not_or n b with h | ⟨h1, h2, h3⟩
  · have q := Lib.hid (fun w => map_no n b w h)
    clear h
    go_enter Tryd.func9, Tryd.ntmps9
    go_wp2_with fail
    refine (q.out _).mono ?_
    unfold noSpot
    rintro e w1 ⟨rfl, hb1⟩
    go_wp2_with fail
    have hb2 := hb1.alloc hb1.size (.cells #[.int .i64 0, .int .i64 0, .int .i64 0] 26)
    refine (lives_yes _ (HT.out.over hb2)).mono ?_
    rintro e w2 ⟨rfl, hb3⟩
    go_wp2_with fail
    go_ret
    exact ⟨rfl, below_on hb2 hb3⟩
  · obtain ⟨n, rfl⟩ := nat_of (n := n) (by omega)
    obtain ⟨b, rfl⟩ := nat_of (n := b) (by omega)
    have hn3 : 3 ≤ n := by omega
    have q5 := fun w => map_ok n b w hn3 (by omega) (by omega)
    unfold spot at q5
    by_cases hbig : (b : Int) > 1152921504606846976
    · have Q5 := Lib.hid q5
      clear q5
      go_enter Tryd.func9, Tryd.ntmps9
      go_wp2_with fail
      refine (Q5.out _).mono ?_
      rintro e w1 ⟨rfl, hb1⟩
      go_wp2_with fail
      refine (lives_yes _ (HT.out.over (hb1.alloc hb1.size _))).mono ?_
      rintro e w2 ⟨rfl, hb3⟩
      go_wp2_with fail
      go_ret
      exact ⟨rfl, below_on (hb1.alloc hb1.size _) hb3⟩
    · have q6 := fun w => map_ok n (b + 1) w hn3 (by omega) (by omega)
      unfold spot at q6
      have hm := next_member n b hn3
      have hml := memAt_lt n (par n (b / (n - 1))) (b % (n - 1)) (by omega)
      have hd : decide ((b : Int) > 1152921504606846976) = false := by simp; omega
      have hd2 : decide (1152921504606846976 < (b : Int)) = false := by simp; omega
      have hqb : b / (n - 1) ≤ b := Nat.div_le_self _ _
      have hrb : b % (n - 1) < n - 1 := Nat.mod_lt _ (by omega)
      rw [hm] at q6
      rw [show ((b + 1 : Nat) : Int) = (b : Int) + 1 from by omega] at q6
      have hmi : Hid (∀ m : Nat, ((m : Int) + 1) % (n : Int) = (((m + 1) % n : Nat) : Int)) := Lib.hid fun m => by simp
      rcases Nat.lt_or_ge (b % (n - 1) + 1) (n - 1) with h | h
      · obtain ⟨e1, e2⟩ := next_in n b hn3 h
        rw [e1, e2] at q6
        rw [show ((b % (n - 1) + 1 : Nat) : Int) = ((b % (n - 1) : Nat) : Int) + 1 from by omega] at q6
        have Q5 := Lib.hid q5
        have Q6 := Lib.hid q6
        clear q5 q6 hm e1 e2
        generalize b / (n - 1) = t at *
        generalize b % (n - 1) = r at *
        generalize memAt n (par n t) r = m at *
        have hmm := hmi.out m
        generalize (m + 1) % n = m2 at *
        clear hmi
        go_enter Tryd.func9, Tryd.ntmps9
        go_wp2_with fail
        refine (Q5.out _).mono ?_
        rintro e w1 ⟨rfl, hb1⟩
        go_wp2_with fail
        have hblk := heap_alloc_last w1 (.cells #[.int .i64 t, .int .i64 m, .int .i64 r] 26)
        have hb2 := hb1.alloc hb1.size (.cells #[.int .i64 t, .int .i64 m, .int .i64 r] 26)
        have hg1 : w1.heap.size < (w1.alloc (.cells #[.int .i64 t, .int .i64 m, .int .i64 r] 26)).heap.size := by simp
        generalize w1.alloc (.cells #[.int .i64 t, .int .i64 m, .int .i64 r] 26) = w2 at *
        generalize w1.heap.size = g at *
        clear hb1
        refine (lives_yes _ (HT.out.over hb2)).mono ?_
        rintro e w3 ⟨rfl, hb3⟩
        have hblk3 := (hb3.block g hg1).trans hblk
        have hg3 : g < w3.heap.size := Nat.lt_of_lt_of_le hg1 hb3.size
        have hb4 := below_on hb2 hb3
        clear hb2 hb3 hblk hg1
        go_wp2_with fail
        refine (Q6.out _).mono ?_
        rintro e w4 ⟨rfl, hb5⟩
        have hblk4 := (hb5.block g hg3).trans hblk3
        have hg4 : g < w4.heap.size := Nat.lt_of_lt_of_le hg3 hb5.size
        have hb6 := below_on hb4 hb5
        clear hb4 hb5 hblk3 hg3
        go_wp2_with fail
        have hy := heap_alloc_last w4 (.cells #[.int .i64 t, .int .i64 m2, .int .i64 ((r : Int) + 1)] 26)
        have hx := (Below.heap_alloc w4 (.cells #[.int .i64 t, .int .i64 m2, .int .i64 ((r : Int) + 1)] 26) g hg4).trans hblk4
        have hb7 := hb6.alloc hb6.size (.cells #[.int .i64 t, .int .i64 m2, .int .i64 ((r : Int) + 1)] 26)
        clear hblk4 hg4 hb6
        generalize w4.alloc (.cells #[.int .i64 t, .int .i64 m2, .int .i64 ((r : Int) + 1)] 26) = w5 at *
        generalize w4.heap.size = g2 at *
        have k0 : w5.cell? ⟨g, 0, none⟩ = some (.int .i64 t) := cell_of_row _ _ 0 _ _ _ hx
        have k1 : w5.cell? ⟨g, 1, none⟩ = some (.int .i64 m) := cell_of_row _ _ 1 _ _ _ hx
        have k2 : w5.cell? ⟨g, 2, none⟩ = some (.int .i64 r) := cell_of_row _ _ 2 _ _ _ hx
        have j0 : w5.cell? ⟨g2, 0, none⟩ = some (.int .i64 t) := cell_of_row _ _ 0 _ _ _ hy
        have j1 : w5.cell? ⟨g2, 1, none⟩ = some (.int .i64 m2) := cell_of_row _ _ 1 _ _ _ hy
        have j2 : w5.cell? ⟨g2, 2, none⟩ = some (.int .i64 ((r : Int) + 1)) := cell_of_row _ _ 2 _ _ _ hy
        have c3 : ((r : Int) + 1 == (r : Int) + 1) = true := beq_self_eq_true _
        clear hx hy
        go_quiet (fail)
        go_wp2_with fail
        go_ret
        exact ⟨rfl, hb7.trans ⟨rfl, rfl, rfl, Nat.le_refl _, fun _ _ => rfl⟩⟩
      · obtain ⟨e1, e2⟩ := next_out n b hn3 (by omega)
        rw [e1, e2] at q6
        rw [show ((b / (n - 1) + 1 : Nat) : Int) = ((b / (n - 1) : Nat) : Int) + 1 from by omega, show ((0 : Nat) : Int) = 0 from rfl] at q6
        have Q5 := Lib.hid q5
        have Q6 := Lib.hid q6
        clear q5 q6 hm e1 e2
        generalize b / (n - 1) = t at *
        generalize b % (n - 1) = r at *
        generalize memAt n (par n t) r = m at *
        have hmm := hmi.out m
        generalize (m + 1) % n = m2 at *
        clear hmi
        go_enter Tryd.func9, Tryd.ntmps9
        go_wp2_with fail
        refine (Q5.out _).mono ?_
        rintro e w1 ⟨rfl, hb1⟩
        go_wp2_with fail
        have hblk := heap_alloc_last w1 (.cells #[.int .i64 t, .int .i64 m, .int .i64 r] 26)
        have hb2 := hb1.alloc hb1.size (.cells #[.int .i64 t, .int .i64 m, .int .i64 r] 26)
        have hg1 : w1.heap.size < (w1.alloc (.cells #[.int .i64 t, .int .i64 m, .int .i64 r] 26)).heap.size := by simp
        generalize w1.alloc (.cells #[.int .i64 t, .int .i64 m, .int .i64 r] 26) = w2 at *
        generalize w1.heap.size = g at *
        clear hb1
        refine (lives_yes _ (HT.out.over hb2)).mono ?_
        rintro e w3 ⟨rfl, hb3⟩
        have hblk3 := (hb3.block g hg1).trans hblk
        have hg3 : g < w3.heap.size := Nat.lt_of_lt_of_le hg1 hb3.size
        have hb4 := below_on hb2 hb3
        clear hb2 hb3 hblk hg1
        go_wp2_with fail
        refine (Q6.out _).mono ?_
        rintro e w4 ⟨rfl, hb5⟩
        have hblk4 := (hb5.block g hg3).trans hblk3
        have hg4 : g < w4.heap.size := Nat.lt_of_lt_of_le hg3 hb5.size
        have hb6 := below_on hb4 hb5
        clear hb4 hb5 hblk3 hg3
        go_wp2_with fail
        have hy := heap_alloc_last w4 (.cells #[.int .i64 ((t : Int) + 1), .int .i64 m2, .int .i64 0] 26)
        have hx := (Below.heap_alloc w4 (.cells #[.int .i64 ((t : Int) + 1), .int .i64 m2, .int .i64 0] 26) g hg4).trans hblk4
        have hb7 := hb6.alloc hb6.size (.cells #[.int .i64 ((t : Int) + 1), .int .i64 m2, .int .i64 0] 26)
        clear hblk4 hg4 hb6
        generalize w4.alloc (.cells #[.int .i64 ((t : Int) + 1), .int .i64 m2, .int .i64 0] 26) = w5 at *
        generalize w4.heap.size = g2 at *
        have k0 : w5.cell? ⟨g, 0, none⟩ = some (.int .i64 t) := cell_of_row _ _ 0 _ _ _ hx
        have k1 : w5.cell? ⟨g, 1, none⟩ = some (.int .i64 m) := cell_of_row _ _ 1 _ _ _ hx
        have k2 : w5.cell? ⟨g, 2, none⟩ = some (.int .i64 r) := cell_of_row _ _ 2 _ _ _ hx
        have j0 : w5.cell? ⟨g2, 0, none⟩ = some (.int .i64 ((t : Int) + 1)) := cell_of_row _ _ 0 _ _ _ hy
        have j1 : w5.cell? ⟨g2, 1, none⟩ = some (.int .i64 m2) := cell_of_row _ _ 1 _ _ _ hy
        have j2 : w5.cell? ⟨g2, 2, none⟩ = some (.int .i64 0) := cell_of_row _ _ 2 _ _ _ hy
        have c3 : ((t : Int) + 1 == (t : Int)) = false := by rw [beq_eq_false_iff_ne]; omega
        have c4 : ((t : Int) + 1 == (t : Int) + 1) = true := beq_self_eq_true _
        clear hx hy
        go_quiet (fail)
        go_wp2_with fail
        go_ret
        exact ⟨rfl, hb7.trans ⟨rfl, rfl, rfl, Nat.le_refl _, fun _ _ => rfl⟩⟩

set_option maxRecDepth 100000 in
/-- WHAT THE WALK GIVES, FOR EVERY ARGUMENT AND EVERY WORLD THAT HOLDS THE TABLES. -/
theorem contract (H : Type) (enc : TypeId × Value → H) (W : World) (base : Nat) (args : Array Value) (ds gs : List (DataW H)) (before : List MemPlace)
    (hval : ∀ (j : Nat) t v, Tryd.f9.params[j]? = some t → args[j]? = some v → Value.okWide Tryd.prog W .any base t v)
    (hW : DataW.Whole enc Tryd.prog Tryd.f9.params.toList Rows.layNextSpec.vars false W args.toList ds gs before)
    (hsz : (DataW.weightsEach Tryd.prog (Tryd.f9.params.toList ++ (OpenSpec.ofChange Rows.layNextSpec).bare.plain.varTypes Tryd.prog) (ds ++ gs)).all (· ≤ reachBytes) = true) (hL : laidMetH Tryd.prog laidBoth W) :
    Calls Tryd.prog 9 args W fun e W' => ∃ v, e = .returned v ∧ Rows.layNextSpec.post enc Tryd.prog Tryd.f9 false true false false W args v W' := by
  have hW' := hW
  obtain ⟨p, q, hA0, hV, rfl, hfz, hnd⟩ := hW
  have hA : DataW.TrodAll enc Tryd.prog W 0 (fun _ => true) true Tryd.f9.params.toList args.toList ds p := hA0
  have hsz2 : (DataW.weightsEach Tryd.prog (Tryd.f9.params.toList ++ []) (ds ++ gs)).all (· ≤ reachBytes) = true := hsz
  rw [Tryd.params9] at hA hval hsz2
  obtain ⟨v0, vs0, d0, ds0, p0, q0, hargs, rfl, rfl, h0, r0⟩ := trodAll_cons hA
  obtain ⟨v1, vs1, d1, ds1, p1, q1, rfl, rfl, rfl, h1, r1⟩ := trodAll_cons r0
  obtain ⟨rfl, rfl, rfl⟩ := trodAll_nil r1
  obtain rfl : args = #[v0, v1] := by cases args; simp_all
  obtain ⟨rfl, rfl⟩ := trodVars_none hV
  obtain ⟨a0, rfl, rfl, rfl, w0⟩ := open_int Tryd.underlying3 (hval 0 3 v0 rfl rfl) h0
  have bd0 := bounds_i64 w0
  obtain ⟨a1, rfl, rfl, rfl, w1⟩ := open_int Tryd.underlying3 (hval 1 3 v1 rfl rfl) h1
  have bd1 := bounds_i64 w1
  have hT := tabs_of_laid hL
  refine (walk a0 bd0.1 bd0.2 a1 bd1.1 bd1.2 hT).mono fun e W' ⟨he, bel⟩ => ?_
  subst he
  exact ⟨_, rfl, _, _, _, [], _, [], hW', trodAll_mk1 (shut_bool Tryd.underlying4 _), (trodAll_cons_mk (shut_int Tryd.underlying3 w0) (trodAll_cons_mk (shut_int Tryd.underlying3 w1) trodAll_mk0)), rfl, bel.frame _, fun h => by cases h⟩

theorem laid_met (os : Os) : laidMetH Tryd.prog laidBoth ((laidWorld os).forCall (fun _ _ => 0) ⟨#[], #[.int .i64 0, .int .i64 0], []⟩).memory :=
  laidMetH_of_parts3 (fuel := 8) (laidMet_of_run' 8 (by kernel_rfl) (by kernel_rfl)) (by kernel_rfl) (by kernel_rfl)
theorem reads (os : Os) {H : Type} (enc : TypeId × Value → H) : ∃ places, DataW.whole enc Tryd.prog ((laidWorld os).forCall (fun _ _ => 0) ⟨#[], #[.int .i64 0, .int .i64 0], []⟩).memory Tryd.f9.params.toList Rows.layNextSpec.vars false (#[.int .i64 0, .int .i64 0] : Array Value).toList 8 = some ([.lit (.int .i64 0), .lit (.int .i64 0)], [], places) :=
  ⟨[], by kernel_rfl⟩
set_option maxRecDepth 100000 in
theorem lifted (os : Os) (started : os.Started) (H : Type) (enc : TypeId × Value → H) (F : Stop.Interp) :
    ReturnsInHanded {} Tryd.checked os 9 .any ((OpenSpec.ofChange Rows.layNextSpec).preRow enc Tryd.prog Tryd.f9 Rows.layNextRow.domain false Rows.layNextRow.laid) (((OpenSpec.ofChange Rows.layNextSpec).at F).post enc Tryd.prog Tryd.f9 false true false false) := by
  obtain ⟨places, hx⟩ := reads os enc
  refine returnsInHanded_of_row (C := Tryd.checked) (s := (OpenSpec.ofChange Rows.layNextSpec)) own started (by kernel_rfl) Tryd.func9
    (witness_row_at (enc := enc) (C := Tryd.checked) false (laidWorld os) #[.int .i64 0, .int .i64 0] rfl (by kernel_rfl) (by kernel_rfl) (by kernel_rfl)
      (OpenSpec.preRow_of_cond 8 hx (by kernel_rfl) (fun k hk => by cases hk) (by kernel_rfl) (laid_met os))) ?_
  intro W base args ds gs before hval hW _ hcond hsz hL _ _
  exact contract H enc W base args ds gs before hval hW hsz hL
theorem said : Rows.LayNextSaid :=
  OpenClaim.holds_of_cond 9 Tryd.f9 rfl rfl rfl rfl rfl rfl rfl ⟨rfl, rfl, rfl, rfl, rfl⟩ rfl rfl rfl rfl rfl (by kernel_rfl) Tryd.func9 (by kernel_rfl)
    (of_decide_eq_true (by kernel_rfl)) (by unfold Func.isWrapper; first | (rw [if_pos (by decide +kernel)]; kernel_rfl) | (rw [if_neg (by decide +kernel)]; exact ⟨rfl, rfl⟩))
    (fun os started H enc _ F => by rw [OpenClaim.pre_eq_preRow]; exact lifted os started H enc F)
theorem plain (f : FuncId) (fn : Func) (hf : Tryd.pinned.checked.prog.funcNamed "ashlar/ashlarlaw03.LayNext" = some f) (hfn : Tryd.pinned.checked.prog.funcs[f]? = some fn) :
    false = Tryd.pinned.checked.prog.looks [] ∧ ∀ (j : Nat) t, fn.params[j]? = some t → Tryd.pinned.checked.prog.wantsStandIn t = false := by
  obtain rfl : f = 9 := Option.some.inj ((show Tryd.prog.funcNamed "ashlar/ashlarlaw03.LayNext" = some 9 by kernel_rfl).symm.trans hf) |>.symm
  obtain rfl : fn = Tryd.f9 := (Option.some.inj (Tryd.func9.symm.trans hfn)).symm
  refine ⟨by kernel_rfl, fun j t ht => ?_⟩
  rw [Tryd.params9] at ht
  have hm : t ∈ [3, 3] := by simpa using Array.mem_of_getElem? ht
  have hall : ([3, 3].all fun u => !Tryd.prog.wantsStandIn u) = true := by kernel_rfl
  exact (show Tryd.prog.wantsStandIn t = false by simpa using List.all_eq_true.1 hall t hm)

/-- ████ THE CARD ████ -/
theorem card : Rows.LayNextCardSaid :=
  Claim7.holds_tied_plain_at .later [] _ _ _ _ said (fun _ h => by cases h) (by kernel_rfl) (fun _ h => by cases h) layNext_row_tie rfl ⟨rfl, rfl⟩ (by kernel_rfl) rfl plain (by kernel_rfl)
end Go.Proofs.YtdlpipamibjacaaDoor.L.layNext
