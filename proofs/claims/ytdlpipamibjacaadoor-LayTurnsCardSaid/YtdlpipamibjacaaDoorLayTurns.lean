/-
  LayTurns is true for every number of members and every stripe: in as many stripes as there are members each one has the parity once.
  Conditions: none of its own; the table of places holds what the program's text lays (the card ties that).
-/
import Derived.Test.YtdlpipamibjacaaDoorLg
namespace Go.Proofs.YtdlpipamibjacaaDoor.L.layTurns
open Go.ChangeShapes Go.WideShapes Go.ChangeAt Go.RowKit

/-- In which of the stripes from f on the member q has the parity. -/
def idx (n f q : Nat) : Nat := (n - 1 - q + n - f % n) % n
theorem par_turn (n f i : Nat) (hn : 3 ≤ n) (hi : i < n) : par n (f + i) = if f % n + i < n then n - 1 - (f % n + i) else n - 1 - (f % n + i - n) := by
  have h := Nat.mod_lt f (show 0 < n by omega)
  unfold par
  rw [Nat.add_mod, Nat.mod_eq_of_lt hi, mod_turn n (f % n + i) (by omega)]
  split <;> rfl
theorem idx_turn (n f q : Nat) (hn : 3 ≤ n) (hq : q < n) : idx n f q = if n - 1 - q + n - f % n < n then n - 1 - q + n - f % n else n - 1 - q + n - f % n - n := by
  have h := Nat.mod_lt f (show 0 < n by omega)
  exact mod_turn n _ (by omega)
theorem idx_par (n f i q : Nat) (hn : 3 ≤ n) (hi : i < n) (hq : q < n) : idx n f q = i ↔ q = par n (f + i) := by
  have h := Nat.mod_lt f (show 0 < n by omega)
  rw [par_turn n f i hn hi, idx_turn n f q hn hq]
  split <;> split <;> omega
def seenL (n f i : Nat) : List Value := (List.range n).map fun q => Value.bool (decide (idx n f q < i))
theorem seenL_length (n f i : Nat) : (seenL n f i).length = n := by simp [seenL]
theorem seenL_zero (n f : Nat) : List.replicate n (Value.bool false) = seenL n f 0 := by
  apply List.ext_getElem?
  intro i
  by_cases h : i < n
  · simp [seenL, h]
  · simp [seenL, h]
theorem seenL_get (n f i q : Nat) (h : q < n) : (seenL n f i)[q]? = some (.bool (decide (idx n f q < i))) := by simp [seenL, h]
theorem seenL_set (n f i : Nat) (hn : 3 ≤ n) (hi : i < n) : (seenL n f i).set (par n (f + i)) (.bool true) = seenL n f (i + 1) := by
  apply List.ext_getElem?
  intro q
  rw [List.getElem?_set]
  by_cases h : q < n
  · have hx := idx_par n f i q hn hi h
    by_cases hk : par n (f + i) = q
    · rw [if_pos hk, if_pos (by rw [seenL_length]; omega), seenL_get _ _ _ _ h, hx.2 hk.symm]
      simp
    · rw [if_neg hk, seenL_get _ _ _ _ h, seenL_get _ _ _ _ h]
      have : idx n f q ≠ i := fun e => hk (hx.1 e).symm
      have e2 : decide (idx n f q < i) = decide (idx n f q < i + 1) := by rw [decide_eq_decide]; omega
      rw [e2]
  · have e1 : (seenL n f (i + 1))[q]? = none := List.getElem?_eq_none (by rw [seenL_length]; omega)
    have e2 : (seenL n f i)[q]? = none := List.getElem?_eq_none (by rw [seenL_length]; omega)
    rw [e1, e2]
    split
    · rw [if_neg (by rw [seenL_length]; omega)]
    · rfl
theorem info_bool : (Tryd.prog.info? 4).map (fun i => (i.zero, i.size, i.bytes)) = some (some (.bool false), 1, 1) := by kernel_rfl

set_option maxHeartbeats 1000000 in
theorem walk {w : World} (n : Int) (_ : -9223372036854775808 ≤ n) (_ : n ≤ 9223372036854775807) (s : Int) (_ : -9223372036854775808 ≤ s) (hs2 : s ≤ 9223372036854775807) (hT : Tab w) :
    Calls Tryd.prog 8 #[.int .i64 n, .int .i64 s] w fun e w' => e = .returned (.bool true) ∧ Below w.heap.size w w' := by
  have hv := Lib.hid (lives_yes w hT)
  clear hT
  have hc : n < 3 ∨ (3 ≤ n ∧ 16 < n) ∨ (3 ≤ n ∧ n ≤ 16 ∧ (s < 0 ∨ (0 ≤ s ∧ 1152921504606846976 < s))) ∨ (3 ≤ n ∧ n ≤ 16 ∧ 0 ≤ s ∧ s ≤ 1152921504606846976) := by omega
  rcases hc with h | ⟨h, h2⟩ | ⟨h, h2, h3 | ⟨h3, h4⟩⟩ | ⟨h, h2, h3, h4⟩
  case inr.inr.inr =>
    obtain ⟨n, rfl⟩ := nat_of (n := n) (by omega)
    obtain ⟨s, rfl⟩ := nat_of (n := s) (by omega)
    have hn3 : 3 ≤ n := by omega
    have hn16 : n ≤ 16 := by omega
    obtain ⟨i0, hi, hz0, hz1, hz2⟩ := info_parts info_bool
    go_enter Tryd.func8, Tryd.ntmps8
    go_wp2_with fail
    refine hv.out.mono ?_
    rintro e w1 ⟨rfl, hb1⟩
    go_wp2_with (at_make; refine wpList_make_full _ rfl _ _ 39 rfl w1.heap.size 4 i0 (.bool false) 1 Tryd.underlying39 hi hz0 hz1 _ _ _ _ n rfl rfl rfl rfl ?_ ?_ (Nat.le_refl _) ?_)
    · rw [hz2]; omega
    · unfold maxLen; omega
    intro w2 hown2 hgrow2
    have hb2 : Below w1.heap.size w1 w2 := (Below.refl _ _).grown hgrow2 (Nat.le_refl _) (fun k h => by cases h)
    have hb3 := below_on hb1 hb2
    have hgs : w.heap.size ≤ w1.heap.size := hb1.size
    clear hgrow2 hb1 hb2
    go_wp2
    clear hi hz0 hz1 hz2
    rw [toList_madeCells_one, seenL_zero n s] at hown2
    generalize w1.heap.size = g at *
    go_loopw [6, 7, 8] (fun s6 s7 s8 wr => ∃ i : Nat, i ≤ n ∧ s6 = .int .i64 i ∧ wr.ownsRow g 4 1 (.slice (some ⟨g, 0, none⟩) n n) n (seenL n s i) ∧ Below w.heap.size w wr) (fun i _ _ _ => n - (intOf i).toNat)
    case atStart => exact ⟨0, Nat.zero_le _, rfl, hown2, hb3⟩
    case round =>
      obtain ⟨i, hin, rfl, hown, hbel⟩ := hrel
      by_cases hlt : i < n
      · have q7 := Lib.hid (fun w => parity_ok n (s + i) w hn3 hn16 (by omega))
        have hcast : ((s + i : Nat) : Int) = (s : Int) + (i : Int) := by omega
        have hset := seenL_set n s i hn3 hlt
        have hpn := par_lt n (s + i) (by omega)
        have hx : idx n s (par n (s + i)) = i := (idx_par n s i _ hn3 hlt hpn).2 rfl
        have hst := (hown.stored (par n (s + i)) (.bool true)).1
        rw [hset] at hst
        have hcell := hown.cellAt (par n (s + i)) (by omega)
        rw [seenL_get _ _ _ _ hpn, hx] at hcell
        simp only [Nat.lt_irrefl, decide_false] at hcell
        have hfz := hown.frozenAt (par n (s + i))
        have hbel2 := hbel.setCell (p := ⟨g, par n (s + i), none⟩) hgs (.bool true)
        have Hst := Lib.hid hst
        clear hst hown hset hx hown2
        rw [hcast] at q7
        generalize par n (s + i) = p at *
        clear hcast
        go_wp2_with (go_at_call 17; refine (q7.out _).mono ?_; rintro e w' ⟨rfl, rfl⟩)
        go_roundw
        case rel => exact ⟨i + 1, by omega, by go_num, Hst.out, hbel2⟩
        case measure => simp [intOf]; omega
      · obtain rfl : i = n := by omega
        go_wp2
        go_ret
        exact ⟨rfl, hbel⟩
  all_goals
    go_enter Tryd.func8, Tryd.ntmps8
    go_wp2_with fail
    refine hv.out.mono ?_
    rintro e w1 ⟨rfl, hb1⟩
    go_wp2
    go_ret
    exact ⟨rfl, hb1⟩

set_option maxRecDepth 100000 in
/-- WHAT THE WALK GIVES, FOR EVERY ARGUMENT AND EVERY WORLD THAT HOLDS THE TABLES. -/
theorem contract (H : Type) (enc : TypeId × Value → H) (W : World) (base : Nat) (args : Array Value) (ds gs : List (DataW H)) (before : List MemPlace)
    (hval : ∀ (j : Nat) t v, Tryd.f8.params[j]? = some t → args[j]? = some v → Value.okWide Tryd.prog W .any base t v)
    (hW : DataW.Whole enc Tryd.prog Tryd.f8.params.toList Rows.layTurnsSpec.vars false W args.toList ds gs before)
    (hsz : (DataW.weightsEach Tryd.prog (Tryd.f8.params.toList ++ (OpenSpec.ofChange Rows.layTurnsSpec).bare.plain.varTypes Tryd.prog) (ds ++ gs)).all (· ≤ reachBytes) = true) (hL : laidMetH Tryd.prog laidBoth W) :
    Calls Tryd.prog 8 args W fun e W' => ∃ v, e = .returned v ∧ Rows.layTurnsSpec.post enc Tryd.prog Tryd.f8 false true false false W args v W' := by
  have hW' := hW
  obtain ⟨p, q, hA0, hV, rfl, hfz, hnd⟩ := hW
  have hA : DataW.TrodAll enc Tryd.prog W 0 (fun _ => true) true Tryd.f8.params.toList args.toList ds p := hA0
  have hsz2 : (DataW.weightsEach Tryd.prog (Tryd.f8.params.toList ++ []) (ds ++ gs)).all (· ≤ reachBytes) = true := hsz
  rw [Tryd.params8] at hA hval hsz2
  obtain ⟨v0, vs0, d0, ds0, p0, q0, hargs, rfl, rfl, h0, r0⟩ := trodAll_cons hA
  obtain ⟨v1, vs1, d1, ds1, p1, q1, rfl, rfl, rfl, h1, r1⟩ := trodAll_cons r0
  obtain ⟨rfl, rfl, rfl⟩ := trodAll_nil r1
  obtain rfl : args = #[v0, v1] := by cases args; simp_all
  obtain ⟨rfl, rfl⟩ := trodVars_none hV
  obtain ⟨a0, rfl, rfl, rfl, w0⟩ := open_int Tryd.underlying3 (hval 0 3 v0 rfl rfl) h0
  have bd0 := bounds_i64 w0
  obtain ⟨a1, rfl, rfl, rfl, w1⟩ := open_int Tryd.underlying3 (hval 1 3 v1 rfl rfl) h1
  have bd1 := bounds_i64 w1
  have hT := tabs_of_laid hL
  refine (walk a0 bd0.1 bd0.2 a1 bd1.1 bd1.2 hT).mono fun e W' ⟨he, bel⟩ => ?_
  subst he
  exact ⟨_, rfl, _, _, _, [], _, [], hW', trodAll_mk1 (shut_bool Tryd.underlying4 _), (trodAll_cons_mk (shut_int Tryd.underlying3 w0) (trodAll_cons_mk (shut_int Tryd.underlying3 w1) trodAll_mk0)), rfl, bel.frame _, fun h => by cases h⟩

theorem laid_met (os : Os) : laidMetH Tryd.prog laidBoth ((laidWorld os).forCall (fun _ _ => 0) ⟨#[], #[.int .i64 0, .int .i64 0], []⟩).memory :=
  laidMetH_of_parts3 (fuel := 8) (laidMet_of_run' 8 (by kernel_rfl) (by kernel_rfl)) (by kernel_rfl) (by kernel_rfl)
theorem reads (os : Os) {H : Type} (enc : TypeId × Value → H) : ∃ places, DataW.whole enc Tryd.prog ((laidWorld os).forCall (fun _ _ => 0) ⟨#[], #[.int .i64 0, .int .i64 0], []⟩).memory Tryd.f8.params.toList Rows.layTurnsSpec.vars false (#[.int .i64 0, .int .i64 0] : Array Value).toList 8 = some ([.lit (.int .i64 0), .lit (.int .i64 0)], [], places) :=
  ⟨[], by kernel_rfl⟩
set_option maxRecDepth 100000 in
theorem lifted (os : Os) (started : os.Started) (H : Type) (enc : TypeId × Value → H) (F : Stop.Interp) :
    ReturnsInHanded {} Tryd.checked os 8 .any ((OpenSpec.ofChange Rows.layTurnsSpec).preRow enc Tryd.prog Tryd.f8 Rows.layTurnsRow.domain false Rows.layTurnsRow.laid) (((OpenSpec.ofChange Rows.layTurnsSpec).at F).post enc Tryd.prog Tryd.f8 false true false false) := by
  obtain ⟨places, hx⟩ := reads os enc
  refine returnsInHanded_of_row (C := Tryd.checked) (s := (OpenSpec.ofChange Rows.layTurnsSpec)) own started (by kernel_rfl) Tryd.func8
    (witness_row_at (enc := enc) (C := Tryd.checked) false (laidWorld os) #[.int .i64 0, .int .i64 0] rfl (by kernel_rfl) (by kernel_rfl) (by kernel_rfl)
      (OpenSpec.preRow_of_cond 8 hx (by kernel_rfl) (fun k hk => by cases hk) (by kernel_rfl) (laid_met os))) ?_
  intro W base args ds gs before hval hW _ hcond hsz hL _ _
  exact contract H enc W base args ds gs before hval hW hsz hL
theorem said : Rows.LayTurnsSaid :=
  OpenClaim.holds_of_cond 8 Tryd.f8 rfl rfl rfl rfl rfl rfl rfl ⟨rfl, rfl, rfl, rfl, rfl⟩ rfl rfl rfl rfl rfl (by kernel_rfl) Tryd.func8 (by kernel_rfl)
    (of_decide_eq_true (by kernel_rfl)) (by unfold Func.isWrapper; first | (rw [if_pos (by decide +kernel)]; kernel_rfl) | (rw [if_neg (by decide +kernel)]; exact ⟨rfl, rfl⟩))
    (fun os started H enc _ F => by rw [OpenClaim.pre_eq_preRow]; exact lifted os started H enc F)
theorem plain (f : FuncId) (fn : Func) (hf : Tryd.pinned.checked.prog.funcNamed "ashlar/ashlarlaw03.LayTurns" = some f) (hfn : Tryd.pinned.checked.prog.funcs[f]? = some fn) :
    false = Tryd.pinned.checked.prog.looks [] ∧ ∀ (j : Nat) t, fn.params[j]? = some t → Tryd.pinned.checked.prog.wantsStandIn t = false := by
  obtain rfl : f = 8 := Option.some.inj ((show Tryd.prog.funcNamed "ashlar/ashlarlaw03.LayTurns" = some 8 by kernel_rfl).symm.trans hf) |>.symm
  obtain rfl : fn = Tryd.f8 := (Option.some.inj (Tryd.func8.symm.trans hfn)).symm
  refine ⟨by kernel_rfl, fun j t ht => ?_⟩
  rw [Tryd.params8] at ht
  have hm : t ∈ [3, 3] := by simpa using Array.mem_of_getElem? ht
  have hall : ([3, 3].all fun u => !Tryd.prog.wantsStandIn u) = true := by kernel_rfl
  exact (show Tryd.prog.wantsStandIn t = false by simpa using List.all_eq_true.1 hall t hm)

/-- ████ THE CARD ████ -/
theorem card : Rows.LayTurnsCardSaid :=
  Claim7.holds_tied_plain_at .later [] _ _ _ _ said (fun _ h => by cases h) (by kernel_rfl) (fun _ h => by cases h) layTurns_row_tie rfl ⟨rfl, rfl⟩ (by kernel_rfl) rfl plain (by kernel_rfl)
end Go.Proofs.YtdlpipamibjacaaDoor.L.layTurns
