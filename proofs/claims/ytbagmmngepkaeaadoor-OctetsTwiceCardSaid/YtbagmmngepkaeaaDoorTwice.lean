/-
  OctetsTwice is true for every two slices of bytes: the same text put twice changes nothing, and put to itself it is noughts.
  Conditions: none of its own; the two tables of the sum hold what the program's text lays (the card ties that).
-/
import Derived.Test.YtbagmmngepkaeaaDoorFrame
namespace Go.Proofs.YtbagmmngepkaeaaDoor.octetsTwice
open Go.ChangeShapes Go.WideShapes Go.ChangeAt Go.RowKit

theorem xorL_length (a b : List Nat) : (xorL a b).length = a.length := by rw [xorL, tab_length]
theorem xorL_get (a b : List Nat) (i : Nat) (h : i < a.length) : (xorL a b).getD i 0 = a.getD i 0 ^^^ b.getD i 0 := tab_get _ _ _ h
theorem xorL_small {a b : List Nat} (ha : Small a) (hb : Small b) : Small (xorL a b) := tab_small fun i _ => Nums.xor_lt_256 (ha.get i) (hb.get i)
theorem xorL_twice (a b : List Nat) : xorL (xorL a b) b = a := by
  have e : xorL (xorL a b) b = tab (fun i => a.getD i 0) a.length := by
    unfold xorL
    rw [tab_length]
    unfold tab
    refine List.map_congr_left fun i hi => ?_
    have hi2 : i < a.length := by simpa using hi
    have := xorL_get a b i hi2
    unfold xorL tab at this
    rw [this, Nat.xor_assoc, Nat.xor_self, Nat.xor_zero]
  rw [e, tab_eq]
theorem xorL_self (a : List Nat) (i : Nat) (h : i < a.length) : (xorL a a).getD i 0 = 0 := by rw [xorL_get a a i h, Nat.xor_self]

set_option maxHeartbeats 1000000 in
theorem walk {w : World} (A : Option Addr) (n c : Nat) (l : List Nat) (hl : Small l) (hr : Reads w w.heap.size A n (bts l)) (hn0 : n ≤ 140737488351232)
    (B : Option Addr) (m d : Nat) (k : List Nat) (hk : Small k) (hr2 : Reads w w.heap.size B m (bts k)) (_hm0 : m ≤ 140737488351232) (hT : Tabs w) :
    Calls Tryd.prog 9 #[.slice A n c, .slice B m d] w fun e w' => e = .returned (.bool true) ∧ Below w.heap.size w w' := by
  have hsz := hT.size
  by_cases hnm : n = m
  · subst hnm
    have hlen := Lib.hid hr.len
    have hx1 := xorL_small hl hk
    have hxl := xorL_length l k
    have htw := Lib.hid (xorL_twice l k)
    have htwl := Lib.hid (xorL_length (xorL l k) k)
    have hself := Lib.hid (xorL_self l)
    have hsl := xorL_length l l
    rw [hr.len] at hxl hsl
    have Hxl := Lib.hid hxl
    have Hsl := Lib.hid hsl
    clear hxl hsl
    go_enter Tryd.func9, Tryd.ntmps9
    go_wp2_with fail
    refine (xor_ok A B n c d _ l k w hl hk hr hr2 (Nat.le_refl _) hn0).mono ?_
    rintro e w1 ⟨v1, rfl, hown1, hb1⟩
    rw [Hxl.out] at hown1
    obtain ⟨A1, c1, rfl, hr1, _, _⟩ := own_shape hown1
    have hrA1 := reads_over hr hb1
    have hrB1 := reads_over hr2 hb1
    clear hown1 hr hr2
    go_wp2_with fail
    refine (lives_yes w1 (hT.below hsz hb1)).mono ?_
    rintro e w2 ⟨rfl, hb2⟩
    have hrA2 := reads_over hrA1 hb2
    have hrB2 := reads_over hrB1 hb2
    have hr12 := reads_over hr1 hb2
    have hbw2 := below_on hb1 hb2
    clear hrA1 hrB1 hr1 hb1 hb2
    go_wp2_with fail
    refine (xor_ok A1 B n c1 d _ (xorL l k) k w2 hx1 hk hr12 hrB2 (Nat.le_refl _) hn0).mono ?_
    rintro e w3 ⟨v3, rfl, hown3, hb3⟩
    rw [htwl.out, Hxl.out, htw.out] at hown3
    obtain ⟨A3, c3, rfl, hr3, _, _⟩ := own_shape hown3
    have hrA3 := reads_over hrA2 hb3
    have hbw3 := below_on hbw2 hb3
    clear hown3 hrA2 hrB2 hr12 hbw2 hb3
    go_wp2_with fail
    refine (xor_ok A A n c c _ l l w3 hl hl hrA3 hrA3 (Nat.le_refl _) hn0).mono ?_
    rintro e w4 ⟨v4, rfl, hown4, hb4⟩
    rw [Hsl.out] at hown4
    obtain ⟨A4, c4, rfl, hr4, _, _⟩ := own_shape hown4
    have hrA4 := reads_over hrA3 hb4
    have hr34 := reads_over hr3 hb4
    have hbw4 := below_on hbw3 hb4
    clear hown4 hrA3 hr3 hbw3 hb4
    have s3 := run_str c3 hr34
    have sA := run_str c hrA4
    clear hr34 hrA4
    go_wp2_with fail
    go_loop [11] (fun s11 => ∃ i : Nat, i ≤ n ∧ s11 = .int .i64 i) (fun s11 => n - (intOf s11).toNat)
    case atStart => exact ⟨0, Nat.zero_le _, rfl⟩
    case round =>
      obtain ⟨i, hi, rfl⟩ := hrel
      by_cases hlt : i < n
      · obtain ⟨a4, rfl, _, hc4⟩ := hr4.byte hlt
        rw [hself.out i (by have := hlen.out; omega)] at hc4
        go_wp2
        go_round
        case rel => exact ⟨i + 1, by omega, by go_num⟩
        case measure => simp [intOf]; omega
      · go_wp2
        go_ret
        exact ⟨rfl, hbw4⟩
  · have hne : ((n : Int) != (m : Int)) = true := by rw [bne_iff_ne]; omega
    go_enter Tryd.func9, Tryd.ntmps9
    go_wp2_with fail
    refine (xor_no A B n m c d w hnm).mono ?_
    rintro e w1 ⟨rfl, rfl⟩
    go_wp2_with fail
    refine (lives_yes w hT).mono ?_
    rintro e w2 ⟨rfl, hb2⟩
    clear hnm
    go_wp2_with fail
    go_ret
    exact ⟨rfl, hb2⟩

set_option maxRecDepth 100000 in
/-- WHAT THE WALK GIVES, FOR EVERY ARGUMENT AND EVERY WORLD THAT HOLDS THE TABLES. -/
theorem contract (H : Type) (enc : TypeId × Value → H) (W : World) (base : Nat) (args : Array Value) (ds gs : List (DataW H)) (before : List MemPlace)
    (hval : ∀ (j : Nat) t v, Tryd.f9.params[j]? = some t → args[j]? = some v → Value.okWide Tryd.prog W .any base t v)
    (hW : DataW.Whole enc Tryd.prog Tryd.f9.params.toList Rows.octetsTwiceSpec.vars false W args.toList ds gs before)
    (hsz : (DataW.weightsEach Tryd.prog (Tryd.f9.params.toList ++ (OpenSpec.ofChange Rows.octetsTwiceSpec).bare.plain.varTypes Tryd.prog) (ds ++ gs)).all (· ≤ reachBytes) = true) (hL : laidMetH Tryd.prog laidBoth W) :
    Calls Tryd.prog 9 args W fun e W' => ∃ v, e = .returned v ∧ Rows.octetsTwiceSpec.post enc Tryd.prog Tryd.f9 false true false false W args v W' := by
  have hW' := hW
  obtain ⟨p, q, hA0, hV, rfl, hfz, hnd⟩ := hW
  have hA : DataW.TrodAll enc Tryd.prog W 0 (fun _ => true) true Tryd.f9.params.toList args.toList ds p := hA0
  have hsz2 : (DataW.weightsEach Tryd.prog (Tryd.f9.params.toList ++ []) (ds ++ gs)).all (· ≤ reachBytes) = true := hsz
  rw [Tryd.params9] at hA hval hsz2
  obtain ⟨v0, vs0, d0, ds0, p0, q0, hargs, rfl, rfl, h0, r0⟩ := trodAll_cons hA
  obtain ⟨v1, vs1, d1, ds1, p1, q1, rfl, rfl, rfl, h1, r1⟩ := trodAll_cons r0
  obtain ⟨rfl, rfl, rfl⟩ := trodAll_nil r1
  obtain rfl : args = #[v0, v1] := by cases args; simp_all
  obtain ⟨rfl, rfl⟩ := trodVars_none hV
  obtain ⟨A0, n0, c0, rfl⟩ := okWide_slice Tryd.underlying23 (hval 0 23 v0 rfl rfl)
  have k0 := h0
  have lt0 : ∀ x ∈ p0, x.block < W.heap.size := by obtain ⟨m, hm⟩ := k0; exact DataW.trod_lt m _ _ _ hm
  obtain ⟨l0, sl0, rd0, nc0, _, dd0⟩ : ∃ l, Small l ∧ Reads W W.heap.size A0 n0 (bts l) ∧ n0 ≤ c0 ∧ c0 ≤ maxLen ∧ ((d0 = .nil ∧ c0 = 0) ∨ ∃ es sp, d0 = .slice es sp ∧ es.length + sp.length = c0) := by obtain ⟨fuel, hf⟩ := h0; exact bytes_in (by simpa [Value.cells] using hf)
  have b0 : n0 ≤ 140737488351232 := by
    rcases dd0 with ⟨_, hc0⟩ | ⟨es, sp, hd, hc0⟩
    · omega
    · have := sized_slice (P := Tryd.prog) hsz2 (j := 0) (t := 23) (e := 5) rfl (by rw [hd]; rfl) Tryd.underlying23
      rw [bytesU8] at this; simp only [reachBytes] at this; omega
  obtain ⟨A1, n1, c1, rfl⟩ := okWide_slice Tryd.underlying23 (hval 1 23 v1 rfl rfl)
  have k1 := h1
  have lt1 : ∀ x ∈ p1, x.block < W.heap.size := by obtain ⟨m, hm⟩ := k1; exact DataW.trod_lt m _ _ _ hm
  obtain ⟨l1, sl1, rd1, nc1, _, dd1⟩ : ∃ l, Small l ∧ Reads W W.heap.size A1 n1 (bts l) ∧ n1 ≤ c1 ∧ c1 ≤ maxLen ∧ ((d1 = .nil ∧ c1 = 0) ∨ ∃ es sp, d1 = .slice es sp ∧ es.length + sp.length = c1) := by obtain ⟨fuel, hf⟩ := h1; exact bytes_in (by simpa [Value.cells] using hf)
  have b1 : n1 ≤ 140737488351232 := by
    rcases dd1 with ⟨_, hc0⟩ | ⟨es, sp, hd, hc0⟩
    · omega
    · have := sized_slice (P := Tryd.prog) hsz2 (j := 1) (t := 23) (e := 5) rfl (by rw [hd]; rfl) Tryd.underlying23
      rw [bytesU8] at this; simp only [reachBytes] at this; omega
  have hT := tabs_of_laid hL
  refine (walk A0 n0 c0 l0 sl0 rd0 b0 A1 n1 c1 l1 sl1 rd1 b1 hT).mono fun e W' ⟨he, bel⟩ => ?_
  subst he
  exact ⟨_, rfl, _, _, _, [], _, [], hW', trodAll_mk1 (shut_bool Tryd.underlying4 _), (trodAll_cons_mk (Below.trod laidOut (by kernel_rfl) (of_decide_eq_true (by kernel_rfl)) k0 bel lt0) (trodAll_cons_mk (Below.trod laidOut (by kernel_rfl) (of_decide_eq_true (by kernel_rfl)) k1 bel lt1) trodAll_mk0)), rfl, bel.frame _, fun h => by cases h⟩

theorem laid_met (os : Os) : laidMetH Tryd.prog laidBoth ((laidWorld os).forCall (fun _ _ => 0) ⟨#[], #[.slice none 0 0, .slice none 0 0], []⟩).memory :=
  laidMetH_of_parts3 (fuel := 8) (laidMet_of_run' 8 (by kernel_rfl) (by kernel_rfl)) (by kernel_rfl) (by kernel_rfl)
theorem reads (os : Os) {H : Type} (enc : TypeId × Value → H) : ∃ places, DataW.whole enc Tryd.prog ((laidWorld os).forCall (fun _ _ => 0) ⟨#[], #[.slice none 0 0, .slice none 0 0], []⟩).memory Tryd.f9.params.toList Rows.octetsTwiceSpec.vars false (#[.slice none 0 0, .slice none 0 0] : Array Value).toList 8 = some ([.nil, .nil], [], places) :=
  ⟨[], by kernel_rfl⟩
set_option maxRecDepth 100000 in
theorem lifted (os : Os) (started : os.Started) (H : Type) (enc : TypeId × Value → H) (F : Stop.Interp) :
    ReturnsInHanded {} Tryd.checked os 9 .any ((OpenSpec.ofChange Rows.octetsTwiceSpec).preRow enc Tryd.prog Tryd.f9 Rows.octetsTwiceRow.domain false Rows.octetsTwiceRow.laid) (((OpenSpec.ofChange Rows.octetsTwiceSpec).at F).post enc Tryd.prog Tryd.f9 false true false false) := by
  obtain ⟨places, hx⟩ := reads os enc
  refine returnsInHanded_of_row (C := Tryd.checked) (s := (OpenSpec.ofChange Rows.octetsTwiceSpec)) own started (by kernel_rfl) Tryd.func9
    (witness_row_at (enc := enc) (C := Tryd.checked) false (laidWorld os) #[.slice none 0 0, .slice none 0 0] rfl (by kernel_rfl) (by kernel_rfl) (by kernel_rfl)
      (OpenSpec.preRow_of_cond 8 hx (by kernel_rfl) (fun k hk => by cases hk) (by kernel_rfl) (laid_met os))) ?_
  intro W base args ds gs before hval hW _ hcond hsz hL _ _
  exact contract H enc W base args ds gs before hval hW hsz hL
theorem said : Rows.OctetsTwiceSaid :=
  OpenClaim.holds_of_cond 9 Tryd.f9 rfl rfl rfl rfl rfl rfl rfl ⟨rfl, rfl, rfl, rfl, rfl⟩ rfl rfl rfl rfl rfl (by kernel_rfl) Tryd.func9 (by kernel_rfl)
    (of_decide_eq_true (by kernel_rfl)) (by unfold Func.isWrapper; first | (rw [if_pos (by decide +kernel)]; kernel_rfl) | (rw [if_neg (by decide +kernel)]; exact ⟨rfl, rfl⟩))
    (fun os started H enc _ F => by rw [OpenClaim.pre_eq_preRow]; exact lifted os started H enc F)
theorem plain (f : FuncId) (fn : Func) (hf : Tryd.pinned.checked.prog.funcNamed "ashlar/ashlarlaw01.OctetsTwice" = some f) (hfn : Tryd.pinned.checked.prog.funcs[f]? = some fn) :
    false = Tryd.pinned.checked.prog.looks [] ∧ ∀ (j : Nat) t, fn.params[j]? = some t → Tryd.pinned.checked.prog.wantsStandIn t = false := by
  obtain rfl : f = 9 := Option.some.inj ((show Tryd.prog.funcNamed "ashlar/ashlarlaw01.OctetsTwice" = some 9 by kernel_rfl).symm.trans hf) |>.symm
  obtain rfl : fn = Tryd.f9 := (Option.some.inj (Tryd.func9.symm.trans hfn)).symm
  refine ⟨by kernel_rfl, fun j t ht => ?_⟩
  rw [Tryd.params9] at ht
  have hm : t ∈ [23, 23] := by simpa using Array.mem_of_getElem? ht
  have hall : ([23, 23].all fun u => !Tryd.prog.wantsStandIn u) = true := by kernel_rfl
  exact (show Tryd.prog.wantsStandIn t = false by simpa using List.all_eq_true.1 hall t hm)

/-- ████ THE CARD ████ -/
theorem card : Rows.OctetsTwiceCardSaid :=
  Claim7.holds_tied_plain_at .later [] _ _ _ _ said (fun _ h => by cases h) (by kernel_rfl) (fun _ h => by cases h) octetsTwice_row_tie rfl ⟨rfl, rfl⟩ (by kernel_rfl) rfl plain (by kernel_rfl)
end Go.Proofs.YtbagmmngepkaeaaDoor.octetsTwice
