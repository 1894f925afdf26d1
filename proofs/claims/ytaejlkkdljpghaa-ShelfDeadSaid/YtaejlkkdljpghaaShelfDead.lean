/-
  ShelfDead is true for every disk, sector and byte: a disk that is dead does nothing any more, and the others go on.
  Conditions: none.
-/
import Derived.Test.YtaejlkkdljpghaaShelfDeadW
namespace Go.Proofs.Ytaejlkkdljpghaa.Sh.shelfDead
open Go.ChangeShapes Go.WideShapes Go.ChangeAt Go.RowKit Go.Maps

set_option maxRecDepth 100000 in
theorem nowhere (w : World) (d n : Int) (hd : d < 0 ∨ (0 ≤ d ∧ 2 < d)) (x : Nat) :
    Calls Try.prog 8 #[.int .i64 d, .int .i64 n, .int .u8 x] w fun e w' => e = .returned (.bool true) ∧ Below w.heap.size w w' := by
  rcases hd with hd | ⟨hd0, hd⟩
  all_goals
    go_enter Try.func8, Try.ntmps8
    go_wp2_with fail
    refine (new_ok 3 8 w (by decide) (by decide) (by decide) (by decide)).mono ?_
    rintro e w1 ⟨p, F1, rfl, hS, hF, hb⟩
    have a1 : At w.heap.size w w1 p (newSf 3 8) F1 := ⟨hS, hF, hb, hb.size⟩
    clear hS hF hb
    go_wp2_with fail
    refine (lives_true w1).mono ?_
    rintro e w2 ⟨rfl, hb⟩
    have a2 := a1.grown hb
    clear a1 hb
    have hno : ¬ hasD (newSf 3 8) d := by
      rintro ⟨h1, h2⟩
      have e : (((newSf 3 8).disks.length : Nat) : Int) = 3 := rfl
      omega
    go_wp2_with fail
    refine (kill_no w2 p d a2.shelf hno).mono ?_
    rintro e w3 ⟨rfl, rfl⟩
    obtain ⟨D, gs, s⟩ := a2.shelf
    go_wp2_with fail
    refine (dead_no s d hno).mono ?_
    rintro e w3 ⟨rfl, rfl⟩
    have hbel := a2.bel
    clear a2 s hno
    go_wp2_with fail
    go_ret
    exact ⟨rfl, hbel⟩
theorem walk {w : World} (d : Int) (_ : -9223372036854775808 ≤ d) (_ : d ≤ 9223372036854775807) (n : Int) (_ : -9223372036854775808 ≤ n) (_ : n ≤ 9223372036854775807) (x : Nat) (hx : x < 256) :
    Calls Try.prog 8 #[.int .i64 d, .int .i64 n, .int .u8 x] w fun e w' => e = .returned (.bool true) ∧ Below w.heap.size w w' := by
  by_cases hd : 0 ≤ d ∧ d < 3
  · obtain ⟨d, rfl⟩ : ∃ m : Nat, d = (m : Int) := ⟨d.toNat, by omega⟩
    have ho : ∃ o : Nat, d = 0 ∧ o = 1 ∨ d = 1 ∧ o = 2 ∨ d = 2 ∧ o = 0 := by
      have : d = 0 ∨ d = 1 ∨ d = 2 := by omega
      rcases this with rfl | rfl | rfl
      · exact ⟨1, .inl ⟨rfl, rfl⟩⟩
      · exact ⟨2, .inr (.inl ⟨rfl, rfl⟩)⟩
      · exact ⟨0, .inr (.inr ⟨rfl, rfl⟩)⟩
    obtain ⟨o, ho⟩ := ho
    by_cases h0 : n < 0
    · exact below_row w d o ho n h0 x hx
    · by_cases h8 : n < 8
      · exact in_row w d o ho n (by omega) h8 x hx
      · exact above_row w d o ho n (by omega) x hx
  · exact nowhere w d n (by omega) x
set_option maxRecDepth 100000 in
/-- WHAT THE WALK GIVES, FOR EVERY ARGUMENT AND EVERY WORLD THAT HOLDS THE TABLES. -/
theorem contract (H : Type) (enc : TypeId × Value → H) (W : World) (base : Nat) (args : Array Value) (ds gs : List (DataW H)) (before : List MemPlace)
    (hval : ∀ (j : Nat) t v, Try.f8.params[j]? = some t → args[j]? = some v → Value.okWide Try.prog W .any base t v)
    (hW : DataW.Whole enc Try.prog Try.f8.params.toList Rows.shelfDeadSpec.vars false W args.toList ds gs before)
    (hsz : (DataW.weightsEach Try.prog (Try.f8.params.toList ++ (OpenSpec.ofChange Rows.shelfDeadSpec).bare.plain.varTypes Try.prog) (ds ++ gs)).all (· ≤ reachBytes) = true) (_hL : laidMetH Try.prog laidBoth W) :
    Calls Try.prog 8 args W fun e W' => ∃ v, e = .returned v ∧ Rows.shelfDeadSpec.post enc Try.prog Try.f8 false true false false W args v W' := by
  have hW' := hW
  obtain ⟨p, q, hA0, hV, rfl, hfz, hnd⟩ := hW
  have hA : DataW.TrodAll enc Try.prog W 0 (fun _ => true) true Try.f8.params.toList args.toList ds p := hA0
  have hsz2 : (DataW.weightsEach Try.prog (Try.f8.params.toList ++ []) (ds ++ gs)).all (· ≤ reachBytes) = true := hsz
  rw [Try.params8] at hA hval hsz2
  obtain ⟨v0, vs0, d0, ds0, p0, q0, hargs, rfl, rfl, h0, r0⟩ := trodAll_cons hA
  obtain ⟨v1, vs1, d1, ds1, p1, q1, rfl, rfl, rfl, h1, r1⟩ := trodAll_cons r0
  obtain ⟨v2, vs2, d2, ds2, p2, q2, rfl, rfl, rfl, h2, r2⟩ := trodAll_cons r1
  obtain ⟨rfl, rfl, rfl⟩ := trodAll_nil r2
  obtain rfl : args = #[v0, v1, v2] := by cases args; simp_all
  obtain ⟨rfl, rfl⟩ := trodVars_none hV
  obtain ⟨a0, rfl, rfl, rfl, w0⟩ := open_int Try.underlying3 (hval 0 3 v0 rfl rfl) h0
  have bd0 := bounds_i64 w0
  obtain ⟨a1, rfl, rfl, rfl, w1⟩ := open_int Try.underlying3 (hval 1 3 v1 rfl rfl) h1
  have bd1 := bounds_i64 w1
  obtain ⟨a2, rfl, rfl, rfl, w2⟩ := open_int Try.underlying5 (hval 2 5 v2 rfl rfl) h2
  have bd2 := bounds_u8 w2
  obtain ⟨m2, hm2⟩ : ∃ m : Nat, a2 = (m : Int) := ⟨a2.toNat, by omega⟩
  subst hm2
  refine (walk a0 bd0.1 bd0.2 a1 bd1.1 bd1.2 m2 (by omega)).mono fun e W' ⟨he, bel⟩ => ?_
  subst he
  exact ⟨_, rfl, _, _, _, [], _, [], hW', trodAll_mk1 (shut_bool Try.underlying4 _), (trodAll_cons_mk (shut_int Try.underlying3 w0) (trodAll_cons_mk (shut_int Try.underlying3 w1) (trodAll_cons_mk (shut_int Try.underlying5 w2) trodAll_mk0))), rfl, bel.frame _, fun h => by cases h⟩

theorem laid_met (os : Os) : laidMetH Try.prog laidBoth ((laidWorld os).forCall (fun _ _ => 0) ⟨#[], #[.int .i64 0, .int .i64 0, .int .u8 0], []⟩).memory :=
  laidMetH_of_parts3 (fuel := 8) (laidMet_of_run' 8 (by kernel_rfl) (by kernel_rfl)) (by kernel_rfl) (by kernel_rfl)
theorem reads (os : Os) {H : Type} (enc : TypeId × Value → H) : ∃ places, DataW.whole enc Try.prog ((laidWorld os).forCall (fun _ _ => 0) ⟨#[], #[.int .i64 0, .int .i64 0, .int .u8 0], []⟩).memory Try.f8.params.toList Rows.shelfDeadSpec.vars false (#[.int .i64 0, .int .i64 0, .int .u8 0] : Array Value).toList 8 = some ([.lit (.int .i64 0), .lit (.int .i64 0), .lit (.int .u8 0)], [], places) :=
  ⟨[], by kernel_rfl⟩
set_option maxRecDepth 100000 in
theorem lifted (os : Os) (started : os.Started) (H : Type) (enc : TypeId × Value → H) (F : Stop.Interp) :
    ReturnsInHanded {} Try.checked os 8 .any ((OpenSpec.ofChange Rows.shelfDeadSpec).preRow enc Try.prog Try.f8 Rows.shelfDeadRow.domain false Rows.shelfDeadRow.laid) (((OpenSpec.ofChange Rows.shelfDeadSpec).at F).post enc Try.prog Try.f8 false true false false) := by
  obtain ⟨places, hx⟩ := reads os enc
  refine returnsInHanded_of_row (C := Try.checked) (s := (OpenSpec.ofChange Rows.shelfDeadSpec)) own started (by kernel_rfl) Try.func8
    (witness_row_at (enc := enc) (C := Try.checked) false (laidWorld os) #[.int .i64 0, .int .i64 0, .int .u8 0] rfl (by kernel_rfl) (by kernel_rfl) (by kernel_rfl)
      (OpenSpec.preRow_of_cond 8 hx (by kernel_rfl) (fun k hk => by cases hk) (by kernel_rfl) (laid_met os))) ?_
  intro W base args ds gs before hval hW _ hcond hsz hL _ _
  exact contract H enc W base args ds gs before hval hW hsz hL
theorem said : Rows.ShelfDeadSaid :=
  OpenClaim.holds_of_cond 8 Try.f8 rfl rfl rfl rfl rfl rfl rfl ⟨rfl, rfl, rfl, rfl, rfl⟩ rfl rfl rfl rfl rfl (by kernel_rfl) Try.func8 (by kernel_rfl)
    (of_decide_eq_true (by kernel_rfl)) (by unfold Func.isWrapper; first | (rw [if_pos (by decide +kernel)]; kernel_rfl) | (rw [if_neg (by decide +kernel)]; exact ⟨rfl, rfl⟩))
    (fun os started H enc _ F => by rw [OpenClaim.pre_eq_preRow]; exact lifted os started H enc F)
end Go.Proofs.Ytaejlkkdljpghaa.Sh.shelfDead
