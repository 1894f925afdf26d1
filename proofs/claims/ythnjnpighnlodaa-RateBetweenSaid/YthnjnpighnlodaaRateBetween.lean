/-
  RateBetween is true for every old rate, new rate and weight: what is smoothed of numbers that are not greater than some lies between the old one and the new one, up to the room that the statement gives.
  Conditions: none.
-/
import Derived.Test.YthnjnpighnlodaaRf
import Derived.Test.YthnjnpighnlodaaFs
namespace Go.Proofs.Ythnjnpighnlodaa.rateBetween
open Go.ChangeShapes Go.WideShapes Go.ChangeAt Go.RowKit
open Fl (fin M q)

theorem fin_of {x : Nat} (_ : ¬ Fl.nan x) (h1 : ¬ Fl.key 9094988921128908188 < Fl.key x) (h2 : ¬ Fl.key x < Fl.key 18318360957983683996) : fin x ∧ -M ≤ q x ∧ q x ≤ M := by
  have k1 : Fl.key 9094988921128908188 = 9094988921128908188 := by decide
  have k2 : Fl.key 18318360957983683996 = -9094988921128908188 := by decide
  have hf : fin x := by
    rw [k1] at h1
    rw [k2] at h2
    unfold Fl.fin
    unfold Fl.key at h1 h2
    split at h1
    · rename_i hn
      rw [if_pos hn] at h2
      omega
    · omega
  refine ⟨hf, ?_, ?_⟩
  · rcases Fl.rat_cases (q x) (-M) with h3 | h3
    · rw [← Fl.M_neg] at h3
      exact absurd ((Fl.q_lt _ _).1 h3) h2
    · exact h3
  · rcases Fl.rat_cases M (q x) with h3 | h3
    · unfold Fl.M at h3
      exact absurd ((Fl.q_lt _ _).1 h3) h1
    · exact h3
theorem smooth_is (o x t y : Nat) (h : smoothC o x t = some y) (w : World) :
    Calls Try.prog 17 #[.float .f64 o, .float .f64 x, .float .f64 t] w fun e w' => e = .returned (.float .f64 y) ∧ Below w.heap.size w w' := by
  refine (smooth_any o x t w).mono ?_
  rintro e w' ⟨r, rfl, hr, hb⟩
  rw [h] at hr
  have : r = y := hr
  rw [this]
  exact ⟨rfl, hb⟩
theorem gtb {a b : Nat} (h : (FloatKind.f64.format.order a b == some .gt) = false) (ha : ¬ Fl.nan a) (hb : ¬ Fl.nan b) : ¬ Fl.key b < Fl.key a := by
  rw [o_gt a b ha hb] at h
  exact of_decide_eq_false h
theorem ltb {a b : Nat} (h : (FloatKind.f64.format.order a b == some .lt) = false) (ha : ¬ Fl.nan a) (hb : ¬ Fl.nan b) : ¬ Fl.key a < Fl.key b := by
  rw [o_lt a b ha hb] at h
  exact of_decide_eq_false h
theorem gtt {a b : Nat} (h : (FloatKind.f64.format.order a b == some .gt) = true) (ha : ¬ Fl.nan a) (hb : ¬ Fl.nan b) : Fl.key b < Fl.key a := by
  rw [o_gt a b ha hb] at h
  exact of_decide_eq_true h
set_option maxHeartbeats 1000000 in
theorem out1 {w : World} (o x t : Nat)  (a1 : (FloatKind.f64.format.order o o != some .eq) = true) :
    Calls Try.prog 5 #[.float .f64 o, .float .f64 x, .float .f64 t] w fun e w' => e = .returned (.bool true) ∧ Below w.heap.size w w' := by
  have hs := Lib.hid (smooth_any o x t)
  go_enter Try.func5, Try.ntmps5
  go_wp2_with (first
      | (go_at_call 17; refine (hs.out _).mono ?_; rintro e w1 ⟨r, rfl, hr, hb1⟩)
      | (go_at_call 13; refine (lives_yes _).mono ?_; rintro e w2 ⟨rfl, hb2⟩))
  all_goals go_ret
  all_goals exact ⟨rfl, below_on hb1 hb2⟩
set_option maxHeartbeats 1000000 in
theorem out2 {w : World} (o x t : Nat) (a1 : (FloatKind.f64.format.order o o != some .eq) = false) (a2 : (FloatKind.f64.format.order x x != some .eq) = true) :
    Calls Try.prog 5 #[.float .f64 o, .float .f64 x, .float .f64 t] w fun e w' => e = .returned (.bool true) ∧ Below w.heap.size w w' := by
  have hs := Lib.hid (smooth_any o x t)
  go_enter Try.func5, Try.ntmps5
  go_wp2_with (first
      | (go_at_call 17; refine (hs.out _).mono ?_; rintro e w1 ⟨r, rfl, hr, hb1⟩)
      | (go_at_call 13; refine (lives_yes _).mono ?_; rintro e w2 ⟨rfl, hb2⟩))
  all_goals go_ret
  all_goals exact ⟨rfl, below_on hb1 hb2⟩
set_option maxHeartbeats 1000000 in
theorem out3 {w : World} (o x t : Nat) (a1 : (FloatKind.f64.format.order o o != some .eq) = false) (a2 : (FloatKind.f64.format.order x x != some .eq) = false) (a3 : (FloatKind.f64.format.order t t != some .eq) = true) :
    Calls Try.prog 5 #[.float .f64 o, .float .f64 x, .float .f64 t] w fun e w' => e = .returned (.bool true) ∧ Below w.heap.size w w' := by
  have hs := Lib.hid (smooth_any o x t)
  go_enter Try.func5, Try.ntmps5
  go_wp2_with (first
      | (go_at_call 17; refine (hs.out _).mono ?_; rintro e w1 ⟨r, rfl, hr, hb1⟩)
      | (go_at_call 13; refine (lives_yes _).mono ?_; rintro e w2 ⟨rfl, hb2⟩))
  all_goals go_ret
  all_goals exact ⟨rfl, below_on hb1 hb2⟩
set_option maxHeartbeats 1000000 in
theorem out4 {w : World} (o x t : Nat) (a1 : (FloatKind.f64.format.order o o != some .eq) = false) (a2 : (FloatKind.f64.format.order x x != some .eq) = false) (a3 : (FloatKind.f64.format.order t t != some .eq) = false) (a4 : (FloatKind.f64.format.order o 9094988921128908188 == some .gt) = true) :
    Calls Try.prog 5 #[.float .f64 o, .float .f64 x, .float .f64 t] w fun e w' => e = .returned (.bool true) ∧ Below w.heap.size w w' := by
  have hs := Lib.hid (smooth_any o x t)
  go_enter Try.func5, Try.ntmps5
  go_wp2_with (first
      | (go_at_call 17; refine (hs.out _).mono ?_; rintro e w1 ⟨r, rfl, hr, hb1⟩)
      | (go_at_call 13; refine (lives_yes _).mono ?_; rintro e w2 ⟨rfl, hb2⟩))
  all_goals go_ret
  all_goals exact ⟨rfl, below_on hb1 hb2⟩
set_option maxHeartbeats 1000000 in
theorem out5 {w : World} (o x t : Nat) (a1 : (FloatKind.f64.format.order o o != some .eq) = false) (a2 : (FloatKind.f64.format.order x x != some .eq) = false) (a3 : (FloatKind.f64.format.order t t != some .eq) = false) (a4 : (FloatKind.f64.format.order o 9094988921128908188 == some .gt) = false) (a5 : (FloatKind.f64.format.order o 18318360957983683996 == some .lt) = true) :
    Calls Try.prog 5 #[.float .f64 o, .float .f64 x, .float .f64 t] w fun e w' => e = .returned (.bool true) ∧ Below w.heap.size w w' := by
  have hs := Lib.hid (smooth_any o x t)
  go_enter Try.func5, Try.ntmps5
  go_wp2_with (first
      | (go_at_call 17; refine (hs.out _).mono ?_; rintro e w1 ⟨r, rfl, hr, hb1⟩)
      | (go_at_call 13; refine (lives_yes _).mono ?_; rintro e w2 ⟨rfl, hb2⟩))
  all_goals go_ret
  all_goals exact ⟨rfl, below_on hb1 hb2⟩
set_option maxHeartbeats 1000000 in
theorem out6 {w : World} (o x t : Nat) (a1 : (FloatKind.f64.format.order o o != some .eq) = false) (a2 : (FloatKind.f64.format.order x x != some .eq) = false) (a3 : (FloatKind.f64.format.order t t != some .eq) = false) (a4 : (FloatKind.f64.format.order o 9094988921128908188 == some .gt) = false) (a5 : (FloatKind.f64.format.order o 18318360957983683996 == some .lt) = false) (a6 : (FloatKind.f64.format.order x 9094988921128908188 == some .gt) = true) :
    Calls Try.prog 5 #[.float .f64 o, .float .f64 x, .float .f64 t] w fun e w' => e = .returned (.bool true) ∧ Below w.heap.size w w' := by
  have hs := Lib.hid (smooth_any o x t)
  go_enter Try.func5, Try.ntmps5
  go_wp2_with (first
      | (go_at_call 17; refine (hs.out _).mono ?_; rintro e w1 ⟨r, rfl, hr, hb1⟩)
      | (go_at_call 13; refine (lives_yes _).mono ?_; rintro e w2 ⟨rfl, hb2⟩))
  all_goals go_ret
  all_goals exact ⟨rfl, below_on hb1 hb2⟩
set_option maxHeartbeats 1000000 in
theorem out7 {w : World} (o x t : Nat) (a1 : (FloatKind.f64.format.order o o != some .eq) = false) (a2 : (FloatKind.f64.format.order x x != some .eq) = false) (a3 : (FloatKind.f64.format.order t t != some .eq) = false) (a4 : (FloatKind.f64.format.order o 9094988921128908188 == some .gt) = false) (a5 : (FloatKind.f64.format.order o 18318360957983683996 == some .lt) = false) (a6 : (FloatKind.f64.format.order x 9094988921128908188 == some .gt) = false) (a7 : (FloatKind.f64.format.order x 18318360957983683996 == some .lt) = true) :
    Calls Try.prog 5 #[.float .f64 o, .float .f64 x, .float .f64 t] w fun e w' => e = .returned (.bool true) ∧ Below w.heap.size w w' := by
  have hs := Lib.hid (smooth_any o x t)
  go_enter Try.func5, Try.ntmps5
  go_wp2_with (first
      | (go_at_call 17; refine (hs.out _).mono ?_; rintro e w1 ⟨r, rfl, hr, hb1⟩)
      | (go_at_call 13; refine (lives_yes _).mono ?_; rintro e w2 ⟨rfl, hb2⟩))
  all_goals go_ret
  all_goals exact ⟨rfl, below_on hb1 hb2⟩
set_option maxHeartbeats 1000000 in
theorem arm1n {w : World} (o x t : Nat) (a1 : (FloatKind.f64.format.order o o != some .eq) = false) (a2 : (FloatKind.f64.format.order x x != some .eq) = false) (a3 : (FloatKind.f64.format.order t t != some .eq) = false) (a4 : (FloatKind.f64.format.order o 9094988921128908188 == some .gt) = false) (a5 : (FloatKind.f64.format.order o 18318360957983683996 == some .lt) = false) (a6 : (FloatKind.f64.format.order x 9094988921128908188 == some .gt) = false) (a7 : (FloatKind.f64.format.order x 18318360957983683996 == some .lt) = false) (y : Nat) (hy : smoothC o x t = some y) (a8 : (FloatKind.f64.format.order o x == some .gt) = true) (d p1 s p2 rm l1 l2 p3 l3 h1 h2 p4 h3 : Nat) (hR : Reck x o y d p1 s p2 rm l1 l2 p3 l3 h1 h2 p4 h3) (a9 : (FloatKind.f64.format.order rm 0 == some .lt) = true) :
    Calls Try.prog 5 #[.float .f64 o, .float .f64 x, .float .f64 t] w fun e w' => e = .returned (.bool true) ∧ Below w.heap.size w w' := by
  have hs := Lib.hid (smooth_is o x t y hy)
  clear hy
  have rd : ∀ ty w, (binOp .sub ty (.float .f64 o) (.float .f64 x)).run Try.prog w = .ok (.float .f64 d) w := fun ty w => run_float_arith w .sub ty .f64 _ _ d hR.ed
  have rp1 : ∀ ty w, (binOp .mul ty (.float .f64 d) (.float .f64 4472406533629990549)).run Try.prog w = .ok (.float .f64 p1) w := fun ty w => run_float_arith w .mul ty .f64 _ _ p1 hR.ep1
  have rs : ∀ ty w, (binOp .add ty (.float .f64 o) (.float .f64 118622047889322841)).run Try.prog w = .ok (.float .f64 s) w := fun ty w => run_float_arith w .add ty .f64 _ _ s hR.es
  have rp2 : ∀ ty w, (binOp .mul ty (.float .f64 s) (.float .f64 4472406533629990549)).run Try.prog w = .ok (.float .f64 p2) w := fun ty w => run_float_arith w .mul ty .f64 _ _ p2 hR.ep2
  have rrm : ∀ ty w, (binOp .add ty (.float .f64 p1) (.float .f64 p2)).run Try.prog w = .ok (.float .f64 rm) w := fun ty w => run_float_arith w .add ty .f64 _ _ rm hR.erm
  have rl1 : ∀ ty w, (binOp .sub ty (.float .f64 x) (.float .f64 (Op.negFloat .f64 rm))).run Try.prog w = .ok (.float .f64 l1) w := fun ty w => run_float_arith w .sub ty .f64 _ _ l1 (by have := hR.el1; rw [show absW rm = (Op.negFloat .f64 rm) by unfold absW; rw [a9]; rfl] at this; exact this)
  have rl2 : ∀ ty w, (binOp .sub ty (.float .f64 l1) (.float .f64 4472406533629990549)).run Try.prog w = .ok (.float .f64 l2) w := fun ty w => run_float_arith w .sub ty .f64 _ _ l2 hR.el2
  have rp3 : ∀ ty w, (binOp .mul ty (.float .f64 (absW x)) (.float .f64 4472406533629990549)).run Try.prog w = .ok (.float .f64 p3) w := fun ty w => run_float_arith w .mul ty .f64 _ _ p3 hR.ep3
  have rl3 : ∀ ty w, (binOp .sub ty (.float .f64 l2) (.float .f64 p3)).run Try.prog w = .ok (.float .f64 l3) w := fun ty w => run_float_arith w .sub ty .f64 _ _ l3 hR.el3
  have rh1 : ∀ ty w, (binOp .add ty (.float .f64 o) (.float .f64 (Op.negFloat .f64 rm))).run Try.prog w = .ok (.float .f64 h1) w := fun ty w => run_float_arith w .add ty .f64 _ _ h1 (by have := hR.eh1; rw [show absW rm = (Op.negFloat .f64 rm) by unfold absW; rw [a9]; rfl] at this; exact this)
  have rh2 : ∀ ty w, (binOp .add ty (.float .f64 h1) (.float .f64 4472406533629990549)).run Try.prog w = .ok (.float .f64 h2) w := fun ty w => run_float_arith w .add ty .f64 _ _ h2 hR.eh2
  have rp4 : ∀ ty w, (binOp .mul ty (.float .f64 (absW o)) (.float .f64 4472406533629990549)).run Try.prog w = .ok (.float .f64 p4) w := fun ty w => run_float_arith w .mul ty .f64 _ _ p4 hR.ep4
  have rh3 : ∀ ty w, (binOp .add ty (.float .f64 h2) (.float .f64 p4)).run Try.prog w = .ok (.float .f64 h3) w := fun ty w => run_float_arith w .add ty .f64 _ _ h3 hR.eh3
  have c1 := hR.ege1
  have c2 := hR.ege2
  have c3 := hR.ele1
  have c4 := hR.ele2
  clear hR
  go_enter Try.func5, Try.ntmps5
  go_wp2_with (first
      | (go_at_call 17; refine (hs.out _).mono ?_; rintro e w1 ⟨rfl, hb1⟩)
      | (go_at_call 13; refine (lives_yes _).mono ?_; rintro e w2 ⟨rfl, hb2⟩)
      | (go_at_call 19; refine (abs_any _ _).mono ?_; rintro e w3 ⟨rfl, rfl⟩))
  go_ret
  exact ⟨rfl, below_on hb1 hb2⟩
set_option maxHeartbeats 1000000 in
theorem arm1p {w : World} (o x t : Nat) (a1 : (FloatKind.f64.format.order o o != some .eq) = false) (a2 : (FloatKind.f64.format.order x x != some .eq) = false) (a3 : (FloatKind.f64.format.order t t != some .eq) = false) (a4 : (FloatKind.f64.format.order o 9094988921128908188 == some .gt) = false) (a5 : (FloatKind.f64.format.order o 18318360957983683996 == some .lt) = false) (a6 : (FloatKind.f64.format.order x 9094988921128908188 == some .gt) = false) (a7 : (FloatKind.f64.format.order x 18318360957983683996 == some .lt) = false) (y : Nat) (hy : smoothC o x t = some y) (a8 : (FloatKind.f64.format.order o x == some .gt) = true) (d p1 s p2 rm l1 l2 p3 l3 h1 h2 p4 h3 : Nat) (hR : Reck x o y d p1 s p2 rm l1 l2 p3 l3 h1 h2 p4 h3) (a9 : (FloatKind.f64.format.order rm 0 == some .lt) = false) :
    Calls Try.prog 5 #[.float .f64 o, .float .f64 x, .float .f64 t] w fun e w' => e = .returned (.bool true) ∧ Below w.heap.size w w' := by
  have hs := Lib.hid (smooth_is o x t y hy)
  clear hy
  have rd : ∀ ty w, (binOp .sub ty (.float .f64 o) (.float .f64 x)).run Try.prog w = .ok (.float .f64 d) w := fun ty w => run_float_arith w .sub ty .f64 _ _ d hR.ed
  have rp1 : ∀ ty w, (binOp .mul ty (.float .f64 d) (.float .f64 4472406533629990549)).run Try.prog w = .ok (.float .f64 p1) w := fun ty w => run_float_arith w .mul ty .f64 _ _ p1 hR.ep1
  have rs : ∀ ty w, (binOp .add ty (.float .f64 o) (.float .f64 118622047889322841)).run Try.prog w = .ok (.float .f64 s) w := fun ty w => run_float_arith w .add ty .f64 _ _ s hR.es
  have rp2 : ∀ ty w, (binOp .mul ty (.float .f64 s) (.float .f64 4472406533629990549)).run Try.prog w = .ok (.float .f64 p2) w := fun ty w => run_float_arith w .mul ty .f64 _ _ p2 hR.ep2
  have rrm : ∀ ty w, (binOp .add ty (.float .f64 p1) (.float .f64 p2)).run Try.prog w = .ok (.float .f64 rm) w := fun ty w => run_float_arith w .add ty .f64 _ _ rm hR.erm
  have rl1 : ∀ ty w, (binOp .sub ty (.float .f64 x) (.float .f64 rm)).run Try.prog w = .ok (.float .f64 l1) w := fun ty w => run_float_arith w .sub ty .f64 _ _ l1 (by have := hR.el1; rw [show absW rm = rm by unfold absW; rw [a9]; rfl] at this; exact this)
  have rl2 : ∀ ty w, (binOp .sub ty (.float .f64 l1) (.float .f64 4472406533629990549)).run Try.prog w = .ok (.float .f64 l2) w := fun ty w => run_float_arith w .sub ty .f64 _ _ l2 hR.el2
  have rp3 : ∀ ty w, (binOp .mul ty (.float .f64 (absW x)) (.float .f64 4472406533629990549)).run Try.prog w = .ok (.float .f64 p3) w := fun ty w => run_float_arith w .mul ty .f64 _ _ p3 hR.ep3
  have rl3 : ∀ ty w, (binOp .sub ty (.float .f64 l2) (.float .f64 p3)).run Try.prog w = .ok (.float .f64 l3) w := fun ty w => run_float_arith w .sub ty .f64 _ _ l3 hR.el3
  have rh1 : ∀ ty w, (binOp .add ty (.float .f64 o) (.float .f64 rm)).run Try.prog w = .ok (.float .f64 h1) w := fun ty w => run_float_arith w .add ty .f64 _ _ h1 (by have := hR.eh1; rw [show absW rm = rm by unfold absW; rw [a9]; rfl] at this; exact this)
  have rh2 : ∀ ty w, (binOp .add ty (.float .f64 h1) (.float .f64 4472406533629990549)).run Try.prog w = .ok (.float .f64 h2) w := fun ty w => run_float_arith w .add ty .f64 _ _ h2 hR.eh2
  have rp4 : ∀ ty w, (binOp .mul ty (.float .f64 (absW o)) (.float .f64 4472406533629990549)).run Try.prog w = .ok (.float .f64 p4) w := fun ty w => run_float_arith w .mul ty .f64 _ _ p4 hR.ep4
  have rh3 : ∀ ty w, (binOp .add ty (.float .f64 h2) (.float .f64 p4)).run Try.prog w = .ok (.float .f64 h3) w := fun ty w => run_float_arith w .add ty .f64 _ _ h3 hR.eh3
  have c1 := hR.ege1
  have c2 := hR.ege2
  have c3 := hR.ele1
  have c4 := hR.ele2
  clear hR
  go_enter Try.func5, Try.ntmps5
  go_wp2_with (first
      | (go_at_call 17; refine (hs.out _).mono ?_; rintro e w1 ⟨rfl, hb1⟩)
      | (go_at_call 13; refine (lives_yes _).mono ?_; rintro e w2 ⟨rfl, hb2⟩)
      | (go_at_call 19; refine (abs_any _ _).mono ?_; rintro e w3 ⟨rfl, rfl⟩))
  go_ret
  exact ⟨rfl, below_on hb1 hb2⟩
set_option maxHeartbeats 1000000 in
theorem arm2n {w : World} (o x t : Nat) (a1 : (FloatKind.f64.format.order o o != some .eq) = false) (a2 : (FloatKind.f64.format.order x x != some .eq) = false) (a3 : (FloatKind.f64.format.order t t != some .eq) = false) (a4 : (FloatKind.f64.format.order o 9094988921128908188 == some .gt) = false) (a5 : (FloatKind.f64.format.order o 18318360957983683996 == some .lt) = false) (a6 : (FloatKind.f64.format.order x 9094988921128908188 == some .gt) = false) (a7 : (FloatKind.f64.format.order x 18318360957983683996 == some .lt) = false) (y : Nat) (hy : smoothC o x t = some y) (a8 : (FloatKind.f64.format.order o x == some .gt) = false) (d p1 s p2 rm l1 l2 p3 l3 h1 h2 p4 h3 : Nat) (hR : Reck o x y d p1 s p2 rm l1 l2 p3 l3 h1 h2 p4 h3) (a9 : (FloatKind.f64.format.order rm 0 == some .lt) = true) :
    Calls Try.prog 5 #[.float .f64 o, .float .f64 x, .float .f64 t] w fun e w' => e = .returned (.bool true) ∧ Below w.heap.size w w' := by
  have hs := Lib.hid (smooth_is o x t y hy)
  clear hy
  have rd : ∀ ty w, (binOp .sub ty (.float .f64 x) (.float .f64 o)).run Try.prog w = .ok (.float .f64 d) w := fun ty w => run_float_arith w .sub ty .f64 _ _ d hR.ed
  have rp1 : ∀ ty w, (binOp .mul ty (.float .f64 d) (.float .f64 4472406533629990549)).run Try.prog w = .ok (.float .f64 p1) w := fun ty w => run_float_arith w .mul ty .f64 _ _ p1 hR.ep1
  have rs : ∀ ty w, (binOp .add ty (.float .f64 x) (.float .f64 118622047889322841)).run Try.prog w = .ok (.float .f64 s) w := fun ty w => run_float_arith w .add ty .f64 _ _ s hR.es
  have rp2 : ∀ ty w, (binOp .mul ty (.float .f64 s) (.float .f64 4472406533629990549)).run Try.prog w = .ok (.float .f64 p2) w := fun ty w => run_float_arith w .mul ty .f64 _ _ p2 hR.ep2
  have rrm : ∀ ty w, (binOp .add ty (.float .f64 p1) (.float .f64 p2)).run Try.prog w = .ok (.float .f64 rm) w := fun ty w => run_float_arith w .add ty .f64 _ _ rm hR.erm
  have rl1 : ∀ ty w, (binOp .sub ty (.float .f64 o) (.float .f64 (Op.negFloat .f64 rm))).run Try.prog w = .ok (.float .f64 l1) w := fun ty w => run_float_arith w .sub ty .f64 _ _ l1 (by have := hR.el1; rw [show absW rm = (Op.negFloat .f64 rm) by unfold absW; rw [a9]; rfl] at this; exact this)
  have rl2 : ∀ ty w, (binOp .sub ty (.float .f64 l1) (.float .f64 4472406533629990549)).run Try.prog w = .ok (.float .f64 l2) w := fun ty w => run_float_arith w .sub ty .f64 _ _ l2 hR.el2
  have rp3 : ∀ ty w, (binOp .mul ty (.float .f64 (absW o)) (.float .f64 4472406533629990549)).run Try.prog w = .ok (.float .f64 p3) w := fun ty w => run_float_arith w .mul ty .f64 _ _ p3 hR.ep3
  have rl3 : ∀ ty w, (binOp .sub ty (.float .f64 l2) (.float .f64 p3)).run Try.prog w = .ok (.float .f64 l3) w := fun ty w => run_float_arith w .sub ty .f64 _ _ l3 hR.el3
  have rh1 : ∀ ty w, (binOp .add ty (.float .f64 x) (.float .f64 (Op.negFloat .f64 rm))).run Try.prog w = .ok (.float .f64 h1) w := fun ty w => run_float_arith w .add ty .f64 _ _ h1 (by have := hR.eh1; rw [show absW rm = (Op.negFloat .f64 rm) by unfold absW; rw [a9]; rfl] at this; exact this)
  have rh2 : ∀ ty w, (binOp .add ty (.float .f64 h1) (.float .f64 4472406533629990549)).run Try.prog w = .ok (.float .f64 h2) w := fun ty w => run_float_arith w .add ty .f64 _ _ h2 hR.eh2
  have rp4 : ∀ ty w, (binOp .mul ty (.float .f64 (absW x)) (.float .f64 4472406533629990549)).run Try.prog w = .ok (.float .f64 p4) w := fun ty w => run_float_arith w .mul ty .f64 _ _ p4 hR.ep4
  have rh3 : ∀ ty w, (binOp .add ty (.float .f64 h2) (.float .f64 p4)).run Try.prog w = .ok (.float .f64 h3) w := fun ty w => run_float_arith w .add ty .f64 _ _ h3 hR.eh3
  have c1 := hR.ege1
  have c2 := hR.ege2
  have c3 := hR.ele1
  have c4 := hR.ele2
  clear hR
  go_enter Try.func5, Try.ntmps5
  go_wp2_with (first
      | (go_at_call 17; refine (hs.out _).mono ?_; rintro e w1 ⟨rfl, hb1⟩)
      | (go_at_call 13; refine (lives_yes _).mono ?_; rintro e w2 ⟨rfl, hb2⟩)
      | (go_at_call 19; refine (abs_any _ _).mono ?_; rintro e w3 ⟨rfl, rfl⟩))
  go_ret
  exact ⟨rfl, below_on hb1 hb2⟩
set_option maxHeartbeats 1000000 in
theorem arm2p {w : World} (o x t : Nat) (a1 : (FloatKind.f64.format.order o o != some .eq) = false) (a2 : (FloatKind.f64.format.order x x != some .eq) = false) (a3 : (FloatKind.f64.format.order t t != some .eq) = false) (a4 : (FloatKind.f64.format.order o 9094988921128908188 == some .gt) = false) (a5 : (FloatKind.f64.format.order o 18318360957983683996 == some .lt) = false) (a6 : (FloatKind.f64.format.order x 9094988921128908188 == some .gt) = false) (a7 : (FloatKind.f64.format.order x 18318360957983683996 == some .lt) = false) (y : Nat) (hy : smoothC o x t = some y) (a8 : (FloatKind.f64.format.order o x == some .gt) = false) (d p1 s p2 rm l1 l2 p3 l3 h1 h2 p4 h3 : Nat) (hR : Reck o x y d p1 s p2 rm l1 l2 p3 l3 h1 h2 p4 h3) (a9 : (FloatKind.f64.format.order rm 0 == some .lt) = false) :
    Calls Try.prog 5 #[.float .f64 o, .float .f64 x, .float .f64 t] w fun e w' => e = .returned (.bool true) ∧ Below w.heap.size w w' := by
  have hs := Lib.hid (smooth_is o x t y hy)
  clear hy
  have rd : ∀ ty w, (binOp .sub ty (.float .f64 x) (.float .f64 o)).run Try.prog w = .ok (.float .f64 d) w := fun ty w => run_float_arith w .sub ty .f64 _ _ d hR.ed
  have rp1 : ∀ ty w, (binOp .mul ty (.float .f64 d) (.float .f64 4472406533629990549)).run Try.prog w = .ok (.float .f64 p1) w := fun ty w => run_float_arith w .mul ty .f64 _ _ p1 hR.ep1
  have rs : ∀ ty w, (binOp .add ty (.float .f64 x) (.float .f64 118622047889322841)).run Try.prog w = .ok (.float .f64 s) w := fun ty w => run_float_arith w .add ty .f64 _ _ s hR.es
  have rp2 : ∀ ty w, (binOp .mul ty (.float .f64 s) (.float .f64 4472406533629990549)).run Try.prog w = .ok (.float .f64 p2) w := fun ty w => run_float_arith w .mul ty .f64 _ _ p2 hR.ep2
  have rrm : ∀ ty w, (binOp .add ty (.float .f64 p1) (.float .f64 p2)).run Try.prog w = .ok (.float .f64 rm) w := fun ty w => run_float_arith w .add ty .f64 _ _ rm hR.erm
  have rl1 : ∀ ty w, (binOp .sub ty (.float .f64 o) (.float .f64 rm)).run Try.prog w = .ok (.float .f64 l1) w := fun ty w => run_float_arith w .sub ty .f64 _ _ l1 (by have := hR.el1; rw [show absW rm = rm by unfold absW; rw [a9]; rfl] at this; exact this)
  have rl2 : ∀ ty w, (binOp .sub ty (.float .f64 l1) (.float .f64 4472406533629990549)).run Try.prog w = .ok (.float .f64 l2) w := fun ty w => run_float_arith w .sub ty .f64 _ _ l2 hR.el2
  have rp3 : ∀ ty w, (binOp .mul ty (.float .f64 (absW o)) (.float .f64 4472406533629990549)).run Try.prog w = .ok (.float .f64 p3) w := fun ty w => run_float_arith w .mul ty .f64 _ _ p3 hR.ep3
  have rl3 : ∀ ty w, (binOp .sub ty (.float .f64 l2) (.float .f64 p3)).run Try.prog w = .ok (.float .f64 l3) w := fun ty w => run_float_arith w .sub ty .f64 _ _ l3 hR.el3
  have rh1 : ∀ ty w, (binOp .add ty (.float .f64 x) (.float .f64 rm)).run Try.prog w = .ok (.float .f64 h1) w := fun ty w => run_float_arith w .add ty .f64 _ _ h1 (by have := hR.eh1; rw [show absW rm = rm by unfold absW; rw [a9]; rfl] at this; exact this)
  have rh2 : ∀ ty w, (binOp .add ty (.float .f64 h1) (.float .f64 4472406533629990549)).run Try.prog w = .ok (.float .f64 h2) w := fun ty w => run_float_arith w .add ty .f64 _ _ h2 hR.eh2
  have rp4 : ∀ ty w, (binOp .mul ty (.float .f64 (absW x)) (.float .f64 4472406533629990549)).run Try.prog w = .ok (.float .f64 p4) w := fun ty w => run_float_arith w .mul ty .f64 _ _ p4 hR.ep4
  have rh3 : ∀ ty w, (binOp .add ty (.float .f64 h2) (.float .f64 p4)).run Try.prog w = .ok (.float .f64 h3) w := fun ty w => run_float_arith w .add ty .f64 _ _ h3 hR.eh3
  have c1 := hR.ege1
  have c2 := hR.ege2
  have c3 := hR.ele1
  have c4 := hR.ele2
  clear hR
  go_enter Try.func5, Try.ntmps5
  go_wp2_with (first
      | (go_at_call 17; refine (hs.out _).mono ?_; rintro e w1 ⟨rfl, hb1⟩)
      | (go_at_call 13; refine (lives_yes _).mono ?_; rintro e w2 ⟨rfl, hb2⟩)
      | (go_at_call 19; refine (abs_any _ _).mono ?_; rintro e w3 ⟨rfl, rfl⟩))
  go_ret
  exact ⟨rfl, below_on hb1 hb2⟩
theorem walk {w : World} (o : Nat) (_ : o < 18446744073709551616) (x : Nat) (_ : x < 18446744073709551616) (t : Nat) (_ : t < 18446744073709551616) :
    Calls Try.prog 5 #[.float .f64 o, .float .f64 x, .float .f64 t] w fun e w' => e = .returned (.bool true) ∧ Below w.heap.size w w' := by
  cases a1 : (FloatKind.f64.format.order o o != some .eq)
  case true => exact out1 o x t a1
  cases a2 : (FloatKind.f64.format.order x x != some .eq)
  case true => exact out2 o x t a1 a2
  cases a3 : (FloatKind.f64.format.order t t != some .eq)
  case true => exact out3 o x t a1 a2 a3
  cases a4 : (FloatKind.f64.format.order o 9094988921128908188 == some .gt)
  case true => exact out4 o x t a1 a2 a3 a4
  cases a5 : (FloatKind.f64.format.order o 18318360957983683996 == some .lt)
  case true => exact out5 o x t a1 a2 a3 a4 a5
  cases a6 : (FloatKind.f64.format.order x 9094988921128908188 == some .gt)
  case true => exact out6 o x t a1 a2 a3 a4 a5 a6
  cases a7 : (FloatKind.f64.format.order x 18318360957983683996 == some .lt)
  case true => exact out7 o x t a1 a2 a3 a4 a5 a6 a7
  have no : ¬ Fl.nan o := by
    have h := o_neq_self o
    rw [a1] at h
    exact of_decide_eq_false h.symm
  have nx : ¬ Fl.nan x := by
    have h := o_neq_self x
    rw [a2] at h
    exact of_decide_eq_false h.symm
  have nt : ¬ Fl.nan t := by
    have h := o_neq_self t
    rw [a3] at h
    exact of_decide_eq_false h.symm
  obtain ⟨fo, o1, o2⟩ := fin_of no (gtb a4 no (by decide)) (ltb a5 no (by decide))
  obtain ⟨fx, x1, x2⟩ := fin_of nx (gtb a6 nx (by decide)) (ltb a7 nx (by decide))
  obtain ⟨y, hy, fy, hn⟩ := smooth_near o x t fo fx nt o1 o2 x1 x2
  cases a8 : (FloatKind.f64.format.order o x == some .gt)
  · have hle : q o ≤ q x := by
      rcases Fl.rat_cases (q x) (q o) with h | h
      · exact absurd ((Fl.q_lt _ _).1 h) (gtb a8 no nx)
      · exact h
    obtain ⟨d, p1, s, p2, rm, l1, l2, p3, l3, h1, h2, p4, h3, hR⟩ := reck o x y fo fx fy hle o1 x2 (fun B b1 b2 b3 => hn (q o) (q x) B (by grind) hle hle (by grind) b1 b2 b3)
    cases a9 : (FloatKind.f64.format.order rm 0 == some .lt)
    · exact arm2p o x t a1 a2 a3 a4 a5 a6 a7 y hy a8 d p1 s p2 rm l1 l2 p3 l3 h1 h2 p4 h3 hR a9
    · exact arm2n o x t a1 a2 a3 a4 a5 a6 a7 y hy a8 d p1 s p2 rm l1 l2 p3 l3 h1 h2 p4 h3 hR a9
  · have hle : q x ≤ q o := Rat.le_of_lt ((Fl.q_lt _ _).2 (gtt a8 no nx))
    obtain ⟨d, p1, s, p2, rm, l1, l2, p3, l3, h1, h2, p4, h3, hR⟩ := reck x o y fx fo fy hle x1 o2 (fun B b1 b2 b3 => hn (q x) (q o) B hle (by grind) (by grind) hle b1 b2 b3)
    cases a9 : (FloatKind.f64.format.order rm 0 == some .lt)
    · exact arm1p o x t a1 a2 a3 a4 a5 a6 a7 y hy a8 d p1 s p2 rm l1 l2 p3 l3 h1 h2 p4 h3 hR a9
    · exact arm1n o x t a1 a2 a3 a4 a5 a6 a7 y hy a8 d p1 s p2 rm l1 l2 p3 l3 h1 h2 p4 h3 hR a9

set_option maxRecDepth 100000 in
/-- WHAT THE WALK GIVES, FOR EVERY ARGUMENT AND EVERY WORLD THAT HOLDS THE TABLES. -/
theorem contract (H : Type) (enc : TypeId × Value → H) (W : World) (base : Nat) (args : Array Value) (ds gs : List (DataW H)) (before : List MemPlace)
    (hval : ∀ (j : Nat) t v, Try.f5.params[j]? = some t → args[j]? = some v → Value.okWide Try.prog W .any base t v)
    (hW : DataW.Whole enc Try.prog Try.f5.params.toList Rows.rateBetweenSpec.vars false W args.toList ds gs before)
    (hsz : (DataW.weightsEach Try.prog (Try.f5.params.toList ++ (OpenSpec.ofChange Rows.rateBetweenSpec).bare.plain.varTypes Try.prog) (ds ++ gs)).all (· ≤ reachBytes) = true) (_hL : laidMetH Try.prog laidBoth W) :
    Calls Try.prog 5 args W fun e W' => ∃ v, e = .returned v ∧ Rows.rateBetweenSpec.post enc Try.prog Try.f5 false true false false W args v W' := by
  have hW' := hW
  obtain ⟨p, q, hA0, hV, rfl, hfz, hnd⟩ := hW
  have hA : DataW.TrodAll enc Try.prog W 0 (fun _ => true) true Try.f5.params.toList args.toList ds p := hA0
  have hsz2 : (DataW.weightsEach Try.prog (Try.f5.params.toList ++ []) (ds ++ gs)).all (· ≤ reachBytes) = true := hsz
  rw [Try.params5] at hA hval hsz2
  obtain ⟨v0, vs0, d0, ds0, p0, q0, hargs, rfl, rfl, h0, r0⟩ := trodAll_cons hA
  obtain ⟨v1, vs1, d1, ds1, p1, q1, rfl, rfl, rfl, h1, r1⟩ := trodAll_cons r0
  obtain ⟨v2, vs2, d2, ds2, p2, q2, rfl, rfl, rfl, h2, r2⟩ := trodAll_cons r1
  obtain ⟨rfl, rfl, rfl⟩ := trodAll_nil r2
  obtain rfl : args = #[v0, v1, v2] := by cases args; simp_all
  obtain ⟨rfl, rfl⟩ := trodVars_none hV
  obtain ⟨a0, rfl, rfl, rfl, w0⟩ := open_float Try.underlying23 (hval 0 23 v0 rfl rfl) h0
  obtain ⟨a1, rfl, rfl, rfl, w1⟩ := open_float Try.underlying23 (hval 1 23 v1 rfl rfl) h1
  obtain ⟨a2, rfl, rfl, rfl, w2⟩ := open_float Try.underlying23 (hval 2 23 v2 rfl rfl) h2
  refine (walk a0 (wf_lt w0) a1 (wf_lt w1) a2 (wf_lt w2)).mono fun e W' ⟨he, bel⟩ => ?_
  subst he
  exact ⟨_, rfl, _, _, _, [], _, [], hW', trodAll_mk1 (shut_bool Try.underlying4 _), (trodAll_cons_mk (shut_float Try.underlying23 w0) (trodAll_cons_mk (shut_float Try.underlying23 w1) (trodAll_cons_mk (shut_float Try.underlying23 w2) trodAll_mk0))), rfl, bel.frame _, fun h => by cases h⟩

theorem laid_met (os : Os) : laidMetH Try.prog laidBoth ((laidWorld os).forCall (fun _ _ => 0) ⟨#[], #[.float .f64 0, .float .f64 0, .float .f64 0], []⟩).memory :=
  laidMetH_of_parts3 (fuel := 8) (laidMet_of_run' 8 (by kernel_rfl) (by kernel_rfl)) (by kernel_rfl) (by kernel_rfl)
theorem reads (os : Os) {H : Type} (enc : TypeId × Value → H) : ∃ places, DataW.whole enc Try.prog ((laidWorld os).forCall (fun _ _ => 0) ⟨#[], #[.float .f64 0, .float .f64 0, .float .f64 0], []⟩).memory Try.f5.params.toList Rows.rateBetweenSpec.vars false (#[.float .f64 0, .float .f64 0, .float .f64 0] : Array Value).toList 8 = some ([.lit (.float .f64 0), .lit (.float .f64 0), .lit (.float .f64 0)], [], places) :=
  ⟨[], by kernel_rfl⟩
set_option maxRecDepth 100000 in
theorem lifted (os : Os) (started : os.Started) (H : Type) (enc : TypeId × Value → H) (F : Stop.Interp) :
    ReturnsInHanded {} Try.checked os 5 .any ((OpenSpec.ofChange Rows.rateBetweenSpec).preRow enc Try.prog Try.f5 Rows.rateBetweenRow.domain false Rows.rateBetweenRow.laid) (((OpenSpec.ofChange Rows.rateBetweenSpec).at F).post enc Try.prog Try.f5 false true false false) := by
  obtain ⟨places, hx⟩ := reads os enc
  refine returnsInHanded_of_row (C := Try.checked) (s := (OpenSpec.ofChange Rows.rateBetweenSpec)) own started (by kernel_rfl) Try.func5
    (witness_row_at (enc := enc) (C := Try.checked) false (laidWorld os) #[.float .f64 0, .float .f64 0, .float .f64 0] rfl (by kernel_rfl) (by kernel_rfl) (by kernel_rfl)
      (OpenSpec.preRow_of_cond 8 hx (by kernel_rfl) (fun k hk => by cases hk) (by kernel_rfl) (laid_met os))) ?_
  intro W base args ds gs before hval hW _ hcond hsz hL _ _
  exact contract H enc W base args ds gs before hval hW hsz hL
theorem said : Rows.RateBetweenSaid :=
  OpenClaim.holds_of_cond 5 Try.f5 rfl rfl rfl rfl rfl rfl rfl ⟨rfl, rfl, rfl, rfl, rfl⟩ rfl rfl rfl rfl rfl (by kernel_rfl) Try.func5 (by kernel_rfl)
    (of_decide_eq_true (by kernel_rfl)) (by unfold Func.isWrapper; first | (rw [if_pos (by decide +kernel)]; kernel_rfl) | (rw [if_neg (by decide +kernel)]; exact ⟨rfl, rfl⟩))
    (fun os started H enc _ F => by rw [OpenClaim.pre_eq_preRow]; exact lifted os started H enc F)
end Go.Proofs.Ythnjnpighnlodaa.rateBetween
