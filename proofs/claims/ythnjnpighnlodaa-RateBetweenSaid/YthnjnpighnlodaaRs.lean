/-
  The contracts of Smooth, of the program and of the definition.
  Conditions: each theorem's own.
-/
import Derived.Test.YthnjnpighnlodaaRa
namespace Go.Proofs.Ythnjnpighnlodaa
open Go.RowKit

def one : Nat := 4607182418800017408
def smoothC (o x t : Nat) : Option Nat :=
  if nanB x then some o else if nanB o then some x else if !(FloatKind.f64.format.order t 0 == some .gt) then some o else
  if FloatKind.f64.format.order t one == some .gt || FloatKind.f64.format.order t one == some .eq then some x else
  arC .add (arC .mul (some o) (arC .sub (some one) (some t))) (arC .mul (some x) (some t))

theorem lin_is (o x t : Nat) {a b c d : Nat} (ha : Is (floatBits .sub .f64 one t) a) (hb : Is (floatBits .mul .f64 o a) b) (hc : Is (floatBits .mul .f64 x t) c) (hd : Is (floatBits .add .f64 b c) d) :
    Is (arC .add (arC .mul (some o) (arC .sub (some one) (some t))) (arC .mul (some x) (some t))) d := by
  have h1 : floatBits .sub .f64 one t = arC .sub (some one) (some t) := arC_is .sub (show Is (some one) one from rfl) (show Is (some t) t from rfl)
  rw [h1] at ha
  rw [arC_is .mul (show Is (some o) o from rfl) ha] at hb
  rw [arC_is .mul (show Is (some x) x from rfl) (show Is (some t) t from rfl)] at hc
  rw [arC_is .add hb hc] at hd
  exact hd
set_option maxHeartbeats 800000 in
theorem smooth_any (o x t : Nat) (w : World) :
    Calls Try.prog 17 #[.float .f64 o, .float .f64 x, .float .f64 t] w fun e w' => ∃ r, e = .returned (.float .f64 r) ∧ Is (smoothC o x t) r ∧ Below w.heap.size w w' := by
  have hsub : ∀ ty x y w, (binOp .sub ty (.float .f64 x) (.float .f64 y)).run Try.prog w = .ok (.float .f64 (rr .sub x y w)) (ww .sub x y w) := fun t x y w => run_arith .sub t x y w (by decide)
  have hmul : ∀ ty x y w, (binOp .mul ty (.float .f64 x) (.float .f64 y)).run Try.prog w = .ok (.float .f64 (rr .mul x y w)) (ww .mul x y w) := fun t x y w => run_arith .mul t x y w (by decide)
  have hadd : ∀ ty x y w, (binOp .add ty (.float .f64 x) (.float .f64 y)).run Try.prog w = .ok (.float .f64 (rr .add x y w)) (ww .add x y w) := fun t x y w => run_arith .add t x y w (by decide)
  cases hx : nanB x
  · have HNx : Hid (∀ w, Calls Try.prog 28 #[.float .f64 x] w fun e w' => e = .returned (.bool false) ∧ w = w') := Lib.hid (fun w => hx ▸ isNaN_any x w)
    cases ho : nanB o
    · have HNo : Hid (∀ w, Calls Try.prog 28 #[.float .f64 o] w fun e w' => e = .returned (.bool false) ∧ w = w') := Lib.hid (fun w => ho ▸ isNaN_any o w)
      cases h0 : (FloatKind.f64.format.order t 0 == some .gt)
      · have hc : Hid (smoothC o x t = some o) := Lib.hid (by unfold smoothC; simp only [hx, ho, h0]; rfl)
        go_enter Try.func17, Try.ntmps17
        go_wp2_with (go_at_call 28; first | (refine (HNx.out _).mono ?_; rintro e w' ⟨rfl, rfl⟩) | (refine (HNo.out _).mono ?_; rintro e w' ⟨rfl, rfl⟩))
        go_ret
        exact ⟨o, rfl, by rw [hc.out]; rfl, Below.refl _ _⟩
      · cases h1 : (FloatKind.f64.format.order t one == some .gt)
        · cases h2 : (FloatKind.f64.format.order t one == some .eq)
          · have hc : Hid (smoothC o x t = arC .add (arC .mul (some o) (arC .sub (some one) (some t))) (arC .mul (some x) (some t))) := Lib.hid (by unfold smoothC; simp only [hx, ho, h0, h1, h2]; rfl)
            unfold one at h1 h2
            clear hx ho
            go_enter Try.func17, Try.ntmps17
            go_wp2_with (first
              | (go_at_call 28; first | (refine (HNx.out _).mono ?_; rintro e w' ⟨rfl, rfl⟩) | (refine (HNo.out _).mono ?_; rintro e w' ⟨rfl, rfl⟩)))
            go_ret
            refine ⟨_, rfl, ?_, ?_⟩
            · rw [hc.out]
              exact lin_is o x t (rr_is _ _ _ _) (rr_is _ _ _ _) (rr_is _ _ _ _) (rr_is _ _ _ _)
            · exact ww_below _ _ _ (ww_below _ _ _ (ww_below _ _ _ (ww_below _ _ _ (Below.refl _ _))))
          · have hc : Hid (smoothC o x t = some x) := Lib.hid (by unfold smoothC; simp only [hx, ho, h0, h1, h2]; rfl)
            unfold one at h1 h2
            clear hx ho
            go_enter Try.func17, Try.ntmps17
            go_wp2_with (go_at_call 28; first | (refine (HNx.out _).mono ?_; rintro e w' ⟨rfl, rfl⟩) | (refine (HNo.out _).mono ?_; rintro e w' ⟨rfl, rfl⟩))
            go_ret
            exact ⟨x, rfl, by rw [hc.out]; rfl, Below.refl _ _⟩
        · have hc : Hid (smoothC o x t = some x) := Lib.hid (by unfold smoothC; simp only [hx, ho, h0, h1]; rfl)
          unfold one at h1
          clear hx ho
          go_enter Try.func17, Try.ntmps17
          go_wp2_with (go_at_call 28; first | (refine (HNx.out _).mono ?_; rintro e w' ⟨rfl, rfl⟩) | (refine (HNo.out _).mono ?_; rintro e w' ⟨rfl, rfl⟩))
          go_ret
          exact ⟨x, rfl, by rw [hc.out]; rfl, Below.refl _ _⟩
    · have HNo : Hid (∀ w, Calls Try.prog 28 #[.float .f64 o] w fun e w' => e = .returned (.bool true) ∧ w = w') := Lib.hid (fun w => ho ▸ isNaN_any o w)
      have hc : Hid (smoothC o x t = some x) := Lib.hid (by unfold smoothC; simp only [hx, ho]; rfl)
      go_enter Try.func17, Try.ntmps17
      go_wp2_with (go_at_call 28; first | (refine (HNx.out _).mono ?_; rintro e w' ⟨rfl, rfl⟩) | (refine (HNo.out _).mono ?_; rintro e w' ⟨rfl, rfl⟩))
      go_ret
      exact ⟨x, rfl, by rw [hc.out]; rfl, Below.refl _ _⟩
  · have HNx : Hid (∀ w, Calls Try.prog 28 #[.float .f64 x] w fun e w' => e = .returned (.bool true) ∧ w = w') := Lib.hid (fun w => hx ▸ isNaN_any x w)
    have hc : Hid (smoothC o x t = some o) := Lib.hid (by unfold smoothC; simp only [hx]; rfl)
    go_enter Try.func17, Try.ntmps17
    go_wp2_with (go_at_call 28; first | (refine (HNx.out _).mono ?_; rintro e w' ⟨rfl, rfl⟩) )
    go_ret
    exact ⟨o, rfl, by rw [hc.out]; rfl, Below.refl _ _⟩

theorem nanB_of {t : Nat} (h : ¬ Fl.nan t) : nanB t = false := decide_eq_false h
theorem key_zero : Fl.key 0 = 0 := by decide
theorem key_one : Fl.key one = 4607182418800017408 := by decide
theorem weight_cases (t : Nat) :
    ((FloatKind.f64.format.order t 0 == some .gt) = false ∧ (FloatKind.f64.format.order t one == some .gt) = false ∧ (FloatKind.f64.format.order t one == some .eq) = false) ∨
    ((FloatKind.f64.format.order t 0 == some .gt) = true ∧ (FloatKind.f64.format.order t one == some .lt) = true ∧ (FloatKind.f64.format.order t one == some .gt) = false ∧ (FloatKind.f64.format.order t one == some .eq) = false) ∨
    ((FloatKind.f64.format.order t 0 == some .gt) = true ∧ (FloatKind.f64.format.order t one == some .lt) = false ∧ (FloatKind.f64.format.order t one == some .gt) = true ∧ (FloatKind.f64.format.order t one == some .eq) = false) ∨
    ((FloatKind.f64.format.order t 0 == some .gt) = true ∧ (FloatKind.f64.format.order t one == some .lt) = false ∧ (FloatKind.f64.format.order t one == some .gt) = false ∧ (FloatKind.f64.format.order t one == some .eq) = true) := by
  by_cases h : Fl.nan t
  · have e0 : FloatKind.f64.format.order t 0 = none := Fl.order_nan_left t 0 h
    have e1 : FloatKind.f64.format.order t one = none := Fl.order_nan_left t one h
    rw [e0, e1]; exact Or.inl ⟨rfl, rfl, rfl⟩
  · have n0 : ¬ Fl.nan 0 := by decide
    have n1 : ¬ Fl.nan one := by decide
    rw [o_gt t 0 h n0, o_gt t one h n1, o_eq t one h n1, o_lt t one h n1, key_zero, key_one]
    generalize Fl.key t = k
    simp only [decide_eq_true_eq, decide_eq_false_iff_not]
    omega
set_option maxHeartbeats 800000 in
theorem refSmooth_any (o x t : Nat) (w : World) :
    Calls Try.prog 18 #[.float .f64 o, .float .f64 x, .float .f64 t] w fun e w' => ∃ r, e = .returned (.float .f64 r) ∧ Is (smoothC o x t) r ∧ Below w.heap.size w w' := by
  have hsub : ∀ ty x y w, (binOp .sub ty (.float .f64 x) (.float .f64 y)).run Try.prog w = .ok (.float .f64 (rr .sub x y w)) (ww .sub x y w) := fun t x y w => run_arith .sub t x y w (by decide)
  have hmul : ∀ ty x y w, (binOp .mul ty (.float .f64 x) (.float .f64 y)).run Try.prog w = .ok (.float .f64 (rr .mul x y w)) (ww .mul x y w) := fun t x y w => run_arith .mul t x y w (by decide)
  have hadd : ∀ ty x y w, (binOp .add ty (.float .f64 x) (.float .f64 y)).run Try.prog w = .ok (.float .f64 (rr .add x y w)) (ww .add x y w) := fun t x y w => run_arith .add t x y w (by decide)
  have nx := o_neq_self x
  have no := o_neq_self o
  have hT := weight_cases t
  cases hx : nanB x
  · cases ho : nanB o
    · rw [hx] at nx
      rw [ho] at no
      rcases hT with ⟨h0, h1, h2⟩ | ⟨h0, h3, h1, h2⟩ | ⟨h0, h3, h1, h2⟩ | ⟨h0, h3, h1, h2⟩
      · have hc : Hid (smoothC o x t = some o) := Lib.hid (by unfold smoothC; simp only [hx, ho, h0]; rfl)
        unfold one at h1 h2
        clear hx ho
        go_enter Try.func18, Try.ntmps18
        go_wp2
        go_ret
        exact ⟨o, rfl, by rw [hc.out]; rfl, Below.refl _ _⟩
      · have hc : Hid (smoothC o x t = arC .add (arC .mul (some o) (arC .sub (some one) (some t))) (arC .mul (some x) (some t))) := Lib.hid (by unfold smoothC; simp only [hx, ho, h0, h1, h2]; rfl)
        unfold one at h1 h2 h3
        clear hx ho
        go_enter Try.func18, Try.ntmps18
        go_wp2_with (first | rw [hsub] | rw [hmul] | rw [hadd])
        go_ret
        refine ⟨_, rfl, ?_, ?_⟩
        · rw [hc.out]
          exact lin_is o x t (rr_is _ _ _ _) (rr_is _ _ _ _) (rr_is _ _ _ _) (rr_is _ _ _ _)
        · exact ww_below _ _ _ (ww_below _ _ _ (ww_below _ _ _ (ww_below _ _ _ (Below.refl _ _))))
      · have hc : Hid (smoothC o x t = some x) := Lib.hid (by unfold smoothC; simp only [hx, ho, h0, h1]; rfl)
        unfold one at h1 h2 h3
        clear hx ho
        go_enter Try.func18, Try.ntmps18
        go_wp2
        go_ret
        exact ⟨x, rfl, by rw [hc.out]; rfl, Below.refl _ _⟩
      · have hc : Hid (smoothC o x t = some x) := Lib.hid (by unfold smoothC; simp only [hx, ho, h0, h1, h2]; rfl)
        unfold one at h1 h2 h3
        clear hx ho
        go_enter Try.func18, Try.ntmps18
        go_wp2
        go_ret
        exact ⟨x, rfl, by rw [hc.out]; rfl, Below.refl _ _⟩
    · have hc : Hid (smoothC o x t = some x) := Lib.hid (by unfold smoothC; simp only [hx, ho]; rfl)
      rw [hx] at nx
      rw [ho] at no
      clear hx ho hT
      go_enter Try.func18, Try.ntmps18
      go_wp2
      go_ret
      exact ⟨x, rfl, by rw [hc.out]; rfl, Below.refl _ _⟩
  · have hc : Hid (smoothC o x t = some o) := Lib.hid (by unfold smoothC; simp only [hx]; rfl)
    rw [hx] at nx
    clear hx no hT
    go_enter Try.func18, Try.ntmps18
    go_wp2
    go_ret
    exact ⟨o, rfl, by rw [hc.out]; rfl, Below.refl _ _⟩
end Go.Proofs.Ythnjnpighnlodaa
