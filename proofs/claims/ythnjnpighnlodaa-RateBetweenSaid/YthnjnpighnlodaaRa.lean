/-
  Float arithmetic that may be invalid: one law for both cases; the contracts of Part and Mean, and of the definition's Mean.
  Conditions: each theorem's own.
-/
import Derived.Test.YthnjnpighnlodaaRv
namespace Go.Proofs.Ythnjnpighnlodaa
open Go.RowKit

/-- The word r is what c says: its bits, or no number. -/
def Is (c : Option Nat) (r : Nat) : Prop := match c with | some x => r = x | none => Fl.nan r
theorem Is.same {c : Option Nat} {r s : Nat} (h : Is c r) (k : Is c s) : sameB r s = true := by
  unfold sameB nanB
  cases c with
  | none =>
    have h1 : Fl.nan r := h
    have k1 : Fl.nan s := k
    simp [h1, k1]
  | some x =>
    have h1 : r = x := h
    have k1 : s = x := k
    rw [h1, k1]
    by_cases hx : Fl.nan x <;> simp [hx]
def nanOf (x y : Nat) (w : World) : Nat := (w.tape w.drawn (.nanBits .f64 x y)) % 2 * 9223372036854775808 + 9218868437227405312 + 1 + (w.tape w.drawn (.nanBits .f64 x y)) / 2 % 4503599627370495
theorem nanOf_nan (x y : Nat) (w : World) : Fl.nan (nanOf x y w) := by
  unfold nanOf Fl.nan Fl.rung
  generalize w.tape w.drawn _ = t
  have h1 := Nat.mod_two_eq_zero_or_one t
  have h2 : t / 2 % 4503599627370495 < 4503599627370495 := Nat.mod_lt _ (by decide)
  generalize t / 2 % 4503599627370495 = u at *
  rcases h1 with h1 | h1 <;> rw [h1] <;> omega
def rr (op : BinOp) (x y : Nat) (w : World) : Nat := match floatBits op .f64 x y with | some r => r | none => nanOf x y w
def ww (op : BinOp) (x y : Nat) (w : World) : World := match floatBits op .f64 x y with | some _ => w | none => w.drew
theorem rr_is (op : BinOp) (x y : Nat) (w : World) : Is (floatBits op .f64 x y) (rr op x y w) := by
  unfold rr
  cases floatBits op .f64 x y with
  | none => exact nanOf_nan x y w
  | some r => rfl
theorem ww_below {B : Nat} {w0 w : World} (op : BinOp) (x y : Nat) (h : Below B w0 w) : Below B w0 (ww op x y w) := by
  unfold ww
  cases floatBits op .f64 x y with
  | none => exact h.drew
  | some r => exact h
theorem run_arith {P : Program} (op : BinOp) (t : TypeId) (x y : Nat) (w : World) (ho : op = .add ∨ op = .sub ∨ op = .mul ∨ op = .quo) :
    (binOp op t (.float .f64 x) (.float .f64 y)).run P w = .ok (.float .f64 (rr op x y w)) (ww op x y w) := by
  unfold rr ww nanOf
  rcases hf : floatBits op .f64 x y with _ | r
  · unfold floatBits at hf
    rcases ho with rfl | rfl | rfl | rfl <;> simp only at hf <;> simp [binOp, Op.floatArith, hf, Question.forced, Question.cut]
  · exact run_float_arith w op t .f64 x y r hf

theorem part_any (d a : Int) (w : World) :
    Calls Try.prog 12 #[.int .i64 d, .int .i64 a] w fun e w' => ∃ r, e = .returned (.float .f64 r) ∧ Is (floatBits .quo .f64 (floatOfInt .f64 d) (floatOfInt .f64 a)) r ∧ Below w.heap.size w w' := by
  have hop : ∀ t w, (binOp .quo t (.float .f64 (floatOfInt .f64 d)) (.float .f64 (floatOfInt .f64 a))).run Try.prog w = .ok (.float .f64 (rr .quo (floatOfInt .f64 d) (floatOfInt .f64 a) w)) (ww .quo (floatOfInt .f64 d) (floatOfInt .f64 a) w) := fun t w => run_arith .quo t _ _ w (by decide)
  have hfin : Hid (Is (floatBits .quo .f64 (floatOfInt .f64 d) (floatOfInt .f64 a)) (rr .quo (floatOfInt .f64 d) (floatOfInt .f64 a) w) ∧ Below w.heap.size w (ww .quo (floatOfInt .f64 d) (floatOfInt .f64 a) w)) := Lib.hid ⟨rr_is _ _ _ _, ww_below _ _ _ (Below.refl _ _)⟩
  go_enter Try.func12, Try.ntmps12
  go_wp2_with (simp only [hop])
  go_ret
  exact ⟨_, rfl, hfin.out.1, hfin.out.2⟩

theorem arith_nan_left (op : BinOp) (x y : Nat) (h : Fl.nan x) : floatBits op .f64 x y = none := by
  obtain ⟨s, t, e⟩ := Fl.read_nan x h
  unfold floatBits
  cases op <;> try rfl
  · show Ieee.double.add x y = none
    unfold Ieee.Format.add
    rw [e]
    rfl
  · show Ieee.double.sub x y = none
    unfold Ieee.Format.sub
    rw [e]
    rfl
  · show Ieee.double.mul x y = none
    unfold Ieee.Format.mul
    rw [e]
    rfl
  · show Ieee.double.div x y = none
    unfold Ieee.Format.div
    rw [e]
    rfl
theorem arith_nan_right (op : BinOp) (x y : Nat) (h : Fl.nan y) : floatBits op .f64 x y = none := by
  obtain ⟨s, t, e⟩ := Fl.read_nan y h
  unfold floatBits
  cases op <;> try rfl
  · show Ieee.double.add x y = none
    unfold Ieee.Format.add
    rw [e]
    cases Ieee.double.read x <;> rfl
  · show Ieee.double.sub x y = none
    unfold Ieee.Format.sub
    rw [e]
    cases Ieee.double.read x <;> rfl
  · show Ieee.double.mul x y = none
    unfold Ieee.Format.mul
    rw [e]
    cases Ieee.double.read x <;> rfl
  · show Ieee.double.div x y = none
    unfold Ieee.Format.div
    rw [e]
    cases Ieee.double.read x <;> rfl
/-- Arithmetic on what two words are said to be. -/
def arC (op : BinOp) (a b : Option Nat) : Option Nat := match a, b with | some x, some y => floatBits op .f64 x y | _, _ => none
theorem arC_is (op : BinOp) {a b : Option Nat} {x y : Nat} (ha : Is a x) (hb : Is b y) : floatBits op .f64 x y = arC op a b := by
  cases a with
  | none => exact arith_nan_left op x y ha
  | some u =>
    cases b with
    | none => exact arith_nan_right op x y hb
    | some v =>
      obtain rfl : x = u := ha
      obtain rfl : y = v := hb
      rfl
def sumC (l : List Nat) : Nat → Option Nat
  | 0 => some 0
  | k + 1 => arC .add (sumC l k) (some (l.getD k 0))
def meanC (l : List Nat) (n : Nat) : Option Nat := arC .quo (sumC l n) (some (floatOfInt .f64 n))

set_option maxHeartbeats 400000 in
theorem mean_any (A : Option Addr) (n c L : Nat) (l : List Nat) (w : World) (hr : Reads w L A n (fls l)) (hL : L ≤ w.heap.size) (hn : n ≤ 140737488351232) :
    Calls Try.prog 15 #[.slice A n c] w fun e w' => ∃ r, e = .returned (.float .f64 r) ∧ Is (meanC l n) r ∧ Below w.heap.size w w' := by
  have hadd : ∀ t x y w, (binOp .add t (.float .f64 x) (.float .f64 y)).run Try.prog w = .ok (.float .f64 (rr .add x y w)) (ww .add x y w) := fun t x y w => run_arith .add t x y w (by decide)
  have hquo : ∀ t x y w, (binOp .quo t (.float .f64 x) (.float .f64 y)).run Try.prog w = .ok (.float .f64 (rr .quo x y w)) (ww .quo x y w) := fun t x y w => run_arith .quo t x y w (by decide)
  go_enter Try.func15, Try.ntmps15
  go_wp2
  generalize hgs : w.heap.size = g0 at *
  have Hgs := Lib.hid hgs
  clear hgs
  go_loopg [3, 8] n (fun g s3 s8 wr => ∃ k x : Nat, k + g = n ∧ s8 = .int .i64 k ∧ s3 = .float .f64 x ∧ Aside (Is (sumC l k) x) ∧ Below g0 w wr)
  case atStart => exact ⟨0, 0, by omega, rfl, rfl, rfl, Below.refl _ _⟩
  case round =>
    obtain ⟨k, x, hkg, rfl, rfl, HA, hbel⟩ := hrel
    cases gk with
    | zero =>
      obtain rfl : k = n := by omega
      have Hq := Lib.hid (fun w => (arC_is .quo HA.out (show Is (some (floatOfInt .f64 k)) (floatOfInt .f64 k) from rfl)) ▸ rr_is .quo x (floatOfInt .f64 k) w)
      go_wp2_with (simp only [hquo])
      go_ret
      exact ⟨_, rfl, Hq.out _, by rw [Hgs.out]; exact ww_below _ _ _ hbel⟩
    | succ g =>
      have hlt : k < n := by omega
      obtain ⟨ad, rfl, hb1, hc1⟩ := ((hr.more hL).below hbel).fl hlt
      have Hs := Lib.hid (fun w => (show sumC l (k + 1) = floatBits .add .f64 x (l.getD k 0) from (arC_is .add HA.out (show Is (some (l.getD k 0)) (l.getD k 0) from rfl)).symm) ▸ rr_is .add x (l.getD k 0) w)
      clear hr hb1
      generalize l.getD k 0 = y at *
      go_wp2_with (simp only [hadd])
      go_roundg g
      case measure => omega
      case rel => exact ⟨k + 1, _, by omega, by go_num, rfl, Hs.out _, ww_below _ _ _ hbel⟩

set_option maxHeartbeats 400000 in
theorem refMean_any (A : Option Addr) (n c L : Nat) (l : List Nat) (w : World) (hr : Reads w L A n (fls l)) (hL : L ≤ w.heap.size) (hn : n ≤ 140737488351232) :
    Calls Try.prog 16 #[.slice A n c] w fun e w' => ∃ r, e = .returned (.float .f64 r) ∧ Is (meanC l n) r ∧ Below w.heap.size w w' := by
  have hadd : ∀ t x y w, (binOp .add t (.float .f64 x) (.float .f64 y)).run Try.prog w = .ok (.float .f64 (rr .add x y w)) (ww .add x y w) := fun t x y w => run_arith .add t x y w (by decide)
  have hquo : ∀ t x y w, (binOp .quo t (.float .f64 x) (.float .f64 y)).run Try.prog w = .ok (.float .f64 (rr .quo x y w)) (ww .quo x y w) := fun t x y w => run_arith .quo t x y w (by decide)
  go_enter Try.func16, Try.ntmps16
  go_wp2
  generalize hgs : w.heap.size = g0 at *
  have Hgs := Lib.hid hgs
  clear hgs
  go_loopg [3, 4] n (fun g s3 s4 wr => ∃ k x : Nat, k + g = n ∧ s4 = .int .i64 k ∧ s3 = .float .f64 x ∧ Aside (Is (sumC l k) x) ∧ Below g0 w wr)
  case atStart => exact ⟨0, 0, by omega, rfl, rfl, rfl, Below.refl _ _⟩
  case round =>
    obtain ⟨k, x, hkg, rfl, rfl, HA, hbel⟩ := hrel
    cases gk with
    | zero =>
      obtain rfl : k = n := by omega
      have Hq := Lib.hid (fun w => (arC_is .quo HA.out (show Is (some (floatOfInt .f64 k)) (floatOfInt .f64 k) from rfl)) ▸ rr_is .quo x (floatOfInt .f64 k) w)
      go_wp2_with (simp only [hquo])
      go_ret
      exact ⟨_, rfl, Hq.out _, by rw [Hgs.out]; exact ww_below _ _ _ hbel⟩
    | succ g =>
      have hlt : k < n := by omega
      obtain ⟨ad, rfl, hb1, hc1⟩ := ((hr.more hL).below hbel).fl hlt
      have Hs := Lib.hid (fun w => (show sumC l (k + 1) = floatBits .add .f64 x (l.getD k 0) from (arC_is .add HA.out (show Is (some (l.getD k 0)) (l.getD k 0) from rfl)).symm) ▸ rr_is .add x (l.getD k 0) w)
      clear hr hb1
      generalize l.getD k 0 = y at *
      go_wp2_with (simp only [hadd])
      go_roundg g
      case measure => omega
      case rel => exact ⟨k + 1, _, by omega, by go_num, rfl, Hs.out _, ww_below _ _ _ hbel⟩
end Go.Proofs.Ythnjnpighnlodaa
