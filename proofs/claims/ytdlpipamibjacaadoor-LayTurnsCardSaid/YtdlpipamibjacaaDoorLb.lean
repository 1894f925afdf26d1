/-
  The contract of the program's Back.
  Conditions: each theorem's own.
-/
import Derived.Test.YtdlpipamibjacaaDoorLx
namespace Go.Proofs.YtdlpipamibjacaaDoor.L
open Go.RowKit

/-- What Back refuses. -/
def NoBack (n s m : Int) : Prop := n < 3 ∨ (3 ≤ n ∧ 16 < n) ∨ (3 ≤ n ∧ n ≤ 16 ∧ (s < 0 ∨ (0 ≤ s ∧ 1023 < s) ∨ (0 ≤ s ∧ s ≤ 1023 ∧ (m < 0 ∨ (0 ≤ m ∧ n ≤ m)))))
theorem back_or (n s m : Int) : NoBack n s m ∨ (3 ≤ n ∧ n ≤ 16 ∧ 0 ≤ s ∧ s ≤ 1023 ∧ 0 ≤ m ∧ m < n) := by unfold NoBack; omega
def backV (n s m : Nat) : Value :=
  if placeOf n (par n s) m = n - 1 then .tuple #[.int .i64 0, .bool false, .int .i64 0]
  else .tuple #[.int .i64 ((s * (n - 1) + placeOf n (par n s) m : Nat) : Int), .bool true, .int .i64 0]
theorem placeOf_tab (n p m : Nat) (hn : 3 ≤ n) (hp : p < n) (hm : m < n) : ((m : Int) - (p : Int) + (n : Int)) % (n : Int) = if placeOf n p m = n - 1 then 0 else (placeOf n p m : Int) + 1 := by
  have e : (m : Int) - (p : Int) + (n : Int) = ((m + n - p : Nat) : Int) := by omega
  rw [e, ← Int.natCast_emod, mod_turn n (m + n - p) (by omega), placeOf_turn n p m hp hm]
  split <;> split <;> split <;> omega
set_option maxRecDepth 20000 in
set_option maxHeartbeats 800000 in
theorem back_ok (n s m : Nat) (w : World) (h3 : 3 ≤ n) (h16 : n ≤ 16) (hs : s ≤ 1023) (hm : m < n) (hT : Tab w) :
    Calls Tryd.prog 22 #[.int .i64 n, .int .i64 s, .int .i64 m] w fun e w' => e = .returned (backV n s m) ∧ w = w' := by
  have hp := Lib.hid (parity_ok n s · h3 h16 (by omega))
  have hpn := par_lt n s (by omega)
  have hv : Hid (backV n s m = if placeOf n (par n s) m = n - 1 then .tuple #[.int .i64 0, .bool false, .int .i64 0]
    else .tuple #[.int .i64 ((s * (n - 1) + placeOf n (par n s) m : Nat) : Int), .bool true, .int .i64 0]) := Lib.hid rfl
  rw [hv.out]
  clear hv
  generalize par n s = p at *
  have hpt := placeOf_tab n p m h3 hpn hm
  have hpl := placeOf_lt n p m (by omega)
  generalize placeOf n p m = k at *
  by_cases hk : k = n - 1
  · rw [if_pos hk] at hpt ⊢
    have h0 := hT 0 (by decide)
    have h0b : w.cell? ⟨0, 0, none⟩ = some (.int .i64 (-1)) := h0
    clear h0 hk hpl hT
    go_enter Tryd.func22, Tryd.ntmps22
    go_wp2_with (go_at_call 17; refine (hp.out _).mono ?_; rintro e w' ⟨rfl, rfl⟩)
    go_ret3
    exact ⟨rfl, rfl⟩
  · rw [if_neg hk] at hpt ⊢
    have h0 := hT (k + 1) (by omega)
    have h0b : w.cell? ⟨0, k + 1, none⟩ = some (.int .i64 (k : Int)) := by rw [h0]; congr 2; omega
    have hmul : (s : Int) * ((n : Int) - 1) = ((s * (n - 1) : Nat) : Int) := by
      have e : (n : Int) - 1 = ((n - 1 : Nat) : Int) := by omega
      rw [e]; simp
    have hmb : s * (n - 1) ≤ 1023 * 15 := Nat.mul_le_mul hs (by omega)
    generalize s * (n - 1) = z at *
    clear h0 hT
    have hk1 : k < n - 1 := by omega
    clear hk
    go_enter Tryd.func22, Tryd.ntmps22
    go_wp2_with (go_at_call 17; refine (hp.out _).mono ?_; rintro e w' ⟨rfl, rfl⟩)
    go_ret3
    exact ⟨by go_num, rfl⟩
end Go.Proofs.YtdlpipamibjacaaDoor.L
