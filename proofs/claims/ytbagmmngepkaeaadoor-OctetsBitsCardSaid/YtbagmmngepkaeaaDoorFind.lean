/-
  The contract of Free: the first bit that is free, or none.
  Conditions: at most 2^47 bytes.
-/
import Derived.Test.YtbagmmngepkaeaaDoorFree
namespace Go.Proofs.YtbagmmngepkaeaaDoor
open Go.RowKit

/-- What the first free bit is, or that there is none. -/
def FreeIs (l : List Nat) (start stop : Int) (r : Option Nat) : Prop :=
  match r with
  | some i => (i : Int) < stop ∧ i < 8 * l.length ∧ start ≤ i ∧ bitB l i = false ∧ ∀ j : Nat, j < i → start ≤ j → bitB l j = true
  | none => ∀ j : Nat, j < 8 * l.length → (j : Int) < stop → start ≤ j → bitB l j = true
theorem FreeIs.unique {l : List Nat} {start stop : Int} {r s : Option Nat} (h : FreeIs l start stop r) (k : FreeIs l start stop s) : r = s := by
  cases r with
  | none =>
    cases s with
    | none => rfl
    | some i => obtain ⟨h1, h2, h3, h4, _⟩ := k; exact absurd (h i h2 h1 h3) (by rw [h4]; decide)
  | some i =>
    obtain ⟨h1, h2, h3, h4, h5⟩ := h
    cases s with
    | none => exact absurd (k i h2 h1 h3) (by rw [h4]; decide)
    | some j =>
      obtain ⟨k1, k2, k3, k4, k5⟩ := k
      rcases Nat.lt_trichotomy i j with h | h | h
      · exact absurd (k5 i h h3) (by rw [h4]; decide)
      · rw [h]
      · exact absurd (h5 j h k3) (by rw [k4]; decide)
def Found (l : List Nat) (start stop : Int) (w : World) (e : Ending) (w' : World) : Prop :=
  ∃ r : Option Nat, FreeIs l start stop r ∧ e = .returned (.tuple #[.int .i64 ((r.getD 0 : Nat) : Int), .bool r.isSome]) ∧ w = w'

set_option maxHeartbeats 800000 in
theorem free_any (A : Option Addr) (n c B F : Nat) (l : List Nat) (start stop : Int) (w : World) (hl : Small l) (hr : Reads w B A n (bts l)) (hn : n ≤ 140737488351232)
    (hF : max start 0 / 8 = (F : Int)) (hlo : -9223372036854775808 ≤ start) (hhi : start ≤ 9223372036854775807) (hlo2 : -9223372036854775808 ≤ stop) (hhi2 : stop ≤ 9223372036854775807) :
    Calls Tryd.prog 23 #[.slice A n c, .int .i64 start, .int .i64 stop] w (Found l start stop w) := by
  have hFb : F ≤ 1152921504606846975 := by omega
  have hpos : 0 ≤ max start 0 := by omega
  have hpos2 : max start 0 ≤ 9223372036854775807 := by omega
  have hlow : Hid (∀ j : Nat, j < 8 * F → (j : Int) < start) := Lib.hid (by intro j hj; omega)
  have hlen := Lib.hid hr.len
  go_enter Tryd.func23, Tryd.ntmps23
  go_wp2
  go_step3
  go_wp2
  go_step3
  go_wp2
  rw [hF]
  clear hF hpos hpos2
  go_loopg [9, 10, 21] (n - F) (fun g s9 s10 s21 wr => ∃ k : Nat, k + g = n - F ∧ s21 = .int .i64 k ∧ s9 = .int .i64 0 ∧ s10 = .bool false ∧ Aside (∀ j : Nat, j < 8 * (F + k) → (j : Int) < stop → start ≤ j → bitB l j = true) ∧ w = wr)
  case atStart => exact ⟨0, by omega, rfl, rfl, rfl, fun j hj _ h2 => absurd (hlow.out j (by omega)) (by omega), rfl⟩
  case round =>
    obtain ⟨k, hkg, rfl, rfl, rfl, HA, rfl⟩ := hrel
    cases gk with
    | zero =>
      have ht : ¬ ((k : Int) < (n : Int) - (F : Int)) := by omega
      have hfin : Hid (FreeIs l start stop none) := Lib.hid fun j hj => HA.out j (by have := hlen.out; omega)
      go_wp2
      try rw [Exit.noGoto_ret]
      go_ret2
      exact ⟨none, hfin.out, rfl, rfl⟩
    | succ g =>
      have ht : (k : Int) < (n : Int) - (F : Int) := by omega
      go_wp2
      go_loopg [9, 10, 24] 8 (fun g2 s9 s10 s24 wr => ∃ s : Nat, s + g2 = 8 ∧ s24 = .int .i64 s ∧ s9 = .int .i64 0 ∧ s10 = .bool false ∧ Aside (∀ j : Nat, j < 8 * (F + k) + s → (j : Int) < stop → start ≤ j → bitB l j = true) ∧ w = wr)
      case atStart => exact ⟨0, by omega, rfl, rfl, rfl, HA, rfl⟩
      case round =>
        obtain ⟨s, hsg, rfl, rfl, rfl, HB, rfl⟩ := hrel
        cases gk with
        | zero =>
          have ht2 : ¬ ((s : Int) < 8) := by omega
          go_wp2
          go_roundg g
          case measure => omega
          case rel => exact ⟨k + 1, by omega, by go_num, rfl, rfl, fun j hj => HB.out j (by omega), rfl⟩
        | succ g2 =>
          have ht2 : (s : Int) < 8 := by omega
          have hlast : Hid (∀ j : Nat, j < 8 * (F + k) + (s + 1) → j < 8 * (F + k) + s ∨ j = 8 * (F + k) + s) := Lib.hid fun j hj => by omega
          by_cases h1 : stop ≤ 8 * ((F : Int) + (k : Int)) + (s : Int)
          · have hfin : Hid (FreeIs l start stop none) := Lib.hid fun j _ h2 => HB.out j (by omega) h2
            go_wp2
            try rw [Exit.noGoto_ret]
            go_ret2
            exact ⟨none, hfin.out, rfl, rfl⟩
          · by_cases h2 : start ≤ 8 * ((F : Int) + (k : Int)) + (s : Int)
            · have hd : decide (start ≤ 8 * ((F : Int) + (k : Int)) + (s : Int)) = true := by simpa using h2
              have hcall := has_int A n c B (8 * ((F : Int) + (k : Int)) + (s : Int)) l w hl hr hn (by omega) (by omega)
              rw [show (8 * ((F : Int) + (k : Int)) + (s : Int)).toNat = 8 * (F + k) + s by omega] at hcall
              cases hbit : bitB l (8 * (F + k) + s)
              · have hfin : Hid (FreeIs l start stop (some (8 * (F + k) + s))) := Lib.hid ⟨by omega, by have := hlen.out; omega, by omega, hbit, fun j hj h3 => HB.out j hj (by omega) h3⟩
                rw [hbit] at hcall
                have Hcall := Lib.hid hcall
                clear hcall hbit
                go_wp2_with (go_at_call 25; refine Hcall.out.mono ?_; rintro e w' ⟨rfl, rfl⟩)
                try rw [Exit.noGoto_ret]
                go_ret2
                exact ⟨some (8 * (F + k) + s), hfin.out, by go_num, rfl⟩
              · have hnext : Aside (∀ j : Nat, j < 8 * (F + k) + (s + 1) → (j : Int) < stop → start ≤ j → bitB l j = true) := fun j hj h3 h4 => by
                  rcases hlast.out j hj with h | h
                  · exact HB.out j h h3 h4
                  · rw [h]; exact hbit
                rw [hbit] at hcall
                have Hcall := Lib.hid hcall
                clear hcall hbit
                go_wp2_with (go_at_call 25; refine Hcall.out.mono ?_; rintro e w' ⟨rfl, rfl⟩)
                go_roundg g2
                case measure => omega
                case rel => exact ⟨s + 1, by omega, by go_num, rfl, rfl, hnext, rfl⟩
            · have hd : decide (start ≤ 8 * ((F : Int) + (k : Int)) + (s : Int)) = false := by simpa using h2
              have hnext : Aside (∀ j : Nat, j < 8 * (F + k) + (s + 1) → (j : Int) < stop → start ≤ j → bitB l j = true) := fun j hj h3 h4 => by
                rcases hlast.out j hj with h | h
                · exact HB.out j h h3 h4
                · omega
              go_wp2
              go_roundg g2
              case measure => omega
              case rel => exact ⟨s + 1, by omega, by go_num, rfl, rfl, hnext, rfl⟩
end Go.Proofs.YtbagmmngepkaeaaDoor
