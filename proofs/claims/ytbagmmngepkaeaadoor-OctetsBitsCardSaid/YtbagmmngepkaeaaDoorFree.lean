/-
  The contracts of Free, Count and of the library's OnesCount8.
  Conditions: each theorem's own.
-/
import Derived.Test.YtbagmmngepkaeaaDoorBit
import Derived.Lib.BitFns
import Derived.Lib.MinMax
import Derived.Deep.LoopGhost
namespace Go.Proofs.YtbagmmngepkaeaaDoor
open Go.RowKit

theorem pop_t1 (x : Nat) (h : x < Lib.pop8tab.size) : x < 256 := by
  rw [Lib.pop8tab_size] at h; exact h
theorem pop_t2 (x : Nat) (h : x < Lib.pop8tab.size) : Lib.pop8 (x : Int) = ((Lib.pop8tab[x].toNat : Nat) : Int) := by
  unfold Lib.pop8
  rw [Int.toNat_natCast, getElem?_pos Lib.pop8tab x h]
  rfl
theorem pop_get (x : Nat) (h : x < Lib.pop8tab.size) : wrap64 ((Lib.pop8tab[x].toNat : Nat) : Int) = ((Lib.onesCount x : Nat) : Int) := by
  rw [← pop_t2 x h]
  have e := Lib.pop8_eq ⟨x, pop_t1 x h⟩
  have l := Lib.onesCount_le8 ⟨x, pop_t1 x h⟩
  simp only at e l
  rw [e]
  generalize Lib.onesCount x = y at *
  exact IntWalk.wrap64_in _ ⟨by omega, by omega⟩

set_option maxRecDepth 100000 in
set_option maxHeartbeats 400000 in
theorem ones_any (x : Nat) (w : World) (h : x < 256) :
    Calls Tryd.prog 33 #[.int .u8 x] w fun e w' => e = .returned (.int .i64 (Lib.onesCount x)) ∧ w = w' := by
  go_enter Tryd.func33, Tryd.ntmps33
  go_wp2_with fail
  rw [pop_get x (by assumption)]
  go_ret
  exact ⟨rfl, rfl⟩

/-- How many of the first m bits are set. -/
def cnt (l : List Nat) : Nat → Nat
  | 0 => 0
  | m + 1 => cnt l m + if bitB l m = true then 1 else 0
theorem cnt_le (l : List Nat) (m : Nat) : cnt l m ≤ m := by
  induction m with
  | zero => exact Nat.le_refl _
  | succ m ih => rw [cnt]; split <;> omega
theorem ones_eq : ∀ x : Fin 256, Lib.onesCount x.val = x.val / 2 ^ 0 % 2 + x.val / 2 ^ 1 % 2 + x.val / 2 ^ 2 % 2 + x.val / 2 ^ 3 % 2 + x.val / 2 ^ 4 % 2 + x.val / 2 ^ 5 % 2 + x.val / 2 ^ 6 % 2 + x.val / 2 ^ 7 % 2 := by decide +kernel
theorem bit_val (l : List Nat) (k j : Nat) (hj : j < 8) : (if bitB l (8 * k + j) = true then 1 else 0) = l.getD k 0 / 2 ^ j % 2 := by
  unfold bitB
  rw [show (8 * k + j) / 8 = k by omega, show (8 * k + j) % 8 = j by omega]
  have h : l.getD k 0 / 2 ^ j % 2 = 0 ∨ l.getD k 0 / 2 ^ j % 2 = 1 := by omega
  rcases h with h | h <;> rw [h] <;> rfl
theorem cnt_step (l : List Nat) (k j : Nat) (hj : j < 8) : cnt l (8 * k + j + 1) = cnt l (8 * k + j) + l.getD k 0 / 2 ^ j % 2 := by
  rw [← bit_val l k j hj]; rfl
theorem eight {f g : Nat → Nat} (a : Nat) (h : ∀ j, j < 8 → f (a + j + 1) = f (a + j) + g j) : f (a + 8) = f a + (g 0 + g 1 + g 2 + g 3 + g 4 + g 5 + g 6 + g 7) := by
  have h0 := h 0 (by decide); have h1 := h 1 (by decide); have h2 := h 2 (by decide); have h3 := h 3 (by decide)
  have h4 := h 4 (by decide); have h5 := h 5 (by decide); have h6 := h 6 (by decide); have h7 := h 7 (by decide)
  simp only [Nat.add_zero, Nat.add_assoc, Nat.reduceAdd] at h0 h1 h2 h3 h4 h5 h6 h7 ⊢
  omega
theorem cnt_byte (l : List Nat) (k : Nat) (hl : Small l) : cnt l (8 * (k + 1)) = cnt l (8 * k) + Lib.onesCount (l.getD k 0) := by
  have h := ones_eq ⟨l.getD k 0, hl.get k⟩
  simp only at h
  rw [h]
  exact eight (f := cnt l) (g := fun j => l.getD k 0 / 2 ^ j % 2) (8 * k) (fun j hj => cnt_step l k j hj)

theorem cnt_zero (l : List Nat) : cnt l 0 = 0 := rfl
theorem cnt_succ (l : List Nat) (m : Nat) : cnt l (m + 1) = cnt l m + if bitB l m = true then 1 else 0 := rfl
attribute [irreducible] cnt
theorem tdiv_neg8 (s : Int) (h : s < 0) : s.tdiv 8 ≤ 0 := by
  obtain ⟨p, rfl⟩ : ∃ p : Int, s = -p := ⟨-s, by omega⟩
  rw [Int.neg_tdiv, Int.tdiv_eq_ediv_of_nonneg (by omega)]
  omega
theorem tmod_neg8 (s : Int) (h : s < 0) : s.tmod 8 ≤ 0 := by
  obtain ⟨p, rfl⟩ : ∃ p : Int, s = -p := ⟨-s, by omega⟩
  rw [Int.neg_tmod, Int.tmod_eq_emod_of_nonneg (by omega)]
  omega
set_option maxHeartbeats 400000 in
theorem count_neg (A : Option Addr) (n c : Nat) (stop : Int) (w : World) (hn : n ≤ 140737488351232) (h : stop < 0) (hlo : -9223372036854775808 ≤ stop) :
    Calls Tryd.prog 27 #[.slice A n c, .int .i64 stop] w fun e w' => e = .returned (.int .i64 0) ∧ w = w' := by
  have hmin := Lib.hid (show min stop (8 * (n : Int)) = stop by omega)
  go_enter Tryd.func27, Tryd.ntmps27
  go_wp2_with fail
  rw [hmin.out]
  have hq : stop.tdiv 8 ≤ 0 := tdiv_neg8 stop h
  have hq2 : stop.tmod 8 ≤ 0 := tmod_neg8 stop h
  generalize stop.tdiv 8 = q at *
  go_loop [5, 15] (fun s i => s = .int .i64 0 ∧ i = .int .i64 0) (fun _ _ => 0)
  case atStart => exact ⟨rfl, rfl⟩
  case round =>
    obtain ⟨rfl, rfl⟩ := hrel
    go_wp2
    generalize stop.tmod 8 = r at *
    go_loop [5, 28] (fun s i => s = .int .i64 0 ∧ i = .int .i64 0) (fun _ _ => 0)
    case atStart => exact ⟨rfl, rfl⟩
    case round =>
      obtain ⟨rfl, rfl⟩ := hrel
      go_wp2
      go_ret
      exact ⟨rfl, rfl⟩
set_option maxHeartbeats 400000 in
theorem count_any (A : Option Addr) (n c B m : Nat) (l : List Nat) (stop : Int) (w : World) (hl : Small l) (hr : Reads w B A n (bts l)) (hn : n ≤ 140737488351232) (hm : min stop (8 * (n : Int)) = (m : Int)) :
    Calls Tryd.prog 27 #[.slice A n c, .int .i64 stop] w fun e w' => e = .returned (.int .i64 (cnt l m)) ∧ w = w' := by
  have hm8 : m ≤ 8 * n := by omega
  go_enter Tryd.func27, Tryd.ntmps27
  go_wp2
  clear hm
  go_loop [5, 15] (fun s5 s15 => ∃ k : Nat, k ≤ m / 8 ∧ s15 = .int .i64 k ∧ s5 = .int .i64 (cnt l (8 * k))) (fun _ i => m / 8 - (intOf i).toNat)
  case atStart => exact ⟨0, Nat.zero_le _, rfl, by rw [Nat.mul_zero, cnt_zero]; rfl⟩
  case round =>
    obtain ⟨k, hk, rfl, rfl⟩ := hrel
    by_cases hlt : k < m / 8
    · obtain ⟨ad, rfl, hb, hc⟩ := hr.byte (k := k) (by omega)
      have hx := hl.get k
      have hst := Lib.hid (cnt_byte l k hl)
      have hle := cnt_le l (8 * k)
      have ho := Lib.onesCount_le8 ⟨l.getD k 0, hx⟩
      simp only at ho
      have hcall := ones_any (l.getD k 0) w hx
      generalize Lib.onesCount (l.getD k 0) = o at *
      have Hcall := Lib.hid hcall
      clear hcall
      generalize l.getD k 0 = x at *
      generalize cnt l (8 * k) = y at *
      go_wp2_with (go_at_call 33; refine Hcall.out.mono ?_; rintro e w' ⟨rfl, rfl⟩)
      go_round
      case rel => exact ⟨k + 1, by omega, by go_num, by rw [hst.out]; go_num⟩
      case measure => simp [intOf]; omega
    · obtain rfl : k = m / 8 := by omega
      have hle := cnt_le l (8 * (m / 8))
      have hle2 := cnt_le l m
      have hfin := Lib.hid (show 8 * (m / 8) + m % 8 = m by omega)
      have hmod := Nat.mod_lt m (show 8 > 0 by decide)
      go_wp2
      generalize hY : cnt l (8 * (m / 8)) = Y at *
      have HY := Lib.hid hY
      clear hY
      go_loop [5, 28] (fun s5 s28 => ∃ k y : Nat, k ≤ m % 8 ∧ s28 = .int .i64 k ∧ s5 = .int .i64 y ∧ y + cnt l (m - k) = Y + cnt l m) (fun _ i => m % 8 - (intOf i).toNat)
      case atStart => exact ⟨0, Y, Nat.zero_le _, rfl, rfl, rfl⟩
      case round =>
        obtain ⟨k, y, hk2, rfl, rfl, hy⟩ := hrel
        by_cases hlt2 : k < m % 8
        · obtain ⟨j, hj⟩ : ∃ j, m = j + k + 1 := ⟨m - k - 1, by omega⟩
          have hstep : cnt l (m - k) = cnt l (m - (k + 1)) + if bitB l j = true then 1 else 0 := by
            rw [show m - k = j + 1 by omega, show m - (k + 1) = j by omega, cnt_succ]
          have hyb : y ≤ Y + cnt l m := by omega
          have Hy := Lib.hid hy
          have Hst := Lib.hid hstep
          have ht : ((m : Int) - 1 - (k : Int)).toNat = j := by omega
          have Ht := Lib.hid ht
          clear hy hstep ht hj
          have hcall := has_int A n c B ((m : Int) - 1 - (k : Int)) l w hl hr hn (by omega) (by omega)
          rw [Ht.out] at hcall
          cases hbit : bitB l j
          · have hz : Hid (cnt l (m - k) = cnt l (m - (k + 1))) := Lib.hid (by rw [Hst.out, hbit]; rfl)
            rw [hbit] at hcall
            have Hcall := Lib.hid hcall
            clear hcall hbit Hst
            go_wp2_with (go_at_call 25; refine Hcall.out.mono ?_; rintro e w' ⟨rfl, rfl⟩)
            go_round
            case rel => exact ⟨k + 1, y, by omega, by go_num, rfl, by rw [← hz.out]; exact Hy.out⟩
            case measure => simp [intOf]; omega
          · have hz : Hid (cnt l (m - k) = cnt l (m - (k + 1)) + 1) := Lib.hid (by rw [Hst.out, hbit]; rfl)
            rw [hbit] at hcall
            have Hcall := Lib.hid hcall
            clear hcall hbit Hst
            go_wp2_with (go_at_call 25; refine Hcall.out.mono ?_; rintro e w' ⟨rfl, rfl⟩)
            go_round
            case rel => exact ⟨k + 1, y + 1, by omega, by go_num, by go_num, by have h1 := Hy.out; have h2 := hz.out; omega⟩
            case measure => simp [intOf]; omega
        · have hk3 : k = m % 8 := by omega
          have hyf : Hid (y = cnt l m) := Lib.hid (by
            have h1 := HY.out
            rw [show m - k = 8 * (m / 8) by omega] at hy
            omega)
          clear hy hk3
          go_wp2
          go_ret
          exact ⟨by rw [hyf.out]; rfl, rfl⟩
end Go.Proofs.YtbagmmngepkaeaaDoor
