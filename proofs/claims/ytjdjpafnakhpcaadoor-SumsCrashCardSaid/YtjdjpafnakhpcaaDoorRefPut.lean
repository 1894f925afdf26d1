/-
  The contracts of the definition's own Put and Get.
  Conditions: each theorem's own.
-/
import Derived.Test.YtjdjpafnakhpcaaDoorPut
namespace Go.Proofs.YtjdjpafnakhpcaaDoor
open Go.RowKit

def RefMade (l : List Nat) (w : World) (e : Ending) (w' : World) : Prop :=
  ∃ v, e = .returned (.tuple #[v, .int .i64 0]) ∧ w'.ownsRow w.heap.size 5 1 v l.length (bts l) ∧ Below w.heap.size w w'
def RefRefused (w : World) (e : Ending) (w' : World) : Prop := e = .returned (.tuple #[.slice none 0 0, .int .i64 1]) ∧ Below w.heap.size w w'

set_option maxHeartbeats 400000 in
theorem refPut_wide (x : Nat) (n : Int) (w : World) (h : n < 1 ∨ 8 < n) :
    Calls Tryd.prog 87 #[.int .u64 x, .int .i64 n] w (RefRefused w) := by
  rcases h with h | h
  · go_enter Tryd.func87, Tryd.ntmps87
    go_wp2
    go_ret2
    exact ⟨rfl, Below.refl _ _⟩
  · have h0 : decide (n < 1) = false := by simp; omega
    go_enter Tryd.func87, Tryd.ntmps87
    go_wp2
    go_ret2
    exact ⟨rfl, Below.refl _ _⟩

theorem putL_take_succ (x n k : Nat) (h : k < n) : bts ((putL x n).take (k + 1)) = bts ((putL x n).take k) ++ [.int .u8 ((x / 2 ^ (8 * k) % 256 : Nat) : Int)] := by
  have hl : k < (putL x n).length := by rw [putL_length]; exact h
  rw [List.take_succ_eq_append_getElem hl, bts_append]
  congr 1
  simp [bts, putL]
theorem div_step (x k : Nat) : x / 2 ^ (8 * (k + 1)) = x / 2 ^ (8 * k) / 256 := by
  rw [show 8 * (k + 1) = 8 * k + 8 by omega, Nat.pow_add, Nat.div_div_eq_div_mul]

def PutRef (x n : Nat) (w : World) (e : Ending) (w' : World) : Prop :=
  if x < 2 ^ (8 * n) then RefMade (putL x n) w e w' else RefRefused w e w'

set_option maxHeartbeats 400000 in
theorem refPut_any (x n : Nat) (w : World) (h1 : 1 ≤ n) (h2 : n ≤ 8) (hx : x < 18446744073709551616) :
    Calls Tryd.prog 87 #[.int .u64 x, .int .i64 n] w (PutRef x n w) := by
  obtain ⟨i0, hi, hz0, hz1, hz2⟩ := info_parts info_u8
  have h0 : decide ((n : Int) < 1) = false := by simp; omega
  have h3 : decide (8 < (n : Int)) = false := by simp; omega
  go_enter Tryd.func87, Tryd.ntmps87
  go_wp2
  clear h0 h3
  generalize hgs : w.heap.size = g at *
  have Hgs := Lib.hid hgs
  clear hgs
  go_loopw [0, 6, 7] (fun s0 s6 s7 wr => ∃ k y : Nat, k ≤ n ∧ Hid (y = x / 2 ^ (8 * k)) ∧ y < 18446744073709551616 ∧ s7 = .int .i64 k ∧ s0 = .int .u64 y ∧ wr.ownsRow g 5 1 s6 k (bts ((putL x n).take k)) ∧ Below g w wr) (fun _ _ i _ => n - (intOf i).toNat)
  case atStart => exact ⟨0, x, Nat.zero_le _, Lib.hid (by simp), hx, rfl, rfl, by simpa [bts] using World.ownsRow_nil w g 5 1, Below.refl _ _⟩
  case round =>
    obtain ⟨k, y, hk, Hy, hy, rfl, rfl, hown, hbel⟩ := hrel
    have hsz : g ≤ wr.heap.size := by rw [← Hgs.out]; exact hbel.size
    by_cases hlt : k < n
    · have hyd := Lib.hid (show y / 256 = x / 2 ^ (8 * (k + 1)) by rw [div_step, Hy.out])
      have hts := Lib.hid (putL_take_succ x n k hlt)
      go_wp2_with (at_builtin; refine append1 rfl _ _ 28 rfl g 5 i0 (.int .u8 0) 1 Tryd.underlying28 hi hz0 hz1 hz2 rfl _ k _ rfl (.int .u8 ((y : Int) % 256)) rfl rfl (by exact hown) (by unfold maxLen; omega) (by omega) w hbel (by omega) ?_; intro v' w1 hown1 hbel1)
      have e1 : bts ((putL x n).take k) ++ [.int .u8 ((y : Int) % 256)] = bts ((putL x n).take (k + 1)) := by
        rw [hts.out, ← Hy.out]; simp
      rw [e1] at hown1
      go_wp2
      go_roundw
      case rel => exact ⟨k + 1, y / 256, by omega, hyd, by omega, by go_num, by go_num, hown1, hbel1⟩
      case measure => simp [intOf]; omega
    · obtain rfl : k = n := by omega
      have hxy := Lib.hid (show 0 < y ↔ ¬ x < 2 ^ (8 * k) by
        rw [Hy.out, Nat.not_lt]; exact Nat.div_pos_iff.trans ⟨fun h => h.2, fun h => ⟨Nat.two_pow_pos _, h⟩⟩)
      by_cases hpos : 0 < y
      · go_wp2
        go_ret2
        unfold PutRef
        rw [if_neg (hxy.out.1 hpos)]
        exact ⟨rfl, by rw [Hgs.out]; exact hbel⟩
      · have h0 : decide (0 < (y : Int)) = false := by simp; omega
        go_wp2
        go_ret2
        unfold PutRef
        rw [if_pos (by false_or_by_contra; exact hpos (hxy.out.2 (by assumption)))]
        refine ⟨_, rfl, ?_, by rw [Hgs.out]; exact hbel⟩
        rw [putL_length, Hgs.out]
        rw [List.take_of_length_le (by rw [putL_length]; omega)] at hown
        exact hown

theorem cutAt_front (l : List Nat) (i m n : Nat) (hm : 0 < m) (hmn : m ≤ n) (h : i + n ≤ l.length) :
    getN (cutAt l (i + (m - 1)) (n - (m - 1))) = getN (cutAt l (i + m) (n - m)) * 256 + l.getD (i + (m - 1)) 0 := by
  unfold cutAt
  have hl : i + (m - 1) < l.length := by omega
  rw [List.drop_eq_getElem_cons hl, show n - (m - 1) = (n - m) + 1 by omega, List.take_succ_cons, getN, show i + (m - 1) + 1 = i + m by omega]
  have e : l.getD (i + (m - 1)) 0 = l[i + (m - 1)] := by simp [List.getD, List.getElem?_eq_getElem hl]
  rw [e]; omega

set_option maxHeartbeats 400000 in
theorem refGet_wide (A : Option Addr) (len c : Nat) (i n : Int) (w : World) (h : n < 1 ∨ 8 < n) :
    Calls Tryd.prog 79 #[.slice A len c, .int .i64 i, .int .i64 n] w (Refused0 w) := by
  rcases h with h | h
  · go_enter Tryd.func79, Tryd.ntmps79
    go_wp2
    go_ret2
    exact ⟨rfl, rfl⟩
  · have h0 : decide (n < 1) = false := by simp; omega
    go_enter Tryd.func79, Tryd.ntmps79
    go_wp2
    go_ret2
    exact ⟨rfl, rfl⟩
set_option maxHeartbeats 400000 in
theorem refGet_out (A : Option Addr) (len c : Nat) (i n : Int) (w : World) (h1 : 1 ≤ n) (h2 : n ≤ 8) (h : i < 0 ∨ (0 ≤ i ∧ i ≤ 9223372036854775807 ∧ (len : Int) - i < n)) :
    Calls Tryd.prog 79 #[.slice A len c, .int .i64 i, .int .i64 n] w (Refused0 w) := by
  have g0 : decide (n < 1) = false := by simp; omega
  have g1 : decide (8 < n) = false := by simp; omega
  rcases h with h | ⟨ha, hb, hc⟩
  · go_enter Tryd.func79, Tryd.ntmps79
    go_wp2
    go_ret2
    exact ⟨rfl, rfl⟩
  · have g2 : decide (i < 0) = false := by simp; omega
    by_cases hil : (len : Int) < i
    · go_enter Tryd.func79, Tryd.ntmps79
      go_wp2
      go_ret2
      exact ⟨rfl, rfl⟩
    · have g3 : decide ((len : Int) < i) = false := by simp; omega
      go_enter Tryd.func79, Tryd.ntmps79
      go_wp2
      go_ret2
      exact ⟨rfl, rfl⟩

set_option maxHeartbeats 400000 in
theorem refGet_ok (A : Option Addr) (len c B : Nat) (l : List Nat) (i n : Nat) (w : World) (h1 : 1 ≤ n) (h2 : n ≤ 8) (hl : Small l) (hr : Reads w B A len (bts l)) (hlen : len ≤ maxLen) (h : i + n ≤ len) :
    Calls Tryd.prog 79 #[.slice A len c, .int .i64 i, .int .i64 n] w (Told (getN (cutAt l i n)) w) := by
  unfold maxLen at hlen
  have hll := hr.len
  have g0 : decide ((n : Int) < 1) = false := by simp; omega
  have g1 : decide (8 < (n : Int)) = false := by simp; omega
  have g2 : decide ((i : Int) < 0) = false := by simp
  have g3 : decide ((len : Int) < (i : Int)) = false := by simp; omega
  have g4 : decide ((len : Int) - (i : Int) < (n : Int)) = false := by simp; omega
  go_enter Tryd.func79, Tryd.ntmps79
  go_wp2
  clear g0 g1 g2 g3 g4
  go_loop [8, 9] (fun s8 s9 => ∃ m : Nat, m ≤ n ∧ s9 = .int .i64 ((m : Int) - 1) ∧ s8 = .int .u64 (getN (cutAt l (i + m) (n - m)))) (fun _ j => (intOf j + 1).toNat)
  case atStart => exact ⟨n, Nat.le_refl _, rfl, by simp [cutAt, getN]⟩
  case round =>
    obtain ⟨m, hm, rfl, rfl⟩ := hrel
    by_cases hlt : 0 < m
    · obtain ⟨ad, rfl, hb, hc⟩ := hr.byte (k := i + (m - 1)) (by omega)
      have hsn := Lib.hid (cutAt_front l i m n hlt hm (by omega))
      have hx : getN (cutAt l (i + m) (n - m)) < 72057594037927936 := by
        have := cutAt_lt hl (i + m) (n - m)
        have h2 : 2 ^ (8 * (n - m)) ≤ 2 ^ 56 := Nat.pow_le_pow_right (by omega) (by omega)
        omega
      have hy := hl.get (i + (m - 1))
      generalize l.getD (i + (m - 1)) 0 = b at *
      generalize getN (cutAt l (i + m) (n - m)) = x at *
      obtain ⟨j, rfl⟩ : ∃ j, m = j + 1 := ⟨m - 1, by omega⟩
      simp only [Nat.add_sub_cancel] at hc hsn
      go_wp2
      go_round
      case rel => exact ⟨j, by omega, by go_num, by rw [hsn.out]; go_num⟩
      case measure => simp [intOf]
    · obtain rfl : m = 0 := by omega
      go_wp2
      go_ret2
      exact ⟨rfl, rfl⟩
end Go.Proofs.YtjdjpafnakhpcaaDoor
