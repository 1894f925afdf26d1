/-
  The contracts of the definition's calls on bits: Bits, Has, Count, Free, With.
  Conditions: at most 65536 bytes.
-/
import Derived.Test.YtbagmmngepkaeaaDoorFind
namespace Go.Proofs.YtbagmmngepkaeaaDoor
open Go.RowKit

theorem bit_test (l : List Nat) (i : Nat) : bitB l i = (l.getD (i / 8) 0).testBit (i % 8) := by
  unfold bitB
  rw [Nat.testBit_eq_decide_div_mod_eq]
  generalize l.getD (i / 8) 0 / 2 ^ (i % 8) % 2 = y
  rw [Bool.eq_iff_iff, beq_iff_eq, decide_eq_true_iff]
theorem byte_rest : ∀ k m : Fin 8, (255 - 2 ^ m.val).testBit k.val = decide (m.val ≠ k.val) := by decide
theorem withOn_get (l : List Nat) (i k : Nat) (on : Bool) (h : i / 8 < l.length) : (withL l i on).getD k 0 = if k = i / 8 then (if on then l.getD (i / 8) 0 ||| 2 ^ (i % 8) else l.getD (i / 8) 0 &&& (255 - 2 ^ (i % 8))) else l.getD k 0 := by
  unfold withL
  simp only [List.getD]
  rw [List.getElem?_set]
  by_cases hk : i / 8 = k
  · subst hk; simp [h]
  · rw [if_neg hk, if_neg (fun e => hk e.symm)]
theorem withOn_bit (l : List Nat) (i j : Nat) (on : Bool) (h : i / 8 < l.length) : bitB (withL l i on) j = if j = i then on else bitB l j := by
  rw [bit_test, bit_test, withOn_get l i _ on h]
  by_cases hk : j / 8 = i / 8
  · rw [if_pos hk, hk]
    cases on
    · simp only [Bool.false_eq_true, if_false]
      rw [Nat.testBit_and, byte_rest ⟨j % 8, Nat.mod_lt _ (by decide)⟩ ⟨i % 8, Nat.mod_lt _ (by decide)⟩]
      simp only
      by_cases hm : i % 8 = j % 8
      · rw [if_pos (by omega)]; simp [hm]
      · rw [if_neg (by intro e; exact hm (by rw [e]))]; simp [hm]
    · simp only [if_true]
      rw [Nat.testBit_or, Nat.testBit_two_pow]
      by_cases hm : i % 8 = j % 8
      · rw [if_pos (by omega)]; simp [hm]
      · rw [if_neg (by intro e; exact hm (by rw [e]))]; simp [hm]
  · rw [if_neg hk, if_neg (by intro e; exact hk (by rw [e]))]
theorem withOn_small {l : List Nat} (h : Small l) (i : Nat) (on : Bool) : Small (withL l i on) := by
  intro x hx
  unfold withL at hx
  rcases List.mem_or_eq_of_mem_set hx with h1 | h1
  · exact h x h1
  · rw [h1]
    have h2 := h.get (i / 8)
    have h3 : 2 ^ (i % 8) < 2 ^ 8 := Nat.pow_lt_pow_right (by decide) (Nat.mod_lt _ (by decide))
    cases on
    · exact Nat.lt_of_le_of_lt Nat.and_le_left h2
    · exact Nat.or_lt_two_pow (n := 8) h2 h3

/-- Bits as values. -/
def bbs (f : Nat → Bool) (m : Nat) : List Value := (List.range m).map fun i => Value.bool (f i)
theorem bbs_length (f : Nat → Bool) (m : Nat) : (bbs f m).length = m := by simp [bbs]
theorem bbs_get (f : Nat → Bool) (m i : Nat) (h : i < m) : (bbs f m)[i]? = some (.bool (f i)) := by simp [bbs, h]
theorem bbs_succ (f : Nat → Bool) (m : Nat) : bbs f (m + 1) = bbs f m ++ [.bool (f m)] := by simp [bbs, List.range_succ]
theorem bbs_set (f : Nat → Bool) (m i : Nat) (on : Bool) : (bbs f m).set i (.bool on) = bbs (fun j => if j = i then on else f j) m := by
  apply List.ext_getElem?
  intro j
  rw [List.getElem?_set]
  by_cases h : j < m
  · by_cases hj : i = j
    · subst hj; simp [bbs, h]
    · simp [bbs, h, hj, show ¬ j = i from fun e => hj e.symm]
  · by_cases hj : i = j
    · subst hj; simp [bbs, h]
    · simp [bbs, h, hj]

def BitsMade (f : Nat → Bool) (m : Nat) (w : World) (e : Ending) (w' : World) : Prop := ∃ v, e = .returned v ∧ w'.ownsRow w.heap.size 4 1 v m (bbs f m) ∧ Below w.heap.size w w'

theorem bit_value (l : List Nat) (k j : Nat) (hj : j < 8) : (((l.getD k 0 / 2 ^ j : Nat) : Int) % 2 == 1) = bitB l (8 * k + j) := by
  unfold bitB
  rw [show (8 * k + j) / 8 = k by omega, show (8 * k + j) % 8 = j by omega]
  generalize l.getD k 0 / 2 ^ j = y
  rw [Bool.eq_iff_iff, beq_iff_eq, beq_iff_eq]
  omega
theorem half (y j : Nat) : y / 2 ^ (j + 1) = y / 2 ^ j / 2 := by rw [Nat.pow_succ, Nat.div_div_eq_div_mul]

set_option maxHeartbeats 800000 in
theorem refBits_any (A : Option Addr) (n c B : Nat) (l : List Nat) (w : World) (hl : Small l) (hr : Reads w B A n (bts l)) (hB : B ≤ w.heap.size) (hn : n ≤ 65536) :
    Calls Tryd.prog 32 #[.slice A n c] w (BitsMade (bitB l) (8 * n) w) := by
  obtain ⟨i0, hi, hz0, hz1, hz2⟩ := info_parts info_bool
  go_enter Tryd.func32, Tryd.ntmps32
  go_wp2
  generalize hgs : w.heap.size = g at *
  have Hgs := Lib.hid hgs
  clear hgs
  go_loopw [3, 4] (fun s3 s4 wr => ∃ k : Nat, k ≤ n ∧ s4 = .int .i64 k ∧ wr.ownsRow g 4 1 s3 (8 * k) (bbs (bitB l) (8 * k)) ∧ Below g w wr ∧ g ≤ wr.heap.size) (fun _ i _ => n - (intOf i).toNat)
  case atStart => exact ⟨0, Nat.zero_le _, rfl, by simpa [bbs] using World.ownsRow_nil w g 4 1, Below.refl _ _, by rw [Hgs.out]; exact Nat.le_refl _⟩
  case round =>
    obtain ⟨k, hk, rfl, hown, hbel, hsz⟩ := hrel
    by_cases hlt : k < n
    · have hr2 := (hr.more hB).below hbel
      obtain ⟨ad, rfl, hb, hc⟩ := hr2.byte hlt
      have hy0 := hl.get k
      have hbv := Lib.hid (fun j (hj : j < 8) => bit_value l k j hj)
      clear hr2
      generalize l.getD k 0 = y at *
      obtain ⟨wo, rfl⟩ : ∃ wo : World, wo = wr := ⟨_, rfl⟩
      go_wp2
      go_loopw [3, 5, 6] (fun s3 s5 s6 wr => ∃ j : Nat, j ≤ 8 ∧ s6 = .int .i64 j ∧ s5 = .int .i64 ((y / 2 ^ j : Nat) : Int) ∧ wr.ownsRow g 4 1 s3 (8 * k + j) (bbs (bitB l) (8 * k + j)) ∧ Below g w wr ∧ g ≤ wr.heap.size) (fun _ _ j _ => 8 - (intOf j).toNat)
      case atStart => exact ⟨0, by omega, rfl, by simp, hown, hbel, hsz⟩
      case round =>
        obtain ⟨j, hj, rfl, rfl, hown1, hbel1, hsz1⟩ := hrel
        by_cases hlt2 : j < 8
        · have hb1 := hbv.out j hlt2
          have hyj : y / 2 ^ j < 256 := Nat.lt_of_le_of_lt (Nat.div_le_self _ _) hy0
          have hhalf := Lib.hid (half y j)
          have hsucc := Lib.hid (bbs_succ (bitB l) (8 * k + j))
          generalize y / 2 ^ j = z at *
          generalize bitB l (8 * k + j) = b at *
          go_wp2_with (at_builtin; refine append1 rfl _ _ 50 rfl g 4 i0 (.bool false) 1 Tryd.underlying50 hi hz0 hz1 hz2 rfl _ (8 * k + j) _ rfl (.bool b) rfl rfl (by exact hown1) (by unfold maxLen; omega) (by omega) w hbel1 hsz1 ?_; intro v' w1 hown2 hbel2)
          rw [← hsucc.out] at hown2
          have hsz2 : g ≤ w1.heap.size := by rw [← Hgs.out]; exact hbel2.size
          go_wp2
          go_roundw
          case rel => exact ⟨j + 1, by omega, by go_num, by rw [hhalf.out]; go_num, hown2, hbel2, hsz2⟩
          case measure => simp [intOf]; omega
        · obtain rfl : j = 8 := by omega
          go_wp2
          go_roundw
          case rel => exact ⟨k + 1, by omega, by go_num, hown1, hbel1, hsz1⟩
          case measure => simp [intOf]; omega
    · obtain rfl : k = n := by omega
      go_wp2
      go_ret
      exact ⟨_, rfl, by rw [Hgs.out]; exact hown, by rw [Hgs.out]; exact hbel⟩

def RefBool (b : Bool) (w : World) (e : Ending) (w' : World) : Prop := e = .returned (.bool b) ∧ Below w.heap.size w w'
set_option maxHeartbeats 800000 in
theorem refHas_in (A : Option Addr) (n c B i : Nat) (l : List Nat) (w : World) (hl : Small l) (hr : Reads w B A n (bts l)) (hB : B ≤ w.heap.size) (hn : n ≤ 65536) (h : i < 8 * n) :
    Calls Tryd.prog 26 #[.slice A n c, .int .i64 i] w (RefBool (bitB l i) w) := by
  have d0 : decide (0 ≤ (i : Int)) = true := by simp
  have d1 : decide ((i : Int) < 8 * (n : Int)) = true := by simp; omega
  go_enter Tryd.func26, Tryd.ntmps26
  go_wp2_with fail
  refine (refBits_any A n c B l w hl hr hB hn).mono ?_
  rintro e w1 ⟨v, rfl, hown, hbel⟩
  obtain ⟨g, cap, rfl, hg, hgl⟩ := hown.form (by omega)
  have hc := hown.cellAt i (by omega)
  rw [bbs_get _ _ _ h] at hc
  go_wp2_with fail
  go_ret
  exact ⟨rfl, hbel⟩
theorem refHas_out (A : Option Addr) (n c B : Nat) (i : Int) (l : List Nat) (w : World) (hl : Small l) (hr : Reads w B A n (bts l)) (hB : B ≤ w.heap.size) (hn : n ≤ 65536) (h : i < 0 ∨ 8 * (n : Int) ≤ i) :
    Calls Tryd.prog 26 #[.slice A n c, .int .i64 i] w (RefBool false w) := by
  by_cases h0 : i < 0
  · have d0 : decide (0 ≤ i) = false := by simp; omega
    clear h h0
    go_enter Tryd.func26, Tryd.ntmps26
    go_wp2_with fail
    refine (refBits_any A n c B l w hl hr hB hn).mono ?_
    rintro e w1 ⟨v, rfl, hown, hbel⟩
    obtain ⟨A1, c1, rfl, _, _, _⟩ := own_shape hown
    go_wp2_with fail
    go_ret
    exact ⟨rfl, hbel⟩
  · have d0 : decide (0 ≤ i) = true := by simp; omega
    have d1 : decide (i < 8 * (n : Int)) = false := by simp; omega
    clear h h0
    go_enter Tryd.func26, Tryd.ntmps26
    go_wp2_with fail
    refine (refBits_any A n c B l w hl hr hB hn).mono ?_
    rintro e w1 ⟨v, rfl, hown, hbel⟩
    obtain ⟨A1, c1, rfl, _, _, _⟩ := own_shape hown
    go_wp2_with fail
    go_ret
    exact ⟨rfl, hbel⟩
end Go.Proofs.YtbagmmngepkaeaaDoor
