/-
  The contract of the definition's Members, and of the two lists being held against each other.
  Conditions: each theorem's own.
-/
import Derived.Test.YtdlpipamibjacaaDoorLp
import Derived.Test.YtdlpipamibjacaaDoorAp
namespace Go.Proofs.YtdlpipamibjacaaDoor.L
open Go.RowKit

theorem memL_take_succ (n p k : Nat) (h : k < n) : ints ((memL n p).take (k + 1)) = ints ((memL n p).take k) ++ [.int .i64 ((memAt n p k : Nat) : Int)] := by
  have hl : k < (memL n p).length := by rw [memL_length]; exact h
  rw [List.take_succ_eq_append_getElem hl, ints_append]
  congr 1
  simp [ints, memL]
set_option maxHeartbeats 400000 in
theorem refMembers_ok (n s : Nat) (w : World) (h3 : 3 ≤ n) (h16 : n ≤ 16) (hs : s ≤ 9223372036854775807) :
    Calls Tryd.prog 25 #[.int .i64 n, .int .i64 s] w (Own (memL n (par n s)) w) := by
  obtain ⟨i0, hi, hz0, hz1, hz2⟩ := info_parts info_int
  have hp := Lib.hid (refParity_ok n s · h3 h16 hs)
  have hpn := par_lt n s (by omega)
  generalize par n s = p at *
  go_enter Tryd.func25, Tryd.ntmps25
  go_wp2_with (go_at_call 18; refine (hp.out _).mono ?_; rintro e w' ⟨rfl, rfl⟩)
  generalize hgs : w.heap.size = g at *
  have Hgs := Lib.hid hgs
  clear hgs
  go_loopw [8, 9, 10] (fun s8 s9 s10 wr => ∃ k a : Nat, k ≤ n ∧ a < n ∧ Hid (a = if p + k < n then p + k else p + k - n) ∧ s10 = .int .i64 k ∧ s9 = .int .i64 a ∧ wr.ownsRow g 3 1 s8 k (ints ((memL n p).take k)) ∧ Below g w wr) (fun _ _ i _ => n - (intOf i).toNat)
  case atStart => exact ⟨0, p, Nat.zero_le _, hpn, Lib.hid (by rw [if_pos (by omega)]; rfl), rfl, rfl, by simpa [ints] using World.ownsRow_nil w g 3 1, Below.refl _ _⟩
  case round =>
    obtain ⟨k, a, hk, ha, Ha, rfl, rfl, hown, hbel⟩ := hrel
    have hsz : g ≤ wr.heap.size := by rw [← Hgs.out]; exact hbel.size
    by_cases hlt : k < n
    · have hts := memL_take_succ n p k hlt
      by_cases hend : a + 1 = n
      · have hm : memAt n p k = 0 := by
          have := Ha.out
          rw [memAt_turn n p k hpn hlt]
          split at this <;> split <;> omega
        rw [hm] at hts
        have Hts := Lib.hid hts
        clear hts hm
        have hq : ((a : Int) + 1 == (n : Int)) = true := by rw [beq_iff_eq]; omega
        go_wp2_with (at_builtin; refine Ap.append1 rfl _ _ 33 rfl g 3 i0 (.int .i64 0) 8 Tryd.underlying33 hi hz0 hz1 hz2 rfl _ k _ rfl (.int .i64 0) rfl rfl (by exact hown) (by unfold maxLen; omega) (by omega) w hbel (by omega) ?_; intro v' w1 hown1 hbel1)
        rw [show ints ((memL n p).take k) ++ [.int .i64 0] = ints ((memL n p).take (k + 1)) from Hts.out.symm] at hown1
        go_wp2
        go_roundw
        case rel => exact ⟨k + 1, 0, by omega, by omega, Lib.hid (by have := Ha.out; split at this <;> split <;> omega), by go_num, rfl, hown1, hbel1⟩
        case measure => simp [intOf]; omega
      · have hm : memAt n p k = a + 1 := by
          have := Ha.out
          rw [memAt_turn n p k hpn hlt]
          split at this <;> split <;> omega
        rw [hm] at hts
        have Hts := Lib.hid hts
        clear hts hm
        have hq : ((a : Int) + 1 == (n : Int)) = false := by rw [beq_eq_false_iff_ne]; omega
        go_wp2_with (at_builtin; refine Ap.append1 rfl _ _ 33 rfl g 3 i0 (.int .i64 0) 8 Tryd.underlying33 hi hz0 hz1 hz2 rfl _ k _ rfl (.int .i64 ((a : Int) + 1)) rfl rfl (by exact hown) (by unfold maxLen; omega) (by omega) w hbel (by omega) ?_; intro v' w1 hown1 hbel1)
        rw [show ints ((memL n p).take k) ++ [.int .i64 ((a : Int) + 1)] = ints ((memL n p).take (k + 1)) from Hts.out.symm] at hown1
        go_wp2
        go_roundw
        case rel => exact ⟨k + 1, a + 1, by omega, by omega, Lib.hid (by have := Ha.out; split at this <;> split <;> omega), by go_num, by go_num, hown1, hbel1⟩
        case measure => simp [intOf]; omega
    · obtain rfl : k = n := by omega
      go_wp2
      go_ret2
      refine ⟨_, rfl, ?_, by rw [Hgs.out]; exact hbel⟩
      rw [memL_length, Hgs.out]
      rw [List.take_of_length_le (by rw [memL_length]; omega)] at hown
      exact hown

theorem same_ints (A B : Option Addr) (n c d L : Nat) (l : List Nat) (w : World) (hr : Reads w L A n (ints l)) (hr2 : Reads w L B n (ints l)) (hn : n ≤ 140737488351232) :
    Calls Tryd.prog 26 #[.slice A n c, .slice B n d] w fun e w' => e = .returned (.bool true) ∧ Below w.heap.size w w' := by
  go_enter Tryd.func26, Tryd.ntmps26
  go_wp2
  go_loopw [5] (fun s5 wr => ∃ k : Nat, k ≤ n ∧ s5 = .int .i64 k ∧ Below w.heap.size w wr ∧ Reads wr L A n (ints l) ∧ Reads wr L B n (ints l)) (fun i _ => n - (intOf i).toNat)
  case atStart => exact ⟨0, Nat.zero_le _, rfl, Below.refl _ _, hr, hr2⟩
  case round =>
    obtain ⟨k, hk, rfl, hbel, hra, hrb⟩ := hrel
    by_cases hlt : k < n
    · obtain ⟨ad, rfl, hb, hc⟩ := hra.num hlt
      obtain ⟨ad2, rfl, hb2, hc2⟩ := hrb.num hlt
      generalize l.getD k 0 = x at *
      go_wp2
      go_quiet (fail)
      go_wp2
      go_roundw
      case rel => exact ⟨k + 1, by omega, by go_num, hbel.trans ⟨rfl, rfl, rfl, Nat.le_refl _, fun _ _ => rfl⟩, hra, hrb⟩
      case measure => simp [intOf]; omega
    · obtain rfl : k = n := by omega
      go_wp2
      go_ret
      exact ⟨rfl, hbel⟩
end Go.Proofs.YtdlpipamibjacaaDoor.L
