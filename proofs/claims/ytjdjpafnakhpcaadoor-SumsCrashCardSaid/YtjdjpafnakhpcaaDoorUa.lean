/-
  How many blocks there are and where each lies: the contracts of the program's and the definition's Blocks and Place.
  Conditions: each theorem's own.
-/
import Derived.Test.YtjdjpafnakhpcaaDoorIl
import Derived.Test.YtjdjpafnakhpcaaDoorRefPut
namespace Go.Proofs.YtjdjpafnakhpcaaDoor.U
open Go.RowKit Go.Maps

/-- How many blocks there are in so many sectors. -/
def blk (n : Nat) : Nat := n / 17 * 16 + (n % 17 - 1)
theorem blk_succ (n : Nat) : blk (n + 1) = blk n + if n % 17 = 0 then 0 else 1 := by
  unfold blk
  split <;> omega
theorem blk_le (n : Nat) : blk n ≤ n := by unfold blk; omega
/-- Where the sums and the bytes of a block lie. -/
def sumOf (k : Nat) : Nat := k / 16 * 17
def dataOf (k : Nat) : Nat := k / 16 * 17 + 1 + k % 16
theorem blocks_pos (n : Nat) (hn : n ≤ 9223372036854775807) (w : World) :
    Calls Tryd.prog 21 #[.int .i64 n] w fun e w' => e = .returned (.int .i64 ((blk n : Nat) : Int)) ∧ w = w' := by
  have h1 : ((n : Int) % 17) = ((n % 17 : Nat) : Int) := by omega
  have h2 : ((n : Int) / 17) = ((n / 17 : Nat) : Int) := by omega
  have hb : (n / 17) ≤ 542551296285575048 := by omega
  have hm : max ((n : Int)) 0 = n := by omega
  have hx := Lib.hid (show ((n / 17 : Nat) : Int) * 16 + max (((n % 17 : Nat) : Int) - 1) 0 = ((blk n : Nat) : Int) by unfold blk; omega)
  have hr : n % 17 < 17 := Nat.mod_lt _ (by decide)
  generalize n % 17 = r at *
  generalize n / 17 = q at *
  go_enter Tryd.func21, Tryd.ntmps21
  go_wp2
  go_ret
  exact ⟨by rw [← hx.out]; rfl, rfl⟩
theorem blocks_neg (n : Int) (hn : n < 0) (w : World) :
    Calls Tryd.prog 21 #[.int .i64 n] w fun e w' => e = .returned (.int .i64 0) ∧ w = w' := by
  have hm : max n 0 = 0 := by omega
  go_enter Tryd.func21, Tryd.ntmps21
  go_wp2
  go_ret
  exact ⟨rfl, rfl⟩
theorem place_yes (k : Nat) (hk : k < 4096) (w : World) :
    Calls Tryd.prog 18 #[.int .i64 k] w fun e w' => e = .returned (.tuple #[.int .i64 ((sumOf k : Nat) : Int), .int .i64 ((dataOf k : Nat) : Int), .int .i64 0]) ∧ w = w' := by
  have h1 : ((k : Int) % 16) = ((k % 16 : Nat) : Int) := by omega
  have h2 : ((k : Int) / 16) = ((k / 16 : Nat) : Int) := by omega
  have hb : k / 16 < 256 := by omega
  have hr : k % 16 < 16 := Nat.mod_lt _ (by decide)
  have hx := Lib.hid (show ((k / 16 : Nat) : Int) * 17 = ((sumOf k : Nat) : Int) by unfold sumOf; omega)
  have hy := Lib.hid (show ((k / 16 : Nat) : Int) * 17 + 1 + ((k % 16 : Nat) : Int) = ((dataOf k : Nat) : Int) by unfold dataOf; omega)
  generalize k % 16 = r at *
  generalize k / 16 = q at *
  go_enter Tryd.func18, Tryd.ntmps18
  go_wp2
  go_ret3
  exact ⟨by rw [← hx.out, ← hy.out]; rfl, rfl⟩
theorem place_no (k : Int) (hk : k < 0 ∨ (0 ≤ k ∧ 4096 ≤ k)) (w : World) :
    Calls Tryd.prog 18 #[.int .i64 k] w fun e w' => e = .returned (.tuple #[.int .i64 0, .int .i64 0, .int .i64 1]) ∧ w = w' := by
  rcases hk with hk | ⟨hk, hk2⟩
  all_goals
    go_enter Tryd.func18, Tryd.ntmps18
    go_wp2
    go_ret3
    exact ⟨rfl, rfl⟩
theorem refPlace_yes (k : Nat) (hk : k < 4096) (w : World) :
    Calls Tryd.prog 19 #[.int .i64 k] w fun e w' => e = .returned (.tuple #[.int .i64 ((sumOf k : Nat) : Int), .int .i64 ((dataOf k : Nat) : Int), .int .i64 0]) ∧ w = w' := by
  have h1 : ((k : Int) % 16) = ((k % 16 : Nat) : Int) := by omega
  have h2 : ((k : Int) / 16) = ((k / 16 : Nat) : Int) := by omega
  have hb : k / 16 < 256 := by omega
  have hr : k % 16 < 16 := Nat.mod_lt _ (by decide)
  have hx := Lib.hid (show 17 * ((k / 16 : Nat) : Int) = ((sumOf k : Nat) : Int) by unfold sumOf; omega)
  have hy := Lib.hid (show 17 * ((k / 16 : Nat) : Int) + 1 + ((k % 16 : Nat) : Int) = ((dataOf k : Nat) : Int) by unfold dataOf; omega)
  generalize k % 16 = r at *
  generalize k / 16 = q at *
  go_enter Tryd.func19, Tryd.ntmps19
  go_wp2
  go_ret3
  exact ⟨by rw [← hx.out, ← hy.out]; rfl, rfl⟩
theorem refPlace_no (k : Int) (hk : k < 0 ∨ (0 ≤ k ∧ 4095 < k)) (w : World) :
    Calls Tryd.prog 19 #[.int .i64 k] w fun e w' => e = .returned (.tuple #[.int .i64 0, .int .i64 0, .int .i64 1]) ∧ w = w' := by
  rcases hk with hk | ⟨hk, hk2⟩
  all_goals
    go_enter Tryd.func19, Tryd.ntmps19
    go_wp2
    go_ret3
    exact ⟨rfl, rfl⟩
theorem pairAt_any (k : Nat) (hk : k ≤ 9223372036854775807) (w : World) :
    Calls Tryd.prog 101 #[.int .i64 k] w fun e w' => e = .returned (.int .i64 ((k % 16 * 8 : Nat) : Int)) ∧ w = w' := by
  have h1 : ((k : Int) % 16) = ((k % 16 : Nat) : Int) := by omega
  have hr : k % 16 < 16 := Nat.mod_lt _ (by decide)
  have hx := Lib.hid (show ((k % 16 : Nat) : Int) * 2 * 4 = ((k % 16 * 8 : Nat) : Int) by omega)
  generalize k % 16 = r at *
  go_enter Tryd.func101, Tryd.ntmps101
  go_wp2
  go_ret
  exact ⟨by rw [← hx.out]; rfl, rfl⟩
/-- The definition's Blocks, counted one by one. -/
theorem refBlocks_pos (n : Nat) (hn : n ≤ 9223372036854775806) (w : World) :
    Calls Tryd.prog 22 #[.int .i64 n] w fun e w' => e = .returned (.int .i64 ((blk n : Nat) : Int)) ∧ w = w' := by
  go_enter Tryd.func22, Tryd.ntmps22
  go_wp2_with fail
  go_loopw [3, 4] (fun s3 s4 wr => ∃ k : Nat, k ≤ n ∧ s3 = .int .i64 ((blk k : Nat) : Int) ∧ s4 = .int .i64 k ∧ w = wr) (fun _ i _ => n - (intOf i).toNat)
  case atStart => exact ⟨0, Nat.zero_le _, rfl, rfl, rfl⟩
  case round =>
    obtain ⟨k, hk, rfl, rfl, rfl⟩ := hrel
    have h1 : ((k : Int) % 17) = ((k % 17 : Nat) : Int) := by omega
    have hsucc := blk_succ k
    have hle := blk_le k
    by_cases hlt : k < n
    · by_cases h0 : k % 17 = 0
      · rw [if_pos h0] at hsucc
        have h2 : ((k : Int) % 17) = 0 := by omega
        clear h1
        generalize hbk : blk k = bk at *
        go_wp2_with fail
        go_roundw
        case rel => exact ⟨k + 1, by omega, by rw [hsucc]; rfl, by go_num, trivial⟩
        case measure => simp [intOf]; omega
      · rw [if_neg h0] at hsucc
        have h2 : (((k % 17 : Nat) : Int) == 0) = false := by rw [beq_eq_false_iff_ne]; omega
        generalize hbk : blk k = bk at *
        generalize k % 17 = r at *
        go_wp2_with fail
        go_roundw
        case rel => exact ⟨k + 1, by omega, by rw [hsucc]; go_num, by go_num, trivial⟩
        case measure => simp [intOf]; omega
    · have hkn : k = n := by omega
      subst hkn
      generalize hbk : blk k = bk at *
      go_wp2_with fail
      go_ret
      exact ⟨by rw [hbk]; rfl, rfl⟩
theorem refBlocks_neg (n : Int) (hn : n ≤ 0) (w : World) :
    Calls Tryd.prog 22 #[.int .i64 n] w fun e w' => e = .returned (.int .i64 0) ∧ w = w' := by
  go_enter Tryd.func22, Tryd.ntmps22
  go_wp2_with fail
  go_loopw [3, 4] (fun s3 s4 wr => s3 = .int .i64 0 ∧ s4 = .int .i64 0 ∧ w = wr) (fun _ _ _ => 0)
  case atStart => exact ⟨rfl, rfl, rfl⟩
  case round =>
    obtain ⟨rfl, rfl, rfl⟩ := hrel
    have h0 : decide ((0 : Int) < n) = false := by simp; omega
    go_wp2_with fail
    go_ret
    exact ⟨rfl, rfl⟩
end Go.Proofs.YtjdjpafnakhpcaaDoor.U
