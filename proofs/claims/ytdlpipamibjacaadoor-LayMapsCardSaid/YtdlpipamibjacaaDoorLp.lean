/-
  The contracts of the calls that tell the parity's member, of the program and of the definition.
  Conditions: each theorem's own.
-/
import Derived.Test.YtdlpipamibjacaaDoorLw
namespace Go.Proofs.YtdlpipamibjacaaDoor.L
open Go.RowKit

theorem parity_ok (n s : Nat) (w : World) (h3 : 3 ≤ n) (h16 : n ≤ 16) (hs : s ≤ 9223372036854775807) :
    Calls Tryd.prog 17 #[.int .i64 n, .int .i64 s] w fun e w' => e = .returned (.tuple #[.int .i64 ((par n s : Nat) : Int), .int .i64 0]) ∧ w = w' := by
  have hp := Lib.hid (par_int n s (by omega))
  have h1 := Int.emod_nonneg (s : Int) (show (n : Int) ≠ 0 by omega)
  have h2 := Int.emod_lt_of_pos (s : Int) (show (0 : Int) < (n : Int) by omega)
  go_enter Tryd.func17, Tryd.ntmps17
  go_wp2
  go_ret2
  exact ⟨by rw [← hp.out]; rfl, rfl⟩
theorem refParity_ok (n s : Nat) (w : World) (h3 : 3 ≤ n) (h16 : n ≤ 16) (hs : s ≤ 9223372036854775807) :
    Calls Tryd.prog 18 #[.int .i64 n, .int .i64 s] w fun e w' => e = .returned (.tuple #[.int .i64 ((par n s : Nat) : Int), .int .i64 0]) ∧ w = w' := by
  have hp := Lib.hid (par_int n s (by omega))
  have h1 := Int.emod_nonneg (s : Int) (show (n : Int) ≠ 0 by omega)
  have h2 := Int.emod_lt_of_pos (s : Int) (show (0 : Int) < (n : Int) by omega)
  go_enter Tryd.func18, Tryd.ntmps18
  go_wp2
  go_ret2
  exact ⟨by rw [← hp.out]; rfl, rfl⟩
/-- What no array has. -/
def Not_ (n s : Int) : Prop := n < 3 ∨ (3 ≤ n ∧ 16 < n) ∨ (3 ≤ n ∧ n ≤ 16 ∧ s < 0)
theorem not_or (n s : Int) : Not_ n s ∨ (3 ≤ n ∧ n ≤ 16 ∧ 0 ≤ s) := by unfold Not_; omega
theorem parity_no (n s : Int) (w : World) (h : Not_ n s) :
    Calls Tryd.prog 17 #[.int .i64 n, .int .i64 s] w fun e w' => e = .returned (.tuple #[.int .i64 0, .int .i64 1]) ∧ w = w' := by
  rcases h with h | ⟨h, h2⟩ | ⟨h, h2, h3⟩
  all_goals
    go_enter Tryd.func17, Tryd.ntmps17
    go_wp2
    go_ret2
    exact ⟨rfl, rfl⟩
theorem refParity_no (n s : Int) (w : World) (h : Not_ n s) :
    Calls Tryd.prog 18 #[.int .i64 n, .int .i64 s] w fun e w' => e = .returned (.tuple #[.int .i64 0, .int .i64 1]) ∧ w = w' := by
  rcases h with h | ⟨h, h2⟩ | ⟨h, h2, h3⟩
  all_goals
    go_enter Tryd.func18, Tryd.ntmps18
    go_wp2
    go_ret2
    exact ⟨rfl, rfl⟩
/-- A call's own list of numbers. -/
def Own (l : List Nat) (w : World) (e : Ending) (w' : World) : Prop :=
  ∃ v, e = .returned (.tuple #[v, .int .i64 0]) ∧ w'.ownsRow w.heap.size 3 1 v l.length (ints l) ∧ Below w.heap.size w w'
def Err_ (w : World) (e : Ending) (w' : World) : Prop := e = .returned (.tuple #[.slice none 0 0, .int .i64 1]) ∧ w = w'
theorem members_no (n s : Int) (w : World) (h : Not_ n s) : Calls Tryd.prog 24 #[.int .i64 n, .int .i64 s] w (Err_ w) := by
  have hp := Lib.hid (parity_no n s · h)
  clear h
  go_enter Tryd.func24, Tryd.ntmps24
  go_wp2_with (go_at_call 17; refine (hp.out _).mono ?_; rintro e w' ⟨rfl, rfl⟩)
  go_ret2
  exact ⟨rfl, rfl⟩
theorem refMembers_no (n s : Int) (w : World) (h : Not_ n s) : Calls Tryd.prog 25 #[.int .i64 n, .int .i64 s] w (Err_ w) := by
  have hp := Lib.hid (refParity_no n s · h)
  clear h
  go_enter Tryd.func25, Tryd.ntmps25
  go_wp2_with (go_at_call 18; refine (hp.out _).mono ?_; rintro e w' ⟨rfl, rfl⟩)
  go_ret2
  exact ⟨rfl, rfl⟩

theorem info_int : (Tryd.prog.info? 3).map (fun i => (i.zero, i.size, i.bytes)) = some (some (.int .i64 0), 1, 8) := by kernel_rfl

set_option maxHeartbeats 400000 in
theorem members_ok (n s : Nat) (w : World) (h3 : 3 ≤ n) (h16 : n ≤ 16) (hs : s ≤ 9223372036854775807) (hT : Tab w) :
    Calls Tryd.prog 24 #[.int .i64 n, .int .i64 s] w (Own (memL n (par n s)) w) := by
  obtain ⟨i0, hi, hz0, hz1, hz2⟩ := info_parts info_int
  have hp := Lib.hid (parity_ok n s · h3 h16 hs)
  have hpn := par_lt n s (by omega)
  have hsz := hT.size
  generalize par n s = p at *
  have HT := Lib.hid hT
  clear hT
  go_enter Tryd.func24, Tryd.ntmps24
  go_wp2_with (first
    | (go_at_call 17; refine (hp.out _).mono ?_; rintro e w' ⟨rfl, rfl⟩)
    | (at_make; refine wpList_make_full _ rfl _ _ 33 rfl w.heap.size 3 i0 (.int .i64 0) 1 Tryd.underlying33 hi hz0 hz1 _ _ _ _ n rfl rfl rfl rfl ?_ ?_ (Nat.le_refl _) ?_))
  · rw [hz2]; omega
  · unfold maxLen; omega
  intro w0 hown0 hgrow0
  have hbelow0 : Below w.heap.size w w0 := (Below.refl _ _).grown hgrow0 (Nat.le_refl _) (fun k h => by cases h)
  clear hgrow0
  go_wp2
  clear hi hz0 hz1 hz2
  rw [toList_madeCells_one, ← memTo_zero n p] at hown0
  generalize hgs : w.heap.size = g at *
  have Hgs := Lib.hid hgs
  clear hgs
  go_loopw [23] (fun i wr => ∃ k : Nat, k ≤ n ∧ i = .int .i64 k ∧ wr.ownsRow g 3 1 (.slice (some ⟨g, 0, none⟩) n n) n (ints (memTo n p k)) ∧ Below g w wr) (fun i _ => n - (intOf i).toNat)
  case atStart => exact ⟨0, Nat.zero_le _, rfl, hown0, hbelow0⟩
  case round =>
    obtain ⟨k, hk, rfl, hown, hbel⟩ := hrel
    by_cases hlt : k < n
    · have hc0 := (HT.out.below hsz hbel) k (by omega)
      have hmod : Hid (((p : Int) + (k : Int)) % (n : Int) = (((p + k) % n : Nat) : Int)) := Lib.hid (by simp)
      by_cases hk0 : k = 0
      · subst hk0
        have hset := memTo_set n p 0 (n - 1) h3 hpn (by omega) rfl
        have hst := (hown.stored (n - 1) (.int .i64 (((p + 0) % n : Nat) : Int))).1
        rw [hset] at hst
        have hbel2 := hbel.setCell (p := ⟨g, n - 1, none⟩) (Nat.le_refl _) (.int .i64 (((p + 0) % n : Nat) : Int))
        have hfz := hown.frozenAt (n - 1)
        have hc := hown.cellAt (n - 1) (by omega)
        rw [ints_get _ _ (by rw [memTo_length]; omega)] at hc
        generalize (memTo n p 0).getD (n - 1) 0 = old at hc
        have Hst := Lib.hid hst
        clear hst hown hown0 hbel hbelow0 hset
        go_wp2
        go_roundw
        case rel => exact ⟨1, by omega, by go_num, Hst.out, hbel2⟩
        case measure => simp [intOf]; omega
      · obtain ⟨j, rfl⟩ : ∃ j, k = j + 1 := ⟨k - 1, by omega⟩
        have hc0b : wr.cell? ⟨0, j + 1, none⟩ = some (.int .i64 (j : Int)) := by rw [hc0]; congr 2; omega
        clear hc0 hk0
        have hset := memTo_set n p (j + 1) j h3 hpn hlt (by rw [if_neg (by omega)]; rfl)
        have hst := (hown.stored j (.int .i64 (((p + (j + 1)) % n : Nat) : Int))).1
        rw [hset] at hst
        have hbel2 := hbel.setCell (p := ⟨g, j, none⟩) (Nat.le_refl _) (.int .i64 (((p + (j + 1)) % n : Nat) : Int))
        have hfz := hown.frozenAt j
        have hc := hown.cellAt j (by omega)
        rw [ints_get _ _ (by rw [memTo_length]; omega)] at hc
        generalize (memTo n p (j + 1)).getD j 0 = old at hc
        have Hst := Lib.hid hst
        clear hst hown hown0 hbel hbelow0 hset
        go_wp2
        go_roundw
        case rel => exact ⟨j + 2, by omega, by go_num, Hst.out, hbel2⟩
        case measure => simp [intOf]; omega
    · obtain rfl : k = n := by omega
      go_wp2
      go_ret2
      refine ⟨_, rfl, ?_, by rw [Hgs.out]; exact hbel⟩
      rw [memL_length, Hgs.out, ← memTo_all]
      exact hown
end Go.Proofs.YtdlpipamibjacaaDoor.L
