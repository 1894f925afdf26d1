/-
  The contracts of the definition's Back, of both Capacities, of what Back refuses; and what the statements ask of every program at one handful of inputs.
  Conditions: each theorem's own.
-/
import Derived.Test.YtdlpipamibjacaaDoorLb
namespace Go.Proofs.YtdlpipamibjacaaDoor.L
open Go.RowKit

set_option maxRecDepth 20000 in
set_option maxHeartbeats 800000 in
theorem refBack_ok (n s m : Nat) (w : World) (h3 : 3 ≤ n) (h16 : n ≤ 16) (hs : s ≤ 1023) (hm : m < n) :
    Calls Tryd.prog 23 #[.int .i64 n, .int .i64 s, .int .i64 m] w fun e w' => e = .returned (backV n s m) ∧ Below w.heap.size w w' := by
  have hp := Lib.hid (refMembers_ok n s · h3 h16 (by omega))
  have hpn := par_lt n s (by omega)
  have hv : Hid (backV n s m = if placeOf n (par n s) m = n - 1 then .tuple #[.int .i64 0, .bool false, .int .i64 0]
    else .tuple #[.int .i64 ((s * (n - 1) + placeOf n (par n s) m : Nat) : Int), .bool true, .int .i64 0]) := Lib.hid rfl
  have hg := Lib.hid (memL_get n (par n s))
  have hl := Lib.hid (memL_length n (par n s))
  have hmp := Lib.hid (mem_place n (par n s) m · hpn hm)
  have hmul : (s : Int) * ((n : Int) - 1) = ((s * (n - 1) : Nat) : Int) := by
    have e : (n : Int) - 1 = ((n - 1 : Nat) : Int) := by omega
    rw [e]; simp
  have hmb : s * (n - 1) ≤ 1023 * 15 := Nat.mul_le_mul hs (by omega)
  have hpl := placeOf_lt n (par n s) m (by omega)
  generalize s * (n - 1) = z at *
  generalize memL n (par n s) = l at *
  generalize placeOf n (par n s) m = t at *
  generalize memAt n (par n s) = f at *
  generalize par n s = p at *
  go_enter Tryd.func23, Tryd.ntmps23
  go_wp2_with (first
    | (go_at_call 44; refine (may_yes n _ (by omega) (by omega)).mono ?_; rintro e w' ⟨rfl, rfl⟩)
    | (go_at_call 25; refine (hp.out _).mono ?_; rintro e w1 ⟨v1, rfl, hown1, hb1⟩))
  rw [hl.out] at hown1
  obtain ⟨A1, c1, rfl, hr1, _, _⟩ := own_shape hown1
  clear hown1
  go_wp2
  go_loop [11] (fun s11 => ∃ k : Nat, k ≤ n - 1 ∧ s11 = .int .i64 k ∧ Hid (k ≤ t)) (fun i => n - (intOf i).toNat)
  case atStart => exact ⟨0, by omega, rfl, Lib.hid (Nat.zero_le _)⟩
  case round =>
    obtain ⟨k, hk, rfl, hkt⟩ := hrel
    by_cases hlt : k < n - 1
    · obtain ⟨ad, rfl, hlb, hc⟩ := hr1.num (k := k) (by omega)
      rw [hg.out k (by omega)] at hc
      have hkn : k < n := by omega
      have hmk := hmp.out k hkn
      have hlt1 : (k : Int) < (n : Int) - 1 := by omega
      by_cases hf : f k = m
      · have htk := Lib.hid (hmk.1 hf)
        rw [hf] at hc
        clear hmk hf
        go_wp2
        go_ret3
        refine ⟨?_, hb1⟩
        rw [hv.out, if_neg (by have := htk.out; omega), ← htk.out]
        go_num
      · have htk : Hid (k ≠ t) := Lib.hid (fun e => hf (hmk.2 e))
        have hne : ((f k : Nat) : Int) ≠ (m : Int) := by omega
        have hq : ((f k : Int) == (m : Int)) = false := by rw [beq_eq_false_iff_ne]; exact hne
        clear hmk hf hne
        generalize f k = y at *
        go_wp2
        go_round
        case rel => exact ⟨k + 1, by omega, by go_num, Lib.hid (by have := hkt.out; have := htk.out; omega)⟩
        case measure => simp [intOf]; omega
    · obtain rfl : k = n - 1 := by omega
      have hge : ¬ (((n - 1 : Nat) : Int) < (n : Int) - 1) := by omega
      go_wp2
      go_ret3
      refine ⟨?_, hb1⟩
      rw [hv.out, if_pos (by have := hkt.out; omega)]
      rfl

theorem back_no (n s m : Int) (w : World) (h : NoBack n s m) :
    Calls Tryd.prog 22 #[.int .i64 n, .int .i64 s, .int .i64 m] w fun e w' => e = .returned (.tuple #[.int .i64 0, .bool false, .int .i64 1]) ∧ w = w' := by
  by_cases h1 : s ≥ 1024
  · go_enter Tryd.func22, Tryd.ntmps22
    go_wp2
    go_ret3
    exact ⟨rfl, rfl⟩
  · by_cases h2 : m < 0
    · go_enter Tryd.func22, Tryd.ntmps22
      go_wp2
      go_ret3
      exact ⟨rfl, rfl⟩
    · by_cases h3 : m ≥ n
      · go_enter Tryd.func22, Tryd.ntmps22
        go_wp2
        go_ret3
        exact ⟨rfl, rfl⟩
      · have hn : Not_ n s := by unfold NoBack at h; unfold Not_; omega
        have hp := Lib.hid (parity_no n s · hn)
        clear h hn
        go_enter Tryd.func22, Tryd.ntmps22
        go_wp2_with (go_at_call 17; refine (hp.out _).mono ?_; rintro e w' ⟨rfl, rfl⟩)
        go_ret3
        exact ⟨rfl, rfl⟩
theorem refBack_no (n s m : Int) (w : World) (h : NoBack n s m) :
    Calls Tryd.prog 23 #[.int .i64 n, .int .i64 s, .int .i64 m] w fun e w' => e = .returned (.tuple #[.int .i64 0, .bool false, .int .i64 1]) ∧ w = w' := by
  rcases h with h | ⟨h, h2⟩ | ⟨h, h2, h3 | ⟨h3, h4⟩ | ⟨h3, h4, h5 | ⟨h5, h6⟩⟩⟩
  all_goals
    go_enter Tryd.func23, Tryd.ntmps23
    go_wp2
    go_ret3
    exact ⟨rfl, rfl⟩

/-- What no volume has. -/
def NoCap (n s : Int) : Prop := n < 3 ∨ (3 ≤ n ∧ 16 < n) ∨ (3 ≤ n ∧ n ≤ 16 ∧ (s < 1 ∨ (1 ≤ s ∧ 1024 < s)))
theorem cap_or (n s : Int) : NoCap n s ∨ (3 ≤ n ∧ n ≤ 16 ∧ 1 ≤ s ∧ s ≤ 1024) := by unfold NoCap; omega
theorem cap_no (n s : Int) (w : World) (h : NoCap n s) :
    Calls Tryd.prog 15 #[.int .i64 n, .int .i64 s] w fun e w' => e = .returned (.tuple #[.int .i64 0, .int .i64 1]) ∧ w = w' := by
  rcases h with h | ⟨h, h2⟩ | ⟨h, h2, h3 | ⟨h3, h4⟩⟩
  case inr.inr.inr =>
    have hd : decide (s ≤ 1024) = false := by simp; omega
    go_enter Tryd.func15, Tryd.ntmps15
    go_wp2
    go_ret2
    exact ⟨rfl, rfl⟩
  all_goals
    go_enter Tryd.func15, Tryd.ntmps15
    go_wp2
    go_ret2
    exact ⟨rfl, rfl⟩
theorem refCap_no (n s : Int) (w : World) (h : NoCap n s) :
    Calls Tryd.prog 16 #[.int .i64 n, .int .i64 s] w fun e w' => e = .returned (.tuple #[.int .i64 0, .int .i64 1]) ∧ w = w' := by
  rcases h with h | ⟨h, h2⟩ | ⟨h, h2, h3 | ⟨h3, h4⟩⟩
  case inr.inr.inr =>
    have hd : decide (s ≤ 1024) = false := by simp; omega
    go_enter Tryd.func16, Tryd.ntmps16
    go_wp2
    go_ret2
    exact ⟨rfl, rfl⟩
  all_goals
    go_enter Tryd.func16, Tryd.ntmps16
    go_wp2
    go_ret2
    exact ⟨rfl, rfl⟩
theorem cap_ok (n s : Nat) (w : World) (h3 : 3 ≤ n) (h16 : n ≤ 16) (h1 : 1 ≤ s) (h2 : s ≤ 1024) :
    Calls Tryd.prog 15 #[.int .i64 n, .int .i64 s] w fun e w' => e = .returned (.tuple #[.int .i64 ((s * (n - 1) : Nat) : Int), .int .i64 0]) ∧ w = w' := by
  have hmul : (s : Int) * ((n : Int) - 1) = ((s * (n - 1) : Nat) : Int) := by
    have e : (n : Int) - 1 = ((n - 1 : Nat) : Int) := by omega
    rw [e]; simp
  have hmb : s * (n - 1) ≤ 1024 * 15 := Nat.mul_le_mul h2 (by omega)
  generalize s * (n - 1) = z at *
  have hd : decide ((s : Int) ≤ 1024) = true := by simp; omega
  go_enter Tryd.func15, Tryd.ntmps15
  go_wp2
  go_ret2
  exact ⟨rfl, rfl⟩
theorem refCap_ok (n s : Nat) (w : World) (h3 : 3 ≤ n) (h16 : n ≤ 16) (h1 : 1 ≤ s) (h2 : s ≤ 1024) :
    Calls Tryd.prog 16 #[.int .i64 n, .int .i64 s] w fun e w' => e = .returned (.tuple #[.int .i64 ((s * (n - 1) : Nat) : Int), .int .i64 0]) ∧ w = w' := by
  have hmul : (s : Int) * (n : Int) = ((s * (n - 1) : Nat) : Int) + (s : Int) := by
    have e : n = (n - 1) + 1 := by omega
    conv => lhs; rw [e]
    rw [← Int.natCast_mul, Nat.mul_add, Nat.mul_one]; simp
  have hmb : s * (n - 1) ≤ 1024 * 15 := Nat.mul_le_mul h2 (by omega)
  generalize s * (n - 1) = z at *
  go_enter Tryd.func16, Tryd.ntmps16
  go_wp2
  go_ret2
  exact ⟨by go_num, rfl⟩

theorem reads_lit (w : World) (l : List Nat) : Reads (w.alloc (.cells (ints l).toArray 3)) (w.heap.size + 1) (some ⟨w.heap.size, 0, none⟩) l.length (ints l) := by
  refine ⟨ints_length l, fun _ => ⟨_, rfl, by simp, fun j u hu => ?_⟩⟩
  have e : (⟨w.heap.size, 0, none⟩ : Addr).add j = ⟨w.heap.size, j, none⟩ := by unfold Addr.add; split <;> simp_all
  rw [e, World.cell?_alloc_at _ _ _ _ rfl]
  simpa using hu
theorem Below.drawn {B : Nat} {w w' : World} (h : Below B w w') (k : Nat) : Below B w (w'.drewN k) := below_drewN h k
set_option maxRecDepth 20000 in
set_option maxHeartbeats 1000000 in
theorem lives_yes (w : World) (hT : Tab w) :
    Calls Tryd.prog 21 #[] w fun e w' => e = .returned (.bool true) ∧ Below w.heap.size w w' := by
  have q1 := Lib.hid (parity_ok 4 4 · (by decide) (by decide) (by decide))
  have q2 := Lib.hid (map_ok 4 4 · (by decide) (by decide) (by decide))
  have q3 := Lib.hid (members_ok 4 1 · (by decide) (by decide) (by decide))
  have e1 : Hid (par 4 4 = 3) := Lib.hid (by decide)
  have e2 : Hid (spot 4 4 = .agg #[.int .i64 1, .int .i64 0, .int .i64 1]) := Lib.hid rfl
  have e3 : Hid (memL 4 (par 4 1) = [3, 0, 1, 2]) := Lib.hid (by decide)
  rw [e1.out] at q1
  rw [e2.out] at q2
  rw [e3.out] at q3
  clear e1 e2 e3
  have HT := Lib.hid hT
  clear hT
  go_enter Tryd.func21, Tryd.ntmps21
  go_wp2_with (first
    | (go_at_call 17; refine (q1.out _).mono ?_; rintro e w' ⟨rfl, rfl⟩)
    | (go_at_call 19; refine (q2.out _).mono ?_; rintro e w1 ⟨rfl, hb1⟩))
  have hb2 := hb1.alloc hb1.size (.cells #[.int .i64 1, .int .i64 0, .int .i64 1] 26)
  have hblk := heap_alloc_last w1 (.cells #[.int .i64 1, .int .i64 0, .int .i64 1] 26)
  have hg2 : w1.heap.size < (w1.alloc (.cells #[.int .i64 1, .int .i64 0, .int .i64 1] 26)).heap.size := by simp
  have hsz1 := hb1.size
  generalize w1.alloc (.cells #[.int .i64 1, .int .i64 0, .int .i64 1] 26) = w2 at *
  generalize w1.heap.size = g at *
  clear hb1
  refine (q3.out w2 (HT.out.over hb2)).mono ?_
  rintro e w3 ⟨v3, rfl, hown3, hb3⟩
  obtain ⟨A3, c3, rfl, hr3, _, _⟩ := own_shape hown3
  have hblk3 := (hb3.block g hg2).trans hblk
  have k0 : w3.cell? ⟨g, 0, none⟩ = some (.int .i64 1) := cell_of_row _ _ 0 _ _ _ hblk3
  have k1 : w3.cell? ⟨g, 1, none⟩ = some (.int .i64 0) := cell_of_row _ _ 1 _ _ _ hblk3
  have k2 : w3.cell? ⟨g, 2, none⟩ = some (.int .i64 1) := cell_of_row _ _ 2 _ _ _ hblk3
  have hb4 := below_on hb2 hb3
  clear hown3 hblk hblk3 hb2 hb3
  go_wp2_with (first
    | (go_at_call 26; refine (same_ints A3 (some ⟨w3.heap.size, 0, none⟩) 4 c3 4 (w3.heap.size + 1) [3, 0, 1, 2] _ ((hr3.alloc (Nat.le_refl _) _).more (by simp)) (reads_lit w3 [3, 0, 1, 2]) (by decide)).mono ?_; rintro e w5 ⟨rfl, hb5⟩)
    | go_in)
  go_ret
  exact ⟨rfl, below_on (hb4.alloc hb4.size _) hb5⟩
end Go.Proofs.YtdlpipamibjacaaDoor.L
