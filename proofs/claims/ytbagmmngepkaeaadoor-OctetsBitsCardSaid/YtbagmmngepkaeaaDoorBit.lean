/-
  The contracts of the calls on bits (there, Has, Clone, With), of the program.
  Conditions: each theorem's own.
-/
import Derived.Test.YtbagmmngepkaeaaDoorXor
namespace Go.Proofs.YtbagmmngepkaeaaDoor
open Go.RowKit

theorem there_yes (A : Option Addr) (n c i : Nat) (w : World) (hn : n ≤ maxLen) (h : i / 8 < n) :
    Calls Tryd.prog 30 #[.slice A n c, .int .i64 i] w fun e w' => e = .returned (.bool true) ∧ w = w' := by
  unfold maxLen at hn
  have hd : decide ((i : Int) / 8 < (n : Int)) = true := by simp; omega
  have hd0 : decide (0 ≤ (i : Int)) = true := by simp
  go_enter Tryd.func30, Tryd.ntmps30
  go_wp2
  go_ret
  exact ⟨rfl, rfl⟩
theorem there_no (A : Option Addr) (n c : Nat) (i : Int) (w : World) (h : i < 0 ∨ (0 ≤ i ∧ i ≤ 9223372036854775807 ∧ (n : Int) ≤ i / 8)) :
    Calls Tryd.prog 30 #[.slice A n c, .int .i64 i] w fun e w' => e = .returned (.bool false) ∧ w = w' := by
  rcases h with h | ⟨h0, hm, h1⟩
  · have hd0 : decide (0 ≤ i) = false := by simp; omega
    go_enter Tryd.func30, Tryd.ntmps30
    go_wp2
    go_ret
    exact ⟨rfl, rfl⟩
  · have hd : decide (i / 8 < (n : Int)) = false := by simp; omega
    have hd0 : decide (0 ≤ i) = true := by simp; omega
    go_enter Tryd.func30, Tryd.ntmps30
    go_wp2
    go_ret
    exact ⟨rfl, rfl⟩

/-- The bit i of bytes. -/
def bitB (l : List Nat) (i : Nat) : Bool := l.getD (i / 8) 0 / 2 ^ (i % 8) % 2 == 1

set_option maxHeartbeats 400000 in
theorem has_in (A : Option Addr) (n c B i : Nat) (l : List Nat) (w : World) (hl : Small l) (hr : Reads w B A n (bts l)) (hn : n ≤ maxLen) (h : i / 8 < n) (hi : i ≤ 9223372036854775807) :
    Calls Tryd.prog 25 #[.slice A n c, .int .i64 i] w fun e w' => e = .returned (.bool (bitB l i)) ∧ w = w' := by
  have hn2 := hn
  unfold maxLen at hn
  obtain ⟨ad, rfl, hb, hc⟩ := hr.byte h
  have hx := hl.get (i / 8)
  have hbit := Lib.hid (show bitB l i = (l.getD (i / 8) 0 / 2 ^ (i % 8) % 2 == 1) from rfl)
  generalize l.getD (i / 8) 0 = x at *
  have e1 : (bits .and .u8 ((x : Int) / 2 ^ (i % 8)) 1 == 1) = bitB l i := by
    rw [hbit.out]
    have e : ((x : Int) / 2 ^ (i % 8)) = ((x / 2 ^ (i % 8) : Nat) : Int) := by simp
    have hlt : x / 2 ^ (i % 8) < 256 := Nat.lt_of_le_of_lt (Nat.div_le_self _ _) hx
    rw [e]
    generalize x / 2 ^ (i % 8) = y at *
    have h2 := u8_and_nat y 1 hlt (by decide)
    rw [show ((1 : Nat) : Int) = 1 from rfl, Nat.and_one_is_mod] at h2
    rw [h2, Bool.eq_iff_iff, beq_iff_eq, beq_iff_eq]
    omega
  go_enter Tryd.func25, Tryd.ntmps25
  go_wp2_with (go_at_call 30; refine (there_yes _ _ _ i _ hn2 h).mono ?_; rintro e w' ⟨rfl, rfl⟩)
  go_ret
  exact ⟨rfl, rfl⟩
theorem has_int (A : Option Addr) (n c B : Nat) (i : Int) (l : List Nat) (w : World) (hl : Small l) (hr : Reads w B A n (bts l)) (hn : n ≤ 140737488351232) (h0 : 0 ≤ i) (h : i < 8 * (n : Int)) :
    Calls Tryd.prog 25 #[.slice A n c, .int .i64 i] w fun e w' => e = .returned (.bool (bitB l i.toNat)) ∧ w = w' := by
  obtain ⟨j, rfl⟩ := Int.eq_ofNat_of_zero_le h0
  exact has_in A n c B j l w hl hr (by unfold maxLen; omega) (by omega) (by omega)
theorem has_out (A : Option Addr) (n c : Nat) (i : Int) (w : World) (h : i < 0 ∨ (0 ≤ i ∧ i ≤ 9223372036854775807 ∧ (n : Int) ≤ i / 8)) :
    Calls Tryd.prog 25 #[.slice A n c, .int .i64 i] w fun e w' => e = .returned (.bool false) ∧ w = w' := by
  go_enter Tryd.func25, Tryd.ntmps25
  go_wp2_with (go_at_call 30; refine (there_no _ _ _ i _ h).mono ?_; rintro e w' ⟨rfl, rfl⟩)
  go_ret
  exact ⟨rfl, rfl⟩

def Cloned (l : List Nat) (w : World) (e : Ending) (w' : World) : Prop :=
  ∃ v, e = .returned v ∧ w'.ownsRow w.heap.size 5 1 v l.length (bts l) ∧ Below w.heap.size w w'

set_option maxHeartbeats 400000 in
theorem clone_any (ad : Addr) (n c L : Nat) (l : List Nat) (w : World) (hr : Reads w L (some ad) n (bts l)) (hL : L ≤ w.heap.size) (hn : n ≤ 140737488351232) :
    Calls Tryd.prog 31 #[.slice (some ad) n c] w (Cloned l w) := by
  obtain ⟨i0, hi, hz0, hz1, hz2⟩ := info_parts info_u8
  have hll := Lib.hid hr.len
  have knil := fun W => Lib.run_eql_slice_nil (P := Tryd.prog) W 23 5 (some ad) n c 0 0 Tryd.underlying23
  go_enter Tryd.func31, Tryd.ntmps31
  go_wp2_with (at_builtin; refine appendAll _ rfl _ _ 23 rfl w.heap.size 5 i0 (.int .u8 0) 1 Tryd.underlying23 hi hz0 hz1 hz2 rfl (.slice (some ⟨w.heap.size, 0, none⟩) 0 0) 0 [] rfl (by exact World.ownsRow_made w #[] 0 (Nat.le_refl _) (by decide) rfl) L (some ad) n c (bts l) rfl (hr.alloc hL _) (bts_one l) (by unfold maxLen; omega) (by omega) w (by exact (Below.refl _ _).alloc (Nat.le_refl _) _) (by simp) ?_; intro v1 w1 hown1 _ hbel1)
  go_ret
  exact ⟨v1, rfl, by simpa [hll.out] using hown1, hbel1⟩

def withL (l : List Nat) (i : Nat) (on : Bool) : List Nat := l.set (i / 8) (if on then l.getD (i / 8) 0 ||| 2 ^ (i % 8) else l.getD (i / 8) 0 &&& (255 - 2 ^ (i % 8)))
theorem withL_length (l : List Nat) (i : Nat) (on : Bool) : (withL l i on).length = l.length := by simp [withL]

theorem with_no (A : Option Addr) (n c : Nat) (i : Int) (on : Bool) (w : World) (h : i < 0 ∨ (0 ≤ i ∧ i ≤ 9223372036854775807 ∧ (n : Int) ≤ i / 8)) :
    Calls Tryd.prog 21 #[.slice A n c, .int .i64 i, .bool on] w (Refused w) := by
  go_enter Tryd.func21, Tryd.ntmps21
  go_wp2_with (go_at_call 30; refine (there_no _ _ _ i _ h).mono ?_; rintro e w' ⟨rfl, rfl⟩)
  go_ret2
  exact ⟨rfl, rfl⟩

theorem bts_set (l : List Nat) (k y : Nat) : (bts l).set k (.int .u8 (y : Int)) = bts (l.set k y) := by simp [bts, List.map_set]

theorem pow_bit (m : Nat) (h : m < 8) : (2 : Int) ^ m % 256 = ((2 ^ m : Nat) : Int) ∧ 2 ^ m < 256 := by
  have h1 : 2 ^ m ≤ 2 ^ 7 := Nat.pow_le_pow_right (by omega) (by omega)
  have e : (2 : Int) ^ m = ((2 ^ m : Nat) : Int) := by simp
  rw [e]
  generalize 2 ^ m = y at *
  omega
theorem and_bit (x m : Nat) (hx : x < 256) (hm : m < 8) : bits .andNot .u8 (x : Int) (2 ^ m % 256) = ((x &&& (255 - 2 ^ m) : Nat) : Int) := by
  rw [(pow_bit m hm).1]; exact u8_andNot_nat x (2 ^ m) hx (pow_bit m hm).2
theorem or_bit8 (x m : Nat) (hx : x < 256) (hm : m < 8) : bits .or .u8 (x : Int) (2 ^ m % 256) = ((x ||| 2 ^ m : Nat) : Int) := by
  rw [(pow_bit m hm).1]; exact u8_or_nat x (2 ^ m) hx (pow_bit m hm).2

set_option maxHeartbeats 800000 in
theorem with_ok (A : Option Addr) (n c B i : Nat) (on : Bool) (l : List Nat) (w : World) (hl : Small l) (hr : Reads w B A n (bts l)) (hB : B ≤ w.heap.size) (hn : n ≤ 140737488351232) (h : i / 8 < n) :
    Calls Tryd.prog 21 #[.slice A n c, .int .i64 i, .bool on] w (Made (withL l i on) w) := by
  obtain ⟨ad, rfl, hb, hc0⟩ := hr.byte h
  clear hc0
  have hx := hl.get (i / 8)
  have hlen := Lib.hid hr.len
  have hm : i % 8 < 8 := by omega
  go_enter Tryd.func21, Tryd.ntmps21
  go_wp2_with (go_at_call 30; refine (there_yes _ _ _ i _ (by unfold maxLen; omega) h).mono ?_; rintro e w' ⟨rfl, rfl⟩)
  go_wp2_with fail
  refine (clone_any ad n c B l _ hr hB hn).mono ?_
  rintro e w1 ⟨v, rfl, hown, hbel⟩
  rw [hlen.out] at hown
  obtain ⟨g, cap, hv, hg, hlt⟩ := hown.form (by omega)
  subst hv
  have hfz := hown.frozenAt (i / 8)
  have hc := hown.cellAt (i / 8) (by omega)
  rw [bts_get _ _ (by rw [hlen.out]; exact h)] at hc
  have hw := Lib.hid (show withL l i on = l.set (i / 8) (if on then l.getD (i / 8) 0 ||| 2 ^ (i % 8) else l.getD (i / 8) 0 &&& (255 - 2 ^ (i % 8))) from rfl)
  generalize l.getD (i / 8) 0 = x at *
  cases on
  · go_wp2
    go_region
    go_wp2
    go_ret2
    refine ⟨.slice (some ⟨g, 0, none⟩) n cap, rfl, ?_, ?_⟩
    · rw [withL_length, hlen.out, hw.out, and_bit x _ hx hm]
      have := (hown.stored (i / 8) (.int .u8 ((x &&& (255 - 2 ^ (i % 8)) : Nat) : Int))).1
      rw [bts_set] at this
      exact this
    · exact (hbel.setCell (p := ⟨g, i / 8, none⟩) hg _).drew
  · go_wp2
    go_region
    go_wp2
    go_ret2
    refine ⟨.slice (some ⟨g, 0, none⟩) n cap, rfl, ?_, ?_⟩
    · rw [withL_length, hlen.out, hw.out, or_bit8 x _ hx hm]
      have := (hown.stored (i / 8) (.int .u8 ((x ||| 2 ^ (i % 8) : Nat) : Int))).1
      rw [bts_set] at this
      exact this
    · exact (hbel.setCell (p := ⟨g, i / 8, none⟩) hg _).drew
end Go.Proofs.YtbagmmngepkaeaaDoor
