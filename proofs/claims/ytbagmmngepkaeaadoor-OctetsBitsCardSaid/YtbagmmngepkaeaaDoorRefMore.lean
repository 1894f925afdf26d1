/-
  The contracts of the definition's Count, Free and With.
  Conditions: at most 65536 bytes.
-/
import Derived.Test.YtbagmmngepkaeaaDoorRefBit
namespace Go.Proofs.YtbagmmngepkaeaaDoor
open Go.RowKit

def RefInt (x : Nat) (w : World) (e : Ending) (w' : World) : Prop := e = .returned (.int .i64 x) ∧ Below w.heap.size w w'
set_option maxHeartbeats 800000 in
theorem refCount_any (A : Option Addr) (n c B m : Nat) (l : List Nat) (stop : Int) (w : World) (hl : Small l) (hr : Reads w B A n (bts l)) (hB : B ≤ w.heap.size) (hn : n ≤ 65536)
    (hm : ∀ i : Nat, i < m ↔ (i < 8 * n ∧ (i : Int) < stop)) :
    Calls Tryd.prog 28 #[.slice A n c, .int .i64 stop] w (RefInt (cnt l m) w) := by
  have Hm := Lib.hid hm
  clear hm
  go_enter Tryd.func28, Tryd.ntmps28
  go_wp2_with fail
  refine (refBits_any A n c B l w hl hr hB hn).mono ?_
  rintro e w1 ⟨v, rfl, hown, hbel⟩
  obtain ⟨A1, c1, rfl, _, _, _⟩ := own_shape hown
  clear hr hB
  go_wp2_with fail
  go_loop [6, 7] (fun s6 s7 => ∃ i : Nat, i ≤ m ∧ s7 = .int .i64 i ∧ s6 = .int .i64 (cnt l i)) (fun _ s7 => m - (intOf s7).toNat)
  case atStart => exact ⟨0, Nat.zero_le _, rfl, by rw [cnt_zero]; rfl⟩
  case round =>
    obtain ⟨i, him, rfl, rfl⟩ := hrel
    have hle := cnt_le l i
    by_cases hlt : i < m
    · obtain ⟨h1, h2⟩ := (Hm.out i).1 hlt
      have d1 : decide ((i : Int) < 8 * (n : Int)) = true := by simp; omega
      have d2 : decide ((i : Int) < stop) = true := by simpa using h2
      obtain ⟨g, cap, hv, hg, hgl⟩ := hown.form (by omega)
      injection hv with ha _ hcap
      subst ha; subst hcap
      have hc := hown.cellAt i (by omega)
      rw [bbs_get _ _ _ h1] at hc
      have hs := Lib.hid (cnt_succ l i)
      have hi9 : i ≤ 524288 := by omega
      generalize cnt l i = q at *
      cases hbit : bitB l i
      · rw [hbit] at hc
        have hs2 := Lib.hid (show cnt l (i + 1) = q by rw [hs.out, hbit]; rfl)
        clear hs hbit
        go_wp2_with fail
        go_round
        case rel => exact ⟨i + 1, by omega, by go_num, by rw [hs2.out]⟩
        case measure => simp [intOf]; omega
      · rw [hbit] at hc
        have hs2 := Lib.hid (show cnt l (i + 1) = q + 1 by rw [hs.out, hbit]; rfl)
        clear hs hbit
        go_wp2_with fail
        go_round
        case rel => exact ⟨i + 1, by omega, by go_num, by rw [hs2.out]; go_num⟩
        case measure => simp [intOf]; omega
    · obtain rfl : i = m := by omega
      by_cases h1 : i < 8 * n
      · have d1 : decide ((i : Int) < 8 * (n : Int)) = true := by simp; omega
        have d2 : decide ((i : Int) < stop) = false := by
          have h3 : ¬ ((i : Int) < stop) := fun h => hlt ((Hm.out i).2 ⟨h1, h⟩)
          simpa using h3
        go_wp2_with fail
        go_ret
        exact ⟨rfl, hbel⟩
      · have d1 : decide ((i : Int) < 8 * (n : Int)) = false := by simp; omega
        go_wp2_with fail
        go_ret
        exact ⟨rfl, hbel⟩

def RefFound (l : List Nat) (start stop : Int) (w : World) (e : Ending) (w' : World) : Prop :=
  ∃ r : Option Nat, FreeIs l start stop r ∧ e = .returned (.tuple #[.int .i64 ((r.getD 0 : Nat) : Int), .bool r.isSome]) ∧ Below w.heap.size w w'
set_option maxHeartbeats 800000 in
theorem refFree_any (A : Option Addr) (n c B : Nat) (l : List Nat) (start stop : Int) (w : World) (hl : Small l) (hr : Reads w B A n (bts l)) (hB : B ≤ w.heap.size) (hn : n ≤ 65536) :
    Calls Tryd.prog 24 #[.slice A n c, .int .i64 start, .int .i64 stop] w (RefFound l start stop w) := by
  have hlen := Lib.hid hr.len
  go_enter Tryd.func24, Tryd.ntmps24
  go_wp2_with fail
  refine (refBits_any A n c B l w hl hr hB hn).mono ?_
  rintro e w1 ⟨v, rfl, hown, hbel⟩
  obtain ⟨A1, c1, rfl, _, _, _⟩ := own_shape hown
  clear hr hB
  go_wp2_with fail
  go_loop [9] (fun s9 => ∃ i : Nat, i ≤ 8 * n ∧ s9 = .int .i64 i ∧ Hid (∀ j : Nat, j < i → start ≤ j → bitB l j = true)) (fun s9 => 8 * n - (intOf s9).toNat)
  case atStart => exact ⟨0, Nat.zero_le _, rfl, Lib.hid fun j hj => absurd hj (Nat.not_lt_zero j)⟩
  case round =>
    obtain ⟨i, hin, rfl, HA⟩ := hrel
    by_cases h1 : i < 8 * n
    · have d1 : decide ((i : Int) < 8 * (n : Int)) = true := by simp; omega
      by_cases h2 : (i : Int) < stop
      · have d2 : decide ((i : Int) < stop) = true := by simpa using h2
        obtain ⟨g, cap, hv, hg, hgl⟩ := hown.form (by omega)
        injection hv with ha _ hcap
        subst ha; subst hcap
        have hc := hown.cellAt i (by omega)
        rw [bbs_get _ _ _ h1] at hc
        have hcases : Hid (∀ j : Nat, j < i + 1 → j < i ∨ j = i) := Lib.hid fun j hj => by omega
        by_cases h3 : start ≤ (i : Int)
        · have d3 : decide (start ≤ (i : Int)) = true := by simpa using h3
          cases hbit : bitB l i
          · rw [hbit] at hc
            have hfin : Hid (FreeIs l start stop (some i)) := Lib.hid ⟨h2, by have := hlen.out; omega, h3, hbit, fun j hj h4 => HA.out j hj h4⟩
            clear hbit
            go_wp2_with fail
            go_ret2
            exact ⟨some i, hfin.out, rfl, hbel⟩
          · rw [hbit] at hc
            have hnx : Hid (∀ j : Nat, j < i + 1 → start ≤ j → bitB l j = true) := Lib.hid fun j hj h4 => by
              rcases hcases.out j hj with h | h
              · exact HA.out j h h4
              · rw [h]; exact hbit
            clear hbit
            go_wp2_with fail
            go_round
            case rel => exact ⟨i + 1, by omega, by go_num, hnx⟩
            case measure => simp [intOf]; omega
        · have d3 : decide (start ≤ (i : Int)) = false := by simpa using h3
          have hnx : Hid (∀ j : Nat, j < i + 1 → start ≤ j → bitB l j = true) := Lib.hid fun j hj h4 => by
            rcases hcases.out j hj with h | h
            · exact HA.out j h h4
            · omega
          go_wp2_with fail
          go_round
          case rel => exact ⟨i + 1, by omega, by go_num, hnx⟩
          case measure => simp [intOf]; omega
      · have d2 : decide ((i : Int) < stop) = false := by simpa using h2
        have hfin : Hid (FreeIs l start stop none) := Lib.hid fun j _ h4 h5 => HA.out j (by omega) h5
        go_wp2_with fail
        go_ret2
        exact ⟨none, hfin.out, rfl, hbel⟩
    · have d1 : decide ((i : Int) < 8 * (n : Int)) = false := by simp; omega
      have hfin : Hid (FreeIs l start stop none) := Lib.hid fun j hj _ h5 => HA.out j (by have := hlen.out; omega) h5
      go_wp2_with fail
      go_ret2
      exact ⟨none, hfin.out, rfl, hbel⟩

set_option maxHeartbeats 800000 in
theorem refWith_no (A : Option Addr) (n c B : Nat) (i : Int) (on : Bool) (l : List Nat) (w : World) (hl : Small l) (hr : Reads w B A n (bts l)) (hB : B ≤ w.heap.size) (hn : n ≤ 65536) (h : i < 0 ∨ 8 * (n : Int) ≤ i) :
    Calls Tryd.prog 22 #[.slice A n c, .int .i64 i, .bool on] w (RefRefused w) := by
  by_cases h0 : i < 0
  · have d0 : decide (i < 0) = true := by simpa using h0
    clear h h0
    go_enter Tryd.func22, Tryd.ntmps22
    go_wp2_with fail
    refine (refBits_any A n c B l w hl hr hB hn).mono ?_
    rintro e w1 ⟨v, rfl, hown, hbel⟩
    obtain ⟨A1, c1, rfl, _, _, _⟩ := own_shape hown
    go_wp2_with fail
    go_ret2
    exact ⟨rfl, hbel⟩
  · have d0 : decide (i < 0) = false := by simpa using h0
    have d1 : decide (8 * (n : Int) ≤ i) = true := by simp; omega
    clear h h0
    go_enter Tryd.func22, Tryd.ntmps22
    go_wp2_with fail
    refine (refBits_any A n c B l w hl hr hB hn).mono ?_
    rintro e w1 ⟨v, rfl, hown, hbel⟩
    obtain ⟨A1, c1, rfl, _, _, _⟩ := own_shape hown
    go_wp2_with fail
    go_ret2
    exact ⟨rfl, hbel⟩

theorem own_base {w : World} {base base' n : Nat} {e : TypeId} {v : Value} {xs : List Value} (h : w.ownsRow base e 1 v n xs) (hb : base' ≤ base) : w.ownsRow base' e 1 v n xs := by
  refine ⟨h.1, ?_⟩
  rcases h.2 with h0 | ⟨g, cap, cur, h1, h2, h3⟩
  · exact .inl h0
  · exact .inr ⟨g, cap, cur, h1, Nat.le_trans hb h2, h3⟩
theorem bit_of (l : List Nat) (k t : Nat) (ht : t < 8) : l.getD k 0 / 2 ^ t = 2 * (l.getD k 0 / 2 ^ (t + 1)) + if bitB l (8 * k + t) = true then 1 else 0 := by
  rw [bit_val l k t ht, half]
  omega
theorem take_get (l : List Nat) (k : Nat) (h : k < l.length) : bts (l.take (k + 1)) = bts (l.take k) ++ [.int .u8 ((l.getD k 0 : Nat) : Int)] := by
  rw [List.take_succ_eq_append_getElem h, bts_append]
  congr 1
  simp [bts, List.getD, List.getElem?_eq_getElem h]

set_option maxHeartbeats 1600000 in
theorem refWith_ok (A : Option Addr) (n c B i : Nat) (on : Bool) (l : List Nat) (w : World) (hl : Small l) (hr : Reads w B A n (bts l)) (hB : B ≤ w.heap.size) (hn : n ≤ 65536) (h : i < 8 * n) :
    Calls Tryd.prog 22 #[.slice A n c, .int .i64 i, .bool on] w (RefMade (withL l i on) w) := by
  obtain ⟨i0, hi, hz0, hz1, hz2⟩ := info_parts info_u8
  have hll := hr.len
  have d0 : decide ((i : Int) < 0) = false := by simp
  have d1 : decide (8 * (n : Int) ≤ (i : Int)) = false := by simp; omega
  have hws := withOn_small hl i on
  have hwl : (withL l i on).length = n := by rw [withL_length, hll]
  have hwb : (fun j => if j = i then on else bitB l j) = bitB (withL l i on) := by
    funext j
    rw [withOn_bit l i j on (by omega)]
  go_enter Tryd.func22, Tryd.ntmps22
  go_wp2_with fail
  refine (refBits_any A n c B l w hl hr hB hn).mono ?_
  rintro e w1 ⟨v, rfl, hown, hbel⟩
  obtain ⟨g, cap, rfl, hg, hgl⟩ := hown.form (by omega)
  have hc := hown.cellAt i (by omega)
  rw [bbs_get _ _ _ h] at hc
  have hfz := hown.frozenAt i
  have hst := (hown.stored i (.bool on)).1
  rw [bbs_set, hwb] at hst
  have hbel2 := hbel.setCell (p := ⟨g, i, none⟩) hg (.bool on)
  have HWL := Lib.hid hwl
  have HLL := Lib.hid hll
  clear hwl hwb hown hbel hr hB hll
  generalize withL l i on = l2 at *
  generalize bitB l i = oldb at *
  have Hst := Lib.hid hst
  have Hbel2 := Lib.hid hbel2
  clear hst hbel2
  go_wp2_with fail
  clear hc hfz
  have hst := Hst.out
  have hbel2 := Hbel2.out
  clear Hst Hbel2
  generalize w1.setCell ⟨g, i, none⟩ (.bool on) = w2 at *
  generalize hgs : w.heap.size = b0 at *
  have Hgs := Lib.hid hgs
  have hsz2 : w2.heap.size ≤ w2.heap.size := Nat.le_refl _
  have hb0 : b0 ≤ w2.heap.size := by rw [← hgs]; exact hbel2.size
  have hg2 : g < w2.heap.size := (hst.lt g rfl).2
  clear hgs hsz2
  go_loopw [9, 10] (fun s9 s10 wr => ∃ k : Nat, k ≤ n ∧ s10 = .int .i64 k ∧ wr.ownsRow w2.heap.size 5 1 s9 k (bts (l2.take k)) ∧ Below w2.heap.size w2 wr ∧ w2.heap.size ≤ wr.heap.size) (fun _ s10 _ => n - (intOf s10).toNat)
  case atStart => exact ⟨0, Nat.zero_le _, rfl, by simpa [bts] using World.ownsRow_nil w2 w2.heap.size 5 1, Below.refl _ _, Nat.le_refl _⟩
  case round =>
    obtain ⟨k, hk, rfl, hown2, hbel3, hsz3⟩ := hrel
    by_cases hlt : k < n
    · have hbo := Lib.hid (fun t (ht : t < 8) => bit_of l2 k t ht)
      have htg := Lib.hid (take_get l2 k (by rw [HWL.out]; exact hlt))
      have hy0 := hws.get k
      have hcells : Hid (∀ t, t < 8 → wr.cell? ⟨g, 8 * k + t, none⟩ = some (.bool (bitB l2 (8 * k + t)))) := Lib.hid fun t ht => by
        rw [hbel3.cell (p := ⟨g, 8 * k + t, none⟩) hg2, hst.cellAt _ (by omega), bbs_get _ _ _ (by omega)]
      generalize l2.getD k 0 = y at *
      have hstart : Hid (y / 2 ^ 8 = 0) := Lib.hid (by have := Nat.div_eq_of_lt hy0; simpa using this)
      obtain ⟨wo, rfl⟩ : ∃ wo : World, wo = wr := ⟨_, rfl⟩
      go_wp2_with fail
      go_loop [11, 12] (fun s11 s12 => ∃ t : Nat, t ≤ 8 ∧ s12 = .int .i64 ((t : Int) - 1) ∧ s11 = .int .i64 ((y / 2 ^ t : Nat) : Int)) (fun _ s12 => (intOf s12 + 1).toNat)
      case atStart => exact ⟨8, Nat.le_refl _, rfl, by rw [hstart.out]; rfl⟩
      case round =>
        obtain ⟨t, ht, rfl, rfl⟩ := hrel
        by_cases hpos : 0 < t
        · obtain ⟨j, rfl⟩ : ∃ j, t = j + 1 := ⟨t - 1, by omega⟩
          have hcj := hcells.out j (by omega)
          have hbj := Lib.hid (hbo.out j (by omega))
          have hz : y / 2 ^ (j + 1) < 256 := Nat.lt_of_le_of_lt (Nat.div_le_self _ _) hy0
          generalize y / 2 ^ (j + 1) = z at *
          cases hbit : bitB l2 (8 * k + j)
          · rw [hbit] at hcj
            have hb2 := Lib.hid (show y / 2 ^ j = 2 * z by rw [hbj.out, hbit]; rfl)
            clear hbj hbit
            go_wp2_with fail
            go_round
            case rel => exact ⟨j, by omega, by go_num, by rw [hb2.out]; go_num⟩
            case measure => simp [intOf]
          · rw [hbit] at hcj
            have hb2 := Lib.hid (show y / 2 ^ j = 2 * z + 1 by rw [hbj.out, hbit]; rfl)
            clear hbj hbit
            go_wp2_with fail
            go_round
            case rel => exact ⟨j, by omega, by go_num, by rw [hb2.out]; go_num⟩
            case measure => simp [intOf]
        · obtain rfl : t = 0 := by omega
          rw [Nat.pow_zero, Nat.div_one]
          go_wp2_with (at_builtin; refine append1 rfl _ _ 23 rfl w2.heap.size 5 i0 (.int .u8 0) 1 Tryd.underlying23 hi hz0 hz1 hz2 rfl _ k _ rfl (.int .u8 (y : Int)) rfl rfl (by exact hown2) (by unfold maxLen; omega) (by omega) w2 hbel3 hsz3 ?_; intro v' w4 hown4 hbel4)
          rw [← htg.out] at hown4
          have hsz4 := hbel4.size
          go_wp2_with fail
          go_roundw
          case rel => exact ⟨k + 1, by omega, by go_num, hown4, hbel4, hsz4⟩
          case measure => simp [intOf]; omega
    · obtain rfl : k = n := by omega
      go_wp2_with fail
      go_ret2
      have e1 : l2.take k = l2 := List.take_of_length_le (by rw [HWL.out]; exact Nat.le_refl _)
      rw [e1] at hown2
      exact ⟨_, rfl, by rw [HWL.out, Hgs.out]; exact own_base hown2 hb0, by rw [Hgs.out]; exact hbel2.trans (hbel3.mono hb0)⟩
end Go.Proofs.YtbagmmngepkaeaaDoor
