/-
  The sum's two functions, the program's (two tables of halves) and the definition's (bit by bit), return the same plain function of the seed and the bytes, for every slice of bytes and every seed.
  Conditions: the two tables hold what the program's text lays.
-/
import Derived.Test.YtjdjpafnakhpcaaDoorMem
namespace Go.Proofs.YtjdjpafnakhpcaaDoor
open Go.RowKit

def Drew (v : Value) (w : World) (e : Ending) (w' : World) : Prop := e = .returned v ∧ ∃ k, w' = w.drewN k

theorem xor_max (s : Nat) (hs : s < 4294967296) : bits .xor .u32 IntKind.u32.max (s : Int) = ((s ^^^ 4294967295 : Nat) : Int) := by
  rw [Nat.xor_comm]; exact u32_xor_nat 4294967295 s (by omega) hs
theorem low_lt (i : Nat) : Nums.low i < 4294967296 := by
  by_cases h : i < 16
  · have : ∀ j : Fin 16, Nums.low j.val < 4294967296 := by decide
    exact this ⟨i, h⟩
  · have e : Nums.low i = 0 := by unfold Nums.low; rw [List.getD, List.getElem?_eq_none (by simp [Nums.lowT]; omega)]; rfl
    rw [e]; decide
theorem high_lt (i : Nat) : Nums.high i < 4294967296 := by
  by_cases h : i < 16
  · have : ∀ j : Fin 16, Nums.high j.val < 4294967296 := by decide
    exact this ⟨i, h⟩
  · have e : Nums.high i = 0 := by unfold Nums.high; rw [List.getD, List.getElem?_eq_none (by simp [Nums.highT]; omega)]; rfl
    rw [e]; decide

set_option maxHeartbeats 400000 in
theorem crc_any (A : Option Addr) (n c B : Nat) (l : List Nat) (s : Nat) (w : World) (hs : s < 4294967296) (hl : Small l) (hr : Reads w B A n (bts l)) (hn : n ≤ maxLen) (hT : Tabs w) :
    Calls Tryd.prog 54 #[.int .u32 s, .slice A n c] w (Drew (.int .u32 (Nums.sum s l)) w) := by
  unfold maxLen at hn
  have hlen := hr.len
  have e0 := xor_max s hs
  have hs0 : s ^^^ 4294967295 < 4294967296 := Nums.xor_lt_32 hs (by decide)
  have hsig : IntKind.u32.signed = false := rfl
  go_enter Tryd.func54, Tryd.ntmps54
  go_wp2
  go_loopw [5, 12] (fun s5 s12 wr => ∃ k d : Nat, k ≤ n ∧ s12 = .int .i64 k ∧ s5 = .int .u32 (Nums.run (s ^^^ 4294967295) (l.take k)) ∧ wr = w.drewN d) (fun _ i _ => n - (intOf i).toNat)
  case atStart => exact ⟨0, 0, Nat.zero_le _, rfl, by simp [Nums.run_nil], rfl⟩
  case round =>
    obtain ⟨k, d, hk, rfl, rfl, rfl⟩ := hrel
    by_cases hlt : k < n
    · obtain ⟨ad, rfl, hb, hc⟩ := hr.byte hlt
      have hsn := Lib.hid (Nums.run_take_succ (s ^^^ 4294967295) l k (by omega))
      have hS : Nums.run (s ^^^ 4294967295) (l.take k) < 4294967296 := Nums.run_lt (fun x hx => hl x (List.mem_of_mem_take hx)) hs0
      have hx := hl.get k
      clear e0 hlen
      generalize Nums.run (s ^^^ 4294967295) (l.take k) = S at *
      generalize l.getD k 0 = x at *
      have hy : x ^^^ (S % 256) < 256 := Nums.xor_lt_256 hx (by omega)
      have e1 : bits .xor .u8 (x : Int) ((S : Int) % 256) = ((x ^^^ (S % 256) : Nat) : Int) := by
        have := u8_xor_nat x (S % 256) hx (by omega)
        simpa using this
      go_wp2
      have hst : Hid (Nums.step S x = ((S / 256) ^^^ Nums.low ((x ^^^ (S % 256)) % 16)) ^^^ Nums.high ((x ^^^ (S % 256)) / 16)) := Lib.hid rfl
      clear e1
      generalize x ^^^ S % 256 = y at *
      have e2 : bits .and .u8 (y : Int) 15 = ((y % 16 : Nat) : Int) := by
        have := u8_and_nat y 15 hy (by decide)
        rw [Nat.and_two_pow_sub_one_eq_mod (n := 4)] at this
        exact this
      have c1 := hT.1 (y % 16) (by omega)
      have c2 := hT.2 (y / 16) (by omega)
      have b1 : (((y % 16 : Nat) : Int)) < 16 := by omega
      have b2 : (((y / 16 : Nat) : Int)) < 16 := by omega
      have e3 : bits .xor .u32 (bits .xor .u32 ((S : Int) / 256) ((Nums.low (y % 16) : Nat) : Int)) ((Nums.high (y / 16) : Nat) : Int) = ((Nums.step S x : Nat) : Int) := by
        rw [hst.out]
        have h1 := u32_xor_nat (S / 256) (Nums.low (y % 16)) (by omega) (low_lt _)
        have h2 := u32_xor_nat (S / 256 ^^^ Nums.low (y % 16)) (Nums.high (y / 16)) (Nums.xor_lt_32 (by omega) (low_lt _)) (high_lt _)
        rw [← h2, ← h1]; rfl
      have E3 := Lib.hid e3
      clear e3
      go_quiet (fail)
      rw [E3.out]
      go_wp2
      go_roundw
      case rel => exact ⟨k + 1, d + nq, by omega, by go_num, by rw [hsn.out], rfl⟩
      case measure => simp [intOf]; omega
    · obtain rfl : k = n := by omega
      have hS : Nums.run (s ^^^ 4294967295) (l.take k) < 4294967296 := Nums.run_lt (fun x hx => hl x (List.mem_of_mem_take hx)) hs0
      have hfin : Hid (Nums.run (s ^^^ 4294967295) (l.take k) ^^^ 4294967295 = Nums.sum s l) := Lib.hid (by unfold Nums.sum; rw [List.take_of_length_le (by omega)])
      clear e0 hlen
      generalize Nums.run (s ^^^ 4294967295) (l.take k) = S at *
      have e1 := xor_max S hS
      go_wp2
      go_ret
      have e := hfin.out
      rw [e]
      exact ⟨rfl, d, rfl⟩

theorem xor_lit (s : Nat) (hs : s < 4294967296) : bits .xor .u32 (s : Int) 4294967295 = ((s ^^^ 4294967295 : Nat) : Int) := u32_xor_nat s 4294967295 hs (by omega)

set_option maxHeartbeats 400000 in
theorem refCrc_any (A : Option Addr) (n c B : Nat) (l : List Nat) (s : Nat) (w : World) (hs : s < 4294967296) (hl : Small l) (hr : Reads w B A n (bts l)) (hn : n ≤ maxLen) :
    Calls Tryd.prog 52 #[.int .u32 s, .slice A n c] w fun e w' => e = .returned (.int .u32 (Nums.sum s l)) ∧ w = w' := by
  unfold maxLen at hn
  have hlen := hr.len
  have e0 := xor_lit s hs
  have hs0 : s ^^^ 4294967295 < 4294967296 := Nums.xor_lt_32 hs (by decide)
  go_enter Tryd.func52, Tryd.ntmps52
  go_wp2
  go_loop [5, 6] (fun s5 s6 => ∃ k : Nat, k ≤ n ∧ s6 = .int .i64 k ∧ s5 = .int .u32 (Nums.run (s ^^^ 4294967295) (l.take k))) (fun _ i => n - (intOf i).toNat)
  case atStart => exact ⟨0, Nat.zero_le _, rfl, by simp [Nums.run_nil]⟩
  case round =>
    obtain ⟨k, hk, rfl, rfl⟩ := hrel
    by_cases hlt : k < n
    · obtain ⟨ad, rfl, hb, hc⟩ := hr.byte hlt
      have hsn := Lib.hid (Nums.run_take_succ (s ^^^ 4294967295) l k (by omega))
      have hS : Nums.run (s ^^^ 4294967295) (l.take k) < 4294967296 := Nums.run_lt (fun x hx => hl x (List.mem_of_mem_take hx)) hs0
      have hx := hl.get k
      clear e0 hlen
      generalize Nums.run (s ^^^ 4294967295) (l.take k) = S at *
      generalize l.getD k 0 = x at *
      have hy : S ^^^ x < 4294967296 := Nums.xor_lt_32 hS (by omega)
      have hst := Lib.hid (Nums.step_eq S x hx)
      have e1 : bits .xor .u32 (S : Int) (x : Int) = ((S ^^^ x : Nat) : Int) := u32_xor_nat S x hS (by omega)
      go_wp2
      clear e1
      generalize S ^^^ x = Y at *
      go_loop [5, 7] (fun s5 s7 => ∃ j : Nat, j ≤ 8 ∧ s7 = .int .i64 j ∧ s5 = .int .u32 (Nums.bitN j Y)) (fun _ j => 8 - (intOf j).toNat)
      case atStart => exact ⟨0, by omega, rfl, rfl⟩
      case round =>
        obtain ⟨j, hj, rfl, rfl⟩ := hrel
        by_cases hlt2 : j < 8
        · have hbs := Lib.hid (Nums.bitN_succ j Y)
          have hC : Nums.bitN j Y < 4294967296 := Nums.bitN_lt j hy
          generalize Nums.bitN j Y = C at *
          by_cases hodd : C % 2 = 1
          · have hb1 := Lib.hid (show Nums.bit1 C = (C / 2) ^^^ 2197175160 by unfold Nums.bit1; rw [if_pos hodd])
            have e2 : bits .xor .u32 ((C : Int) / 2) 2197175160 = ((C / 2 ^^^ 2197175160 : Nat) : Int) := u32_xor_nat (C / 2) 2197175160 (by omega) (by omega)
            have t1 : ((C : Int) % 2 == 1) = true := by rw [beq_iff_eq]; omega
            clear hodd
            go_wp2
            go_round
            case rel => exact ⟨j + 1, by omega, by go_num, by rw [hbs.out, hb1.out]⟩
            case measure => simp [intOf]; omega
          · have hb1 := Lib.hid (show Nums.bit1 C = C / 2 by unfold Nums.bit1; rw [if_neg hodd, Nat.xor_zero])
            have t1 : ((C : Int) % 2 == 1) = false := by rw [beq_eq_false_iff_ne]; omega
            clear hodd
            go_wp2
            go_round
            case rel => exact ⟨j + 1, by omega, by go_num, by rw [hbs.out, hb1.out]; go_num⟩
            case measure => simp [intOf]; omega
        · obtain rfl : j = 8 := by omega
          go_wp2
          go_round
          case rel => exact ⟨k + 1, by omega, by go_num, by rw [hsn.out, hst.out, ← Nums.bitN_8]⟩
          case measure => simp [intOf]; omega
    · obtain rfl : k = n := by omega
      have hS : Nums.run (s ^^^ 4294967295) (l.take k) < 4294967296 := Nums.run_lt (fun x hx => hl x (List.mem_of_mem_take hx)) hs0
      have hfin : Hid (Nums.run (s ^^^ 4294967295) (l.take k) ^^^ 4294967295 = Nums.sum s l) := Lib.hid (by unfold Nums.sum; rw [List.take_of_length_le (by omega)])
      clear e0 hlen
      generalize Nums.run (s ^^^ 4294967295) (l.take k) = S at *
      have e1 := xor_lit S hS
      go_wp2
      go_ret
      have e := hfin.out
      rw [e]
      exact ⟨rfl, rfl⟩
end Go.Proofs.YtjdjpafnakhpcaaDoor
