/-
  The contract of New where there may be such a shelf: noughts, in new memory.
  Conditions: 1 to 17 disks of 1 to 4096 sectors.
-/
import Derived.Test.YtbkcdomapdflaaaHx
namespace Go.Proofs.Ytbkcdomapdflaaa.Sh
open Go.RowKit Go.Maps

set_option maxRecDepth 20000 in
set_option maxHeartbeats 1600000 in
theorem new_ok (d n : Nat) (w : World) (hd1 : 1 ≤ d) (hd : d ≤ 17) (hn1 : 1 ≤ n) (hn : n ≤ 4096) :
    Calls Try.prog 4 #[.int .i64 d, .int .i64 n] w fun e w' => ∃ p F, e = .returned (.tuple #[.pointer (some ⟨p, 0, none⟩), .int .i64 0]) ∧ Shelf w' p (newSf d n) F ∧ (∀ b, F b → w.heap.size ≤ b) ∧ Below w.heap.size w w' := by
  obtain ⟨i0, hi, hz0, hz1, hz2⟩ := info_parts info_disk
  obtain ⟨i1, ki, kz0, kz1, kz2⟩ := info_parts info_u8
  have hq0 : decide ((d : Int) < 1) = false := by simp; omega
  have hq1 : decide (17 < (d : Int)) = false := by simp; omega
  have hq2 : decide ((n : Int) < 1) = false := by simp; omega
  have hq3 : decide (4096 < (n : Int)) = false := by simp; omega
  go_enter Try.func4, Try.ntmps4
  go_wp2_with (first
    | (at_make; refine wpList_make_full _ rfl _ _ 44 rfl 0 54 i0 _ 4 Try.underlying44 hi hz0 hz1 _ _ _ _ d rfl rfl rfl rfl (by rw [hz2]; omega) (by unfold maxLen; omega) (Nat.zero_le _) ?_; intro w1 hown1 hgrow1)
    | (at_make; refine wpList_make_full _ rfl _ _ 36 rfl 0 5 i1 _ 1 Try.underlying36 ki kz0 kz1 _ _ _ _ 128 rfl rfl rfl rfl (by rw [kz2]; omega) (by unfold maxLen; omega) (Nat.zero_le _) ?_; intro w2 hown2 hgrow2; have hstr := run_str 128 (noughts_reads (own_next hown2)); have hp2 : w2.heap[w1.heap.size]? = some (.cells #[.bool false, .int .i64 0, .slice (some ⟨w.heap.size, 0, none⟩) d d, .int .i64 (n : Int), .int .i64 0] 48 (0, 0)) := (hgrow2.block w1.heap.size (by simp) (by simp)).trans (heap_alloc_new _ _); have c2 := cell_of_row _ _ 2 _ _ _ hp2))
  have hrel0 : Hid (∃ gs, NewRel w w2 w1.heap.size w.heap.size n d 0 gs) := Lib.hid ⟨default, new_start hown1 hgrow1 hgrow2 hp2⟩
  have hpD : w1.heap.size ≠ w.heap.size := by have := (hown1.lt w.heap.size rfl).2; omega
  have HP : Hid (w.heap.size ≤ w1.heap.size) := Lib.hid hgrow1.size
  clear hown1 hgrow1 hown2 hgrow2 hstr hp2 c2
  generalize hss : strL noughts = s at *
  have HS := Lib.hid hss
  clear hss
  generalize w1.heap.size = p at *
  generalize hDD : w.heap.size = D at *
  have HDD := Lib.hid hDD
  clear hDD
  go_loopw [35] (fun i wr => ∃ j : Nat, j ≤ d ∧ i = .int .i64 j ∧ Hid (∃ gs, NewRel w wr p D n d j gs)) (fun i _ => d - (intOf i).toNat)
  case atStart => exact ⟨0, Nat.zero_le _, rfl, hrel0⟩
  case round =>
    obtain ⟨j, hj, rfl, hrel⟩ := hrel
    obtain ⟨gs, hN⟩ := hrel.out
    have c2 := cell_of_row _ _ 2 _ _ _ hN.root
    have HN := Lib.hid hN
    clear hN hrel
    by_cases hlt : j < d
    · go_wp2
      have hmm := @run_makeMap Try.prog
      have hplt := lt_of_block HN.out.root
      go_region_with (first
        | (go_at_call 15; (with_reducible refine (repA wr s n hn1 hn).mono ?_); rintro e w' ⟨rfl, hr⟩; obtain ⟨⟨x, a0, a1, a2, a3⟩, ff⟩ := HN.out.facts hr.2.1 hlt; have f0 := ff (j * 4); have f1 := ff (j * 4 + 1); have f2 := ff (j * 4 + 2); have f3 := ff (j * 4 + 3); clear ff; obtain ⟨⟨xb, a0b, a1b, a2b, a3b⟩, ffb⟩ := HN.out.facts (hr.2.1.alloc (Nat.le_of_lt (Nat.lt_of_le_of_lt hr.2.2.1 hr.2.2.2)) (.map #[] 0)) hlt; have f0b := ffb (j * 4); have f1b := ffb (j * 4 + 1); have f2b := ffb (j * 4 + 2); have f3b := ffb (j * 4 + 3); clear ffb)
        | (go_at_call 15; (with_reducible refine (repB wr s n hn1 hn).mono ?_); rintro e w' ⟨rfl, hr, hmp⟩; obtain ⟨⟨x, a0, a1, a2, a3⟩, ff⟩ := HN.out.facts hr.2.1 hlt; have f0 := ff (j * 4); have f1 := ff (j * 4 + 1); have f2 := ff (j * 4 + 2); have f3 := ff (j * 4 + 3); clear ff)
        | (go_at_call 15; (with_reducible refine (repC wr s n hn1 hn).mono ?_); rintro e w' ⟨rfl, hr, hmp⟩; obtain ⟨⟨x, a0, a1, a2, a3⟩, ff⟩ := HN.out.facts hr.2.1 hlt; have f0 := ff (j * 4); have f1 := ff (j * 4 + 1); have f2 := ff (j * 4 + 2); have f3 := ff (j * 4 + 3); clear ff))
      all_goals
        go_wp2
        go_roundw
        case rel =>
          first
            | exact ⟨j + 1, by omega, by go_num, Lib.hid ⟨_, new_round HN.out HS.out.symm hlt (by have := HDD.out; omega) hpD hr.2.1 hr.1 hmp hr.2.2.1 (by omega)⟩⟩
            | exact ⟨j + 1, by omega, by go_num, Lib.hid ⟨_, new_round HN.out HS.out.symm hlt (by have := HDD.out; omega) hpD (hr.2.1.alloc (Nat.le_of_lt (Nat.lt_of_le_of_lt hr.2.2.1 hr.2.2.2)) _) (hr.1.alloc _) (heap_alloc_new _ _) hr.2.2.1 (Nat.le_of_lt (Nat.lt_of_le_of_lt hr.2.2.1 hr.2.2.2))⟩⟩
        case measure => simp [intOf]; omega
    · obtain rfl : j = d := by omega
      go_wp2
      go_ret2
      refine ⟨_, _, rfl, new_shelf HN.out hd1 hd hn1 hn hpD, ?_, by first | exact HN.out.bel | (rw [← HDD.out]; exact HN.out.bel)⟩
      rintro b (rfl | rfl | ⟨i, hi, hb⟩)
      · have := HP.out; have := HDD.out; omega
      · have := HDD.out; omega
      · have := HN.out.low i hi b hb; have := HDD.out; omega
end Go.Proofs.Ytbkcdomapdflaaa.Sh
