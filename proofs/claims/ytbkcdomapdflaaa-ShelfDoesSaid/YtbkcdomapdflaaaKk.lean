/-
  The definition's New; and the bytes that a call writes.
  Conditions: none.
-/
import Derived.Test.YtbkcdomapdflaaaKj
namespace Go.Proofs.Ytbkcdomapdflaaa.Sh
open Go.RowKit Go.Maps

theorem zero_rowR (d : Nat) : (madeCells (Value.agg #[.slice none 0 0, .slice none 0 0, .slice none 0 0, .bool false]).cells (d * 4)).toList = rowOf (fun _ c => diskR default false c) d 4 := by
  apply List.ext_getElem?
  intro j
  by_cases h : j < d * 4
  · have h4 : j % 4 = 0 ∨ j % 4 = 1 ∨ j % 4 = 2 ∨ j % 4 = 3 := by omega
    rcases h4 with e | e | e | e <;> simp [madeCells, rowOf, Value.cells, h, e, diskR] <;> rfl
  · simp [madeCells, rowOf, h]
theorem seek_nil (n sectors : Nat) (h : n < sectors) : seek [] n = (List.replicate sectors noughts).getD n [] := by simp [seek, List.getD, h]
theorem rnew_is {w w1 : World} {d n : Nat} (hd1 : 1 ≤ d) (hd : d ≤ 17) (hn1 : 1 ≤ n) (hn : n ≤ 4096)
    (hown : w1.ownsRow 0 79 4 (.slice (some ⟨w.heap.size, 0, none⟩) d d) d (madeCells (Value.agg #[.slice none 0 0, .slice none 0 0, .slice none 0 0, .bool false]).cells (d * 4)).toList) :
    Ref (w1.alloc (.cells #[.slice (some ⟨w.heap.size, 0, none⟩) d d, .int .i64 (n : Int), .int .i64 0, .bool false, .int .i64 0] 57)) w1.heap.size (newSf d n) (fun b => b = w1.heap.size ∨ b = w.heap.size) := by
  have hlt := (hown.lt w.heap.size rfl).2
  have hdk : ∀ i, i < d → (newSf d n).disks.getD i default = newDk n := fun i hi => by simp [newSf, List.getD, hi]
  have hl : (newSf d n).disks.length = d := by simp [newSf]
  rw [zero_rowR] at hown
  refine ⟨w.heap.size, fun _ => default, fun _ => [], false, 0, ?_⟩
  refine ⟨by rw [hl]; exact hd1, by rw [hl]; exact hd, hn1, hn, ⟨rfl, (fun e => by cases e), (fun e => by cases e), Nat.zero_le _, by decide, by decide⟩, ?_, ?_, ?_, ?_, ?_, ?_⟩
  · rw [hl]
    exact heap_alloc_new _ _
  · rw [hl]
    have e : rowOf (fun i c => diskR default ((newSf d n).disks.getD i default).dead c) d 4 = rowOf (fun _ c => diskR default false c) d 4 := rowOf_congr (by decide) fun i c hi _ => by rw [hdk i hi]; rfl
    rw [e]
    exact hown.alloc _
  · intro i hi
    rw [hl] at hi
    rw [hdk i hi]
    refine ⟨⟨rfl, .inl ⟨rfl, rfl⟩⟩, ⟨rfl, .inl ⟨rfl, rfl⟩⟩, ⟨rfl, .inl ⟨rfl, rfl⟩⟩, by simp [newDk, newSf], fun m hm => seek_nil m n hm, by simp, fun x hx => by simp at hx, fun x hx => by simp [newDk] at hx, fun b hb => ?_⟩
    rw [List.eq_of_mem_replicate hb]
    exact noughts_sec
  · intro i j b _ _ _ hb
    rcases hb with hb | hb | hb <;> cases hb
  · refine ⟨.inl rfl, .inr rfl, fun i b _ hb => ?_⟩
    rcases hb with hb | hb | hb <;> cases hb
  · rintro b (rfl | rfl)
    · simp
    · simp; omega
set_option maxRecDepth 20000 in
theorem rnew_ok (d n : Nat) (w : World) (hd1 : 1 ≤ d) (hd : d ≤ 17) (hn1 : 1 ≤ n) (hn : n ≤ 4096) :
    Calls Try.prog 5 #[.int .i64 d, .int .i64 n] w fun e w' => ∃ q F, e = .returned (.tuple #[.pointer (some ⟨q, 0, none⟩), .int .i64 0]) ∧ Ref w' q (newSf d n) F ∧ (∀ b, F b → w.heap.size ≤ b) ∧ Below w.heap.size w w' := by
  obtain ⟨i0, hi, hz0, hz1, hz2⟩ := info_parts info_rdisk
  have hq0 : decide ((d : Int) < 1) = false := by simp; omega
  have hq1 : decide (17 < (d : Int)) = false := by simp; omega
  have hq2 : decide ((n : Int) < 1) = false := by simp; omega
  have hq3 : decide (4096 < (n : Int)) = false := by simp; omega
  go_enter Try.func5, Try.ntmps5
  go_wp2_with (at_make; refine wpList_make_full _ rfl _ _ 55 rfl 0 79 i0 _ 4 Try.underlying55 hi hz0 hz1 _ _ _ _ d rfl rfl rfl rfl (by rw [hz2]; omega) (by unfold maxLen; omega) (Nat.zero_le _) ?_; intro w1 hown1 hgrow1)
  go_ret2
  refine ⟨w1.heap.size, _, rfl, rnew_is hd1 hd hn1 hn hown1, ?_, ((Below.refl _ w).grown hgrow1 (Nat.le_refl _) (fun _ h => by cases h)).alloc hgrow1.size _⟩
  rintro b (rfl | rfl)
  · exact hgrow1.size
  · exact Nat.le_refl _
theorem rnew_no (d n : Int) (w : World) (hno : d < 1 ∨ 17 < d ∨ n < 1 ∨ 4096 < n) :
    Calls Try.prog 5 #[.int .i64 d, .int .i64 n] w fun e w' => e = .returned (.tuple #[.pointer none, .int .i64 1]) ∧ w = w' := by
  by_cases h1 : d < 1
  · go_enter Try.func5, Try.ntmps5
    go_wp2
    go_ret2
    exact ⟨rfl, rfl⟩
  · have q1 : decide (d < 1) = false := decide_eq_false h1
    by_cases h2 : d > 17
    · go_enter Try.func5, Try.ntmps5
      go_wp2
      go_ret2
      exact ⟨rfl, rfl⟩
    · have q2 : decide (d > 17) = false := decide_eq_false h2
      by_cases h3 : n < 1
      · clear hno
        go_enter Try.func5, Try.ntmps5
        go_wp2
        go_ret2
        exact ⟨rfl, rfl⟩
      · have q3 : decide (n < 1) = false := decide_eq_false h3
        have h4 : n > 4096 := by omega
        clear hno
        go_enter Try.func5, Try.ntmps5
        go_wp2
        go_ret2
        exact ⟨rfl, rfl⟩
end Go.Proofs.Ytbkcdomapdflaaa.Sh
