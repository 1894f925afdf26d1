/-
  The contracts of keeper and of the closure that it hands back: which of so many writes stand in a list of numbers.
  Conditions: each theorem's own.
-/
import Derived.Test.YtbkcdomapdflaaaHl
namespace Go.Proofs.Ytbkcdomapdflaaa.Sh
open Go.RowKit Go.Maps

/-- Numbers as values. -/
def ints (l : List Int) : List Value := l.map fun x => Value.int .i64 x
theorem ints_get (l : List Int) (k : Nat) (h : k < l.length) : (ints l)[k]? = some (.int .i64 (l.getD k 0)) := by simp [ints, List.getD, h]
def kpOf (l : List Int) (j : Nat) : Bool := decide ((j : Int) ∈ l)
def stands (l : List Int) (L : Nat) : List Value := (List.range L).map fun j => .bool (kpOf l j)
theorem stands_length (l : List Int) (L : Nat) : (stands l L).length = L := by simp [stands]
theorem stands_nil (L : Nat) : (madeCells (Value.bool false).cells (L * 1)).toList = stands [] L := by
  rw [Nat.mul_one]
  refine (toList_madeCells_one _ _).trans ?_
  apply List.ext_getElem?
  intro i
  by_cases h : i < L
  · simp [stands, kpOf, h]
  · simp [stands, h]
theorem stands_at (l : List Int) {L j : Nat} (h : j < L) : (stands l L)[j]? = some (.bool (kpOf l j)) := by simp [stands, h]
theorem stands_out (l : List Int) (L : Nat) (x : Int) (h : x < 0 ∨ (L : Int) ≤ x) : stands (l ++ [x]) L = stands l L := by
  unfold stands
  apply List.map_congr_left
  intro j hj
  have hj := List.mem_range.1 hj
  have : ¬ (j : Int) = x := by omega
  simp [kpOf, this]
theorem stands_in (l : List Int) (L x : Nat) : stands (l ++ [(x : Int)]) L = (stands l L).set x (.bool true) := by
  apply List.ext_getElem?
  intro j
  rw [List.getElem?_set]
  by_cases h : j < L
  · by_cases e : x = j
    · subst e
      simp [stands, kpOf, h]
    · have e2 : ¬ (j : Int) = (x : Int) := by omega
      simp [stands, kpOf, h, e, e2]
  · by_cases e : x = j
    · subst e
      simp [stands, h]
    · simp [stands, h, e]
theorem take_snoc_int (l : List Int) (k : Nat) (h : k < l.length) : l.take (k + 1) = l.take k ++ [l.getD k 0] := by
  rw [List.take_succ_eq_append_getElem h]; simp [List.getD, h]

theorem info_bool : (Try.prog.info? 4).map (fun i => (i.zero, i.size, i.bytes)) = some (some (.bool false), 1, 1) := by kernel_rfl
/-- What the closure needs: its variable, and the row that it leads to. -/
structure Kept (w : World) (q st L : Nat) (l : List Int) : Prop where
  cell : w.heap[q]? = some (.cells #[.slice (some ⟨st, 0, none⟩) L L] 90 (0, 0))
  row : w.ownsRow 0 4 1 (.slice (some ⟨st, 0, none⟩) L L) L (stands l L)
set_option maxRecDepth 20000 in
theorem kept_any {w : World} {q st L : Nat} {l : List Int} (h : Kept w q st L l) (j : Nat) (hj : j < L) :
    Calls Try.prog 46 #[.int .i64 (j : Int), .pointer (some ⟨q, 0, none⟩)] w fun e w' => e = .returned (.bool (kpOf l j)) ∧ w = w' := by
  have c0 := cell_of_one h.cell
  have c1 := cell_at h.row (stands_at l hj)
  clear h
  generalize kpOf l j = b at *
  go_enter Try.func46, Try.ntmps46
  go_wp2
  go_ret
  exact ⟨rfl, rfl⟩
def KeeperIs (w : World) (L : Nat) (l : List Int) (e : Ending) (w' : World) : Prop :=
  ∃ q st, e = .returned (.func (.func 46) #[] #[.pointer (some ⟨q, 0, none⟩)]) ∧ Kept w' q st L l ∧ w.heap.size ≤ q ∧ w.heap.size ≤ st ∧ Below w.heap.size w w'
set_option maxRecDepth 20000 in
set_option maxHeartbeats 800000 in
theorem keeper_any (w : World) (L B : Nat) (A : Option Addr) (n c : Nat) (l : List Int) (hL : L < 4398046511104) (hr : Reads w B A n (ints l)) (hB : B ≤ w.heap.size) (hn : n ≤ 9223372036854775807) :
    Calls Try.prog 27 #[.slice A n c, .int .i64 L] w (KeeperIs w L l) := by
  obtain ⟨i0, hi, hz0, hz1, hz2⟩ := info_parts info_bool
  have hmf : ∀ (fn : Fn) (first cap : Array Value) (w : World), (Instr.makeFunc fn first cap).run Try.prog w = .ok (.func fn first cap) w := fun _ _ _ _ => rfl
  go_enter Try.func27, Try.ntmps27
  go_wp2_with (at_make; refine wpList_make_full _ rfl _ _ 90 rfl 0 4 i0 (.bool false) 1 Try.underlying90 hi hz0 hz1 _ _ _ _ L rfl rfl rfl rfl (by rw [hz2]; omega) (by unfold maxLen; omega) (Nat.zero_le _) ?_; intro w1 hown1 hgrow1)
  have hst : (w1.alloc (.cells #[.slice (some ⟨w.heap.size, 0, none⟩) L L] 90)).ownsRow 0 4 1 (.slice (some ⟨w.heap.size, 0, none⟩) L L) L (stands (l.take 0) L) := by
    rw [List.take_zero, ← stands_nil]
    exact hown1.alloc _
  have hq := heap_alloc_new w1 (.cells #[.slice (some ⟨w.heap.size, 0, none⟩) L L] 90)
  have hbel : Below w.heap.size w (w1.alloc (.cells #[.slice (some ⟨w.heap.size, 0, none⟩) L L] 90)) := ((Below.refl _ w).grown hgrow1 (Nat.le_refl _) (fun _ h => by cases h)).alloc hgrow1.size _
  have HK : Hid (Kept (w1.alloc (.cells #[.slice (some ⟨w.heap.size, 0, none⟩) L L] 90)) w1.heap.size w.heap.size L (l.take 0) ∧ Below w.heap.size w (w1.alloc (.cells #[.slice (some ⟨w.heap.size, 0, none⟩) L L] 90))) := Lib.hid ⟨⟨hq, hst⟩, hbel⟩
  have hsz1 := hgrow1.size
  have hne : w1.heap.size ≠ w.heap.size := by
    have := (hown1.lt w.heap.size rfl).2
    omega
  have hl : l.length = n := by rw [← hr.1]; simp [ints]
  have HL := Lib.hid hl
  clear hst hq hbel hown1 hgrow1 hl
  generalize w1.alloc (.cells #[.slice (some ⟨w.heap.size, 0, none⟩) L L] 90) = w2 at *
  generalize hqq : w1.heap.size = q at *
  generalize hgg : w.heap.size = st at *
  have Hst := Lib.hid hgg
  have Hq := Lib.hid hqq
  clear hgg hqq
  go_loopw [12] (fun i wr => ∃ k : Nat, k ≤ n ∧ i = .int .i64 k ∧ Hid (Kept wr q st L (l.take k) ∧ Below st w wr)) (fun i _ => n - (intOf i).toNat)
  case atStart => exact ⟨0, Nat.zero_le _, rfl, HK⟩
  case round =>
    obtain ⟨k, hk, rfl, hrel⟩ := hrel
    by_cases hlt : k < n
    · obtain ⟨ad, u, rfl, hab, hx, hc⟩ := hr.at_ hlt
      rw [ints_get l k (by rw [HL.out]; exact hlt)] at hx
      injection hx with hx
      subst hx
      have hc1 := (hrel.out.2.cell (p := ad.add k) (by rw [block_of_add]; have := Hst.out; omega)).trans hc
      have HT := Lib.hid (take_snoc_int l k (by rw [HL.out]; exact hlt))
      have cq := cell_of_one hrel.out.1.cell
      clear hr hc
      generalize l.getD k 0 = x at *
      by_cases h0 : x < 0
      · have hd : decide (0 ≤ x) = false := by simp; omega
        go_wp2
        go_roundw
        case rel => exact ⟨k + 1, by omega, by go_num, Lib.hid ⟨⟨hrel.out.1.cell, by rw [HT.out, stands_out _ _ _ (.inl h0)]; exact hrel.out.1.row⟩, hrel.out.2⟩⟩
        case measure => simp [intOf]; omega
      · by_cases h1 : (L : Int) ≤ x
        · have hd : decide (x < (L : Int)) = false := by simp; omega
          go_wp2
          go_roundw
          case rel => exact ⟨k + 1, by omega, by go_num, Lib.hid ⟨⟨hrel.out.1.cell, by rw [HT.out, stands_out _ _ _ (.inr h1)]; exact hrel.out.1.row⟩, hrel.out.2⟩⟩
          case measure => simp [intOf]; omega
        · obtain ⟨x, rfl⟩ : ∃ m : Nat, x = (m : Int) := ⟨x.toNat, by omega⟩
          have hxL : x < L := by omega
          have hrw := (hrel.out.1.row.stored x (.bool true))
          have hco := cell_at hrel.out.1.row (stands_at (l.take k) hxL)
          have hfo := hrel.out.1.row.frozenAt x
          have hrowN := Lib.hid hrw.1
          have hqN : Hid ((wr.setCell ⟨st, x, none⟩ (.bool true)).heap[q]? = _) := Lib.hid ((heap_set_other wr ⟨st, x, none⟩ (.bool true) hne).trans hrel.out.1.cell)
          have hbN := Lib.hid (hrel.out.2.setCell (p := ⟨st, x, none⟩) (Nat.le_refl _) (.bool true))
          clear hrw h0 h1
          generalize Value.bool (kpOf (l.take k) x) = old at *
          go_wp2
          go_roundw
          case rel => exact ⟨k + 1, by omega, by go_num, Lib.hid ⟨⟨hqN.out, by rw [HT.out, stands_in]; exact hrowN.out⟩, hbN.out⟩⟩
          case measure => simp [intOf]; omega
    · obtain rfl : k = n := by omega
      go_wp2
      go_ret
      have hx := hrel.out
      rw [List.take_of_length_le (by rw [HL.out]; exact Nat.le_refl _)] at hx
      exact ⟨_, _, rfl, hx.1, by have := Hst.out; have := Hq.out; omega, by have := Hst.out; omega, by rw [Hst.out]; exact hx.2⟩
end Go.Proofs.Ytbkcdomapdflaaa.Sh
