/-
  The contract of slices.Repeat at texts: one text, so many times.
  Conditions: at most 4,096 times, at least once.
-/
import Derived.Test.YtbkcdomapdflaaaHu
import Derived.Shelf.Bits.Mul64
import Derived.Laws.CopyOwn
import Derived.Deep.RegionLaw
namespace Go.Proofs.Ytbkcdomapdflaaa.Sh
open Go.RowKit Go.Maps Go.Shelf

def mulRen : Go.Shelf.Ren := ⟨fun | 212 => 41 | 263 => 53 | 264 => 54 | n => n, fun | 46 => 80 | 51 => 96 | 53 => 99 | 146 => 97 | 148 => 100 | n => n, fun | n => n⟩
theorem mulLays : Go.Proofs.Lays.n212 Try.prog mulRen := {
  mixed := by kernel_rfl
  f212 := Try.func41.trans (congrArg some (by kernel_rfl))
  f263 := Try.func53.trans (congrArg some (by kernel_rfl))
  f264 := Try.func54.trans (congrArg some (by kernel_rfl))
  t46 := Try.underlying80
  a46 := Try.isAgg80
  z46 := Try.sizeOf80
  v46 := Try.zeroValue80
  t51 := Try.underlying96
  a51 := Try.isAgg96
  z51 := Try.sizeOf96
  v51 := Try.zeroValue96
  t53 := Try.underlying99
  a53 := Try.isAgg99
  z53 := Try.sizeOf99
  v53 := Try.zeroValue99
  t146 := Try.underlying97
  a146 := Try.isAgg97
  z146 := Try.sizeOf97
  v146 := Try.zeroValue97
  t148 := Try.underlying100
  a148 := Try.isAgg100
  z148 := Try.sizeOf100
  v148 := Try.zeroValue100 }
theorem mul_one (n : Nat) (hn : n ≤ 4096) (w : World) : Calls Try.prog 41 #[.int .u64 1, .int .u64 (n : Int)] w fun e w' => e = .returned (.tuple #[.int .u64 0, .int .u64 (n : Int)]) ∧ w = w' :=
  (Any.bits_Mul mulLays 1 n (by decide) (by omega) w).mono fun e w' ⟨h1, h2⟩ => ⟨by rw [h1, Nat.one_mul, Nat.div_eq_of_lt (by omega), Nat.mod_eq_of_lt (by omega)]; rfl, h2.symm⟩
theorem info_string : (Try.prog.info? 9).map (fun i => (i.zero, i.size, i.bytes)) = some (some (.string ⟨#[]⟩), 1, 16) := by kernel_rfl
theorem size_string : (Try.prog.info? 9).map (·.size) = some 1 := by kernel_rfl
/-- A row of n cells the first k of which are the text's. -/
def repTo (s : ByteArray) (n k : Nat) : List Value := List.replicate k (.string s) ++ List.replicate (n - k) (.string ⟨#[]⟩)
theorem repTo_length (s : ByteArray) {n k : Nat} (h : k ≤ n) : (repTo s n k).length = n := by simp [repTo]; omega
theorem repTo_zero (s : ByteArray) (n : Nat) : (madeCells (Value.string ⟨#[]⟩).cells (n * 1)).toList = repTo s n 0 := by
  rw [Nat.mul_one]
  refine (toList_madeCells_one _ _).trans ?_
  simp [repTo]
theorem repTo_all (s : ByteArray) (n : Nat) : repTo s n n = List.replicate n (.string s) := by simp [repTo]
theorem repTo_get (s : ByteArray) {n k j : Nat} (h : j < k) : (repTo s n k)[j]? = some (.string s) := by
  unfold repTo
  rw [List.getElem?_append_left (by simpa using h)]
  simp [h]
theorem repTo_splice (s : ByteArray) (n k m : Nat) : splice (repTo s n k) k (List.replicate m (.string s)) = repTo s n (k + m) := by
  unfold splice repTo
  rw [List.take_left' (by simp), List.drop_append, List.drop_replicate, List.drop_replicate]
  simp
  rw [← List.append_assoc, List.replicate_append_replicate]
  congr 2
  omega
theorem one_rep (s : ByteArray) (m : Nat) : ∀ v ∈ List.replicate m (Value.string s), v.oneCell' = true := by
  intro v hv
  rw [List.eq_of_mem_replicate hv]; rfl
theorem one_one (s : ByteArray) : ∀ v ∈ [Value.string s], v.oneCell' = true := one_rep s 1
theorem rep_made (s : ByteArray) {w1 : World} {q n : Nat} (hown1 : w1.ownsRow 0 9 1 (.slice (some ⟨q, 0, none⟩) n n) n (madeCells (Value.string ⟨#[]⟩).cells (n * 1)).toList) : w1.heap[q]? = some (.cells (repTo s n 0).toArray 9 (0, 0)) := by
  rcases hown1.2 with ⟨h', _⟩ | ⟨g', cap', cur', h', _, hg, _, _, hcs, htake⟩
  · simp at h'
  · simp only [Value.slice.injEq, Option.some.injEq, Addr.mk.injEq, and_true, true_and] at h'
    obtain ⟨rfl, rfl⟩ := h'
    rw [repTo_zero s, List.take_of_length_le (by rw [Array.length_toList, hcs]; exact Nat.le_refl _)] at htake
    rw [hg, ← htake]
theorem cell_zero {w : World} {b : Nat} {x : Value} (hc : w.cell? ⟨b, 0, none⟩ = some x) : ∀ j v, [x][j]? = some v → w.cell? ((⟨b, 0, none⟩ : Addr).add j) = some v := by
  intro j v hj
  match j, hj with
  | 0, hj => simp at hj; subst hj; simpa [Addr.add] using hc
set_option maxRecDepth 20000 in
set_option maxHeartbeats 1600000 in
theorem repeat_any (w : World) (s : ByteArray) (b n : Nat) (h1 : 1 ≤ n) (hn : n ≤ 4096) (hb : b < w.heap.size) (hc : w.cell? ⟨b, 0, none⟩ = some (.string s)) :
    Calls Try.prog 15 #[.slice (some ⟨b, 0, none⟩) 1 1, .int .i64 n] w fun e w' =>
      e = .returned (.slice (some ⟨w.heap.size, 0, none⟩) n n) ∧ w'.ownsRow 0 9 1 (.slice (some ⟨w.heap.size, 0, none⟩) n n) n (List.replicate n (.string s)) ∧ Below w.heap.size w w' := by
  obtain ⟨i0, hi, hz0, hz1, hz2⟩ := info_parts info_string
  have HM := Lib.hid (show [Value.string s].length = Nat.min 1 n from (Nat.min_eq_left h1).symm)
  have HFit := Lib.hid (show 0 + [Value.string s].length ≤ (repTo s n 0).length by rw [repTo_length _ (Nat.zero_le _)]; simpa using h1)
  have hd0 : decide ((n : Int) < 0) = false := by simp
  have hd1 : decide (9223372036854775807 < (n : Int)) = false := by simp; omega
  go_enter Try.func15, Try.ntmps15
  go_wp2_with (first
    | (go_at_call 41; refine (mul_one n hn _).mono ?_; rintro e w' ⟨rfl, rfl⟩)
    | (at_make; refine wpList_make_full _ rfl _ _ 49 rfl 0 9 i0 (.string ⟨#[]⟩) 1 Try.underlying49 hi hz0 hz1 _ _ _ _ n rfl rfl rfl rfl (by rw [hz2]; omega) (by unfold maxLen; omega) (Nat.zero_le _) ?_; intro w1 hown1 hgrow1; have hcells := rep_made s hown1; have hbel1 : Below w.heap.size w w1 := (Below.refl _ w).grown hgrow1 (Nat.le_refl _) (fun _ h => by cases h); have hc1 := (hbel1.cell (p := ⟨b, 0, none⟩) hb).trans hc)
    | (have _t := hc1; (with_reducible refine wpList_copy_splice (o := ⟨some 33, _, _, _, _, _⟩) rfl (.tmp 31) (.tmp 32) 49 49 rfl 9 Try.underlying49 size_string (some ⟨w.heap.size, 0, none⟩) (some ⟨b, 0, none⟩) n n 1 1 rfl rfl w.heap.size 0 (repTo s n 0) 9 hcells [.string s] HM.out (fun _ => ⟨rfl, _, rfl, cell_zero hc1⟩) HFit.out (one_one s) w.heap.size w hbel1 (Nat.le_refl _) ?_); intro w2 hcells2 hbel2))
  have hx := hcells2.out
  have e1 : splice (repTo s n 0) 0 [Value.string s] = repTo s n 1 := by
    have := repTo_splice s n 0 1
    rw [Nat.zero_add] at this
    exact this
  rw [e1] at hx
  have HX := Lib.hid hx
  have HB2 := Lib.hid hbel2
  clear hcells hcells2 hbel2 hbel1 hc1 hown1 hgrow1 e1 hx hc
  generalize hq : w.heap.size = q at *
  have HQ := Lib.hid hq
  clear hq
  go_loopw [8] (fun i wr => ∃ k : Nat, 1 ≤ k ∧ k ≤ n ∧ i = .int .i64 k ∧ Hid (wr.heap[q]? = some (.cells (repTo s n k).toArray 9 (0, 0))) ∧ Hid (Below q w wr)) (fun i _ => n - (intOf i).toNat)
  case atStart => exact ⟨1, Nat.le_refl _, h1, rfl, HX, HB2⟩
  case round =>
    obtain ⟨k, hk1, hk, rfl, hrow, hbel⟩ := hrel
    by_cases hlt : k < n
    · have hne : ¬ (n = k) := by omega
      have HM2 := Lib.hid (show (List.replicate (min k (n - k)) (Value.string s)).length = Nat.min k (n - k) by simp)
      have HF2 := Lib.hid (show k + (List.replicate (min k (n - k)) (Value.string s)).length ≤ (repTo s n k).length by rw [repTo_length _ hk]; simp; omega)
      have HC2 := Lib.hid (show ∀ j v, (List.replicate (min k (n - k)) (Value.string s))[j]? = some v → wr.drew.cell? ((⟨q, 0, none⟩ : Addr).add j) = some v by
        intro j v hj
        have hjl : j < min k (n - k) := by
          have := (List.getElem?_eq_some_iff.1 hj).1
          simpa using this
        have hv : v = .string s := by simpa [hjl] using hj.symm
        subst hv
        have e : (⟨q, 0, none⟩ : Addr).add j = ⟨q, j, none⟩ := by unfold Addr.add; split <;> simp_all
        rw [e]
        show wr.cell? ⟨q, j, none⟩ = _
        rw [cell_of_row _ _ j _ _ _ hrow.out]
        simpa using repTo_get s (n := n) (show j < k by omega))
      have HR2 := Lib.hid (show wr.drew.heap[q]? = some (.cells (repTo s n k).toArray 9 (0, 0)) from hrow.out)
      have HB2 := Lib.hid hbel.out.drew
      go_wp2
      go_region_law (refine step_copy_splice rfl (.tmp 41) (.tmp 44) 49 49 rfl 9 Try.underlying49 size_string (some ⟨q, k, none⟩) (some ⟨q, 0, none⟩) (n - k) (n - k) k n (by simp [Act.eval, Act.put]) (by simp [Act.eval, Act.put]) q k (repTo s n k) 9 HR2.out (List.replicate (min k (n - k)) (.string s)) HM2.out (fun _ => ⟨rfl, _, rfl, HC2.out⟩) HF2.out (one_rep s _) q w HB2.out (Nat.le_refl _) ?_; intro w3 hcells3 hbel3)
      all_goals
        have hx3 := hcells3.out
        rw [repTo_splice s n k (min k (n - k))] at hx3
        have HX3 := Lib.hid hx3
        have HB3 := Lib.hid hbel3
        clear hcells3 hbel3 hx3
        have hle : k + min k (n - k) ≤ n := by omega
        have hlo : k < k + min k (n - k) := by omega
        have hwr : IntKind.i64.wrap ((k : Int) + ((min k (n - k) : Nat) : Int)) = ((k + min k (n - k) : Nat) : Int) := by rw [IntWalk.i64_in _ (by omega)]; omega
        rw [hwr]
        simp only [Act.put, List.setIfInBounds_toArray, List.set_cons_succ, List.set_cons_zero, List.getElem_toArray, List.getElem_cons_succ, List.getElem_cons_zero]
        go_roundw
        case rel => exact ⟨_, _, _, _, _, _, _, _, _, _, _, _, _, _, ⟨k + min k (n - k), by omega, hle, rfl, HX3, HB3⟩, rfl⟩
        case measure => simp [intOf]; omega
    · obtain rfl : k = n := by omega
      go_wp2
      go_ret
      have hx := hrow.out
      rw [repTo_all] at hx
      rw [HQ.out]
      refine ⟨rfl, ⟨by simp, .inr ⟨q, k, _, rfl, Nat.zero_le _, hx, Nat.le_refl _, by unfold maxLen; omega, by simp, by simp⟩⟩, ?_⟩
      exact hbel.out
end Go.Proofs.Ytbkcdomapdflaaa.Sh
