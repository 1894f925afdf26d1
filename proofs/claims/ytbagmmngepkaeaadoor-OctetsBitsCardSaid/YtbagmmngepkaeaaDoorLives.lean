/-
  What the statements ask of every program at one handful of inputs, returns true wherever the two tables hold what the program's text lays.
  Conditions: the two tables.
-/
import Derived.Test.YtbagmmngepkaeaaDoorFind
import Derived.Laws.BytesArg
import Derived.Lib.SlBytesConst
namespace Go.Proofs.YtbagmmngepkaeaaDoor
open Go.RowKit

/-- The text of bytes. -/
def strL (l : List Nat) : ByteArray := strOfNums (l.map fun (x : Nat) => (x : Int))
theorem bts_ints (l : List Nat) : bts l = (l.map fun (x : Nat) => (x : Int)).map (Value.int .u8) := by simp [bts]
theorem run_str {w : World} {B n : Nat} {A : Option Addr} {l : List Nat} (c : Nat) (hr : Reads w B A n (bts l)) :
    (convert 23 9 (.slice A n c)).run Tryd.prog w = .ok (.string (strL l)) w := by
  have hlen := hr.len
  rcases A with _ | ad
  · have hn : n = 0 := by
      rcases Nat.eq_zero_or_pos n with h | h
      · exact h
      · obtain ⟨ad, e, _⟩ := hr.2 h; cases e
    subst hn
    have hl : l = [] := List.eq_nil_of_length_eq_zero hlen
    subst hl
    exact run_convert_bytes_nil (P := Tryd.prog) w 23 5 Tryd.underlying23 Tryd.underlying5 0 c 9 Tryd.underlying9
  · have hcells : ∀ j v, (bts l)[j]? = some v → w.cell? (ad.add j) = some v := by
      intro j v hj
      rcases Nat.eq_zero_or_pos n with h | h
      · have hl : l = [] := List.eq_nil_of_length_eq_zero (by omega)
        subst hl
        simp [bts] at hj
      · obtain ⟨ad', e, _, hc⟩ := hr.2 h
        injection e with e
        subst e
        exact hc j v hj
    have hl : (loadCells ad n).run Tryd.prog w = .ok ((l.map fun (x : Nat) => (x : Int)).map (Value.int .u8)).toArray w := by
      have := run_loadCells_list (P := Tryd.prog) w ad (bts l) hcells
      rw [bts_length, hlen, bts_ints] at this
      exact this
    rw [run_convert_bytes_string w 23 9 5 _ n c Tryd.underlying23 Tryd.underlying5 Tryd.underlying9, run_bytesToString w _ n c _ hl, foldl_push_bytes]
    simp [strL, strOfNums, ByteArray.empty, ByteArray.emptyWithCapacity]
    rfl

/-- A literal of bytes, in a new block. -/
theorem reads_lit (w : World) (l : List Nat) : Reads (w.alloc (.cells (bts l).toArray 5)) (w.heap.size + 1) (some ⟨w.heap.size, 0, none⟩) l.length (bts l) := by
  refine ⟨bts_length l, fun _ => ⟨_, rfl, by simp, fun j u hu => ?_⟩⟩
  have e : (⟨w.heap.size, 0, none⟩ : Addr).add j = ⟨w.heap.size, j, none⟩ := by unfold Addr.add; split <;> simp_all
  rw [e, World.cell?_alloc_at _ _ _ _ rfl]
  simpa using hu

theorem put300 : putL 300 2 = [44, 1] := by decide
theorem get300 : getN (cutAt [9, 44, 1] 1 2) = 300 := by decide
theorem xor56 : xorL [5] [6] = [3] := by decide
theorem with7 : withL [7] 3 true = [15] := by decide
theorem has7 : bitB [7] 2 = true := by decide
theorem free7 : FreeIs [7] 0 8 (some 3) := by
  refine ⟨by decide, by decide, by decide, by decide, fun j hj _ => ?_⟩
  have h : j = 0 ∨ j = 1 ∨ j = 2 := by omega
  rcases h with rfl | rfl | rfl <;> decide
theorem cnt7 : cnt [7] 8 = 3 := by simp only [cnt_succ, cnt_zero]; decide
theorem small_of {l : List Nat} (h : (l.all fun x => decide (x < 256)) = true) : Small l := fun x hx => by simpa using List.all_eq_true.1 h x hx

theorem add_zero_ (a : Addr) : a.add 0 = a := by unfold Addr.add; simp
theorem reads_mark (w : World) (l : List Nat) (fr : Nat × Nat) : Reads (w.alloc (.cells (bts l).toArray 5 fr)) (w.heap.size + 1) (some ⟨w.heap.size, 0, none⟩) l.length (bts l) := by
  refine ⟨bts_length l, fun _ => ⟨_, rfl, by simp, fun j u hu => ?_⟩⟩
  have e : (⟨w.heap.size, 0, none⟩ : Addr).add j = ⟨w.heap.size, j, none⟩ := by unfold Addr.add; split <;> simp_all
  rw [e, World.cell?_alloc_mark]
  simpa using hu
theorem reads_on {w : World} {A : Option Addr} {n : Nat} {xs : List Value} (h : Reads w w.heap.size A n xs) (o : Obj) : Reads (w.alloc o) (w.alloc o).heap.size A n xs :=
  (h.alloc (Nat.le_refl _) o).more (by simp)
theorem reads_over {w w' : World} {A : Option Addr} {n : Nat} {xs : List Value} (h : Reads w w.heap.size A n xs) (hb : Below w.heap.size w w') : Reads w' w'.heap.size A n xs :=
  (h.below hb).more hb.size
theorem below_on {w w1 w2 : World} (h : Below w.heap.size w w1) (k : Below w1.heap.size w1 w2) : Below w.heap.size w w2 := h.trans (k.mono h.size)
theorem reads_lit2 (w : World) (o : Obj) (l : List Nat) : Reads ((w.alloc o).alloc (.cells (bts l).toArray 5)) (w.heap.size + 2) (some ⟨w.heap.size + 1, 0, none⟩) l.length (bts l) := by
  have h := reads_lit (w.alloc o) l
  have e : (w.alloc o).heap.size = w.heap.size + 1 := by simp
  rw [e] at h
  exact h

set_option maxHeartbeats 1000000 in
theorem lives_yes (w : World) (hT : Tabs w) :
    Calls Tryd.prog 16 #[] w fun e w' => e = .returned (.bool true) ∧ Below w.heap.size w w' := by
  have hsz := hT.size
  go_enter Tryd.func16, Tryd.ntmps16
  go_wp2_with fail
  have q1 := put_ok 300 2 w (by decide) (by decide) (by decide)
  rw [put300] at q1
  refine q1.mono ?_
  clear q1
  rintro e w1 ⟨v1, rfl, hown1, hb1⟩
  obtain ⟨A1, c1, rfl, hr1, _, _⟩ := own_shape hown1
  clear hown1
  go_wp2_with fail
  have q2 := get_ok (some ⟨w1.heap.size, 0, none⟩) 3 3 (w1.heap.size + 1) [9, 44, 1] 1 2 _ (by decide) (by decide) (small_of (by decide)) (reads_lit w1 [9, 44, 1]) (by decide) (by decide)
  rw [get300] at q2
  refine q2.mono ?_
  clear q2
  rintro e w' ⟨rfl, rfl⟩
  have hb2 := hb1.alloc hb1.size (.cells (bts [9, 44, 1]).toArray 5)
  have hr2 := reads_on hr1 (.cells (bts [9, 44, 1]).toArray 5)
  clear hr1 hb1
  generalize w1.alloc (.cells (bts [9, 44, 1]).toArray 5) = w2 at *
  go_wp2_with fail
  have q3 := xor_ok (some ⟨w2.heap.size, 0, none⟩) (some ⟨w2.heap.size + 1, 0, none⟩) 1 1 1 (w2.heap.size + 2) [5] [6] ((w2.alloc (.cells (bts [5]).toArray 5)).alloc (.cells (bts [6]).toArray 5)) (small_of (by decide)) (small_of (by decide))
    (((reads_lit w2 [5]).alloc (by simp) _).more (by omega)) (reads_lit2 w2 _ [6]) (by simp) (by omega)
  rw [xor56] at q3
  refine q3.mono ?_
  clear q3
  rintro e w3 ⟨v3, rfl, hown3, hb3⟩
  obtain ⟨A3, c3, rfl, hr3, _, _⟩ := own_shape hown3
  clear hown3
  have hb2a := (hb2.alloc hb2.size (.cells (bts [5]).toArray 5)).alloc (by simp; have := hb2.size; omega) (.cells (bts [6]).toArray 5)
  have hr2a := reads_on (reads_on hr2 (.cells (bts [5]).toArray 5)) (.cells (bts [6]).toArray 5)
  have hb4 := below_on hb2a hb3
  have hr4 := reads_over hr2a hb3
  clear hb2a hr2a hb3 hr2 hb2
  go_wp2_with fail
  have q4 := with_ok (some ⟨w3.heap.size, 0, none⟩) 1 1 (w3.heap.size + 1) 3 true [7] _ (small_of (by decide)) (reads_lit w3 [7]) (by simp) (by omega) (by decide)
  rw [with7] at q4
  refine q4.mono ?_
  clear q4
  rintro e w4 ⟨v4, rfl, hown4, hb5⟩
  obtain ⟨A4, c4, rfl, hr5, _, _⟩ := own_shape hown4
  clear hown4
  have hr3b := reads_over (reads_on hr3 (.cells (bts [7]).toArray 5)) hb5
  have hr4b := reads_over (reads_on hr4 (.cells (bts [7]).toArray 5)) hb5
  have hb6 := below_on (hb4.alloc hb4.size (.cells (bts [7]).toArray 5)) hb5
  clear hb4 hb5 hr3 hr4
  go_wp2_with fail
  refine (free_any (some ⟨w4.heap.size, 0, none⟩) 1 1 (w4.heap.size + 1) 0 [7] 0 8 _ (small_of (by decide)) (reads_lit w4 [7]) (by omega) (by decide) (by omega) (by omega) (by omega) (by omega)).mono ?_
  rintro e w' ⟨r, hr, rfl, rfl⟩
  obtain rfl := hr.unique free7
  have hb7 := hb6.alloc hb6.size (.cells (bts [7]).toArray 5)
  have hr3c := reads_on hr3b (.cells (bts [7]).toArray 5)
  have hr4c := reads_on hr4b (.cells (bts [7]).toArray 5)
  have hr5c := reads_on hr5 (.cells (bts [7]).toArray 5)
  clear hr hb6 hr3b hr4b hr5
  generalize w4.alloc (.cells (bts [7]).toArray 5) = w5 at *
  have hr4d : Reads w5 w5.heap.size A1 2 (bts [44, 1]) := hr4c
  have hs := run_str c1 hr4d
  rw [show strL [44, 1] = ⟨#[44, 1]⟩ from rfl] at hs
  clear hr4c hr4d
  have kc := fun (w : World) (C : Array Value) (n c : Nat) => Lib.run_convert_bytes_const (P := Tryd.prog) w 23 5 C n c Tryd.underlying23 Tryd.underlying5
  go_wp2_with fail
  have hb8 := hb7.alloc hb7.size (.cells (bts [49, 50, 51, 52, 53, 54, 55, 56, 57]).toArray 5 (9, 10))
  have hr3d := reads_on hr3c (.cells (bts [49, 50, 51, 52, 53, 54, 55, 56, 57]).toArray 5 (9, 10))
  have hr5d := reads_on hr5c (.cells (bts [49, 50, 51, 52, 53, 54, 55, 56, 57]).toArray 5 (9, 10))
  have q5 := crc_any (some ⟨w5.heap.size, 0, none⟩) 9 9 (w5.heap.size + 1) [49, 50, 51, 52, 53, 54, 55, 56, 57] 0 _ (by decide) (small_of (by decide)) (reads_mark w5 [49, 50, 51, 52, 53, 54, 55, 56, 57] (9, 10)) (by decide) (hT.below hsz hb8)
  rw [Nums.sum_digits] at q5
  refine q5.mono ?_
  clear q5
  rintro e w' ⟨rfl, d, rfl⟩
  clear hs hb7 hr3c hr5c
  generalize w5.alloc (.cells (bts [49, 50, 51, 52, 53, 54, 55, 56, 57]).toArray 5 (9, 10)) = w6 at *
  have hb9 : Below w.heap.size w (w6.drewN d) := hb8.trans ⟨rfl, rfl, rfl, Nat.le_refl _, fun _ _ => rfl⟩
  have hr3e : Reads (w6.drewN d) (w6.drewN d).heap.size A3 1 (bts [3]) := hr3d
  have hr5e : Reads (w6.drewN d) (w6.drewN d).heap.size A4 1 (bts [15]) := hr5d
  clear hb8 hr3d hr5d
  generalize w6.drewN d = w7 at *
  obtain ⟨a3, rfl, hla3, hc3⟩ := hr3e.byte (k := 0) (by decide)
  obtain ⟨a4, rfl, hla4, hc4⟩ := hr5e.byte (k := 0) (by decide)
  rw [add_zero_] at hc3 hc4
  go_wp2_with fail
  have q6 := count_any (some ⟨w7.heap.size, 0, none⟩) 1 1 (w7.heap.size + 1) 8 [7] 8 _ (small_of (by decide)) (reads_lit w7 [7]) (by omega) (by decide)
  rw [cnt7] at q6
  refine q6.mono ?_
  clear q6
  rintro e w' ⟨rfl, rfl⟩
  have hb10 := hb9.alloc hb9.size (.cells (bts [7]).toArray 5)
  clear hb9 hr3e hr5e
  generalize w7.alloc (.cells (bts [7]).toArray 5) = w8 at *
  go_wp2_with fail
  have q7 := has_in (some ⟨w8.heap.size, 0, none⟩) 1 1 (w8.heap.size + 1) 2 [7] _ (small_of (by decide)) (reads_lit w8 [7]) (by decide) (by decide) (by decide)
  rw [has7] at q7
  refine q7.mono ?_
  clear q7
  rintro e w' ⟨rfl, rfl⟩
  have hb11 := hb10.alloc hb10.size (.cells (bts [7]).toArray 5)
  clear hb10
  go_wp2_with fail
  go_ret
  exact ⟨rfl, hb11⟩
end Go.Proofs.YtbagmmngepkaeaaDoor
