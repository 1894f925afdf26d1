/-
  What the statements ask of every program, returns true.
  Conditions: the tables.
-/
import Derived.Test.YtceebcaeodmllaaDoorSt
namespace Go.Proofs.YtceebcaeodmllaaDoor.S
open Go.RowKit

def sup1 : Sup := ⟨1, 3, 0, 1, 1, -1, 0, 0⟩
theorem sup1_right : sup1.right = true := by decide
theorem sup1_enc : toldOf (encL sup1.nums) = sup1 ∧ codeD (encL sup1.nums) = 0 := by
  have h : okD (encL sup1.nums) = true := by
    unfold okD
    rw [supOf_enc sup1_right, sup1_right]
    simp
  unfold toldOf codeD
  rw [h]
  exact ⟨supOf_enc sup1_right, rfl⟩
theorem told_right {s : Sup} (h : s.right = true) : toldOf (encL s.nums) = s ∧ codeD (encL s.nums) = 0 := by
  have h2 : okD (encL s.nums) = true := by
    unfold okD
    rw [supOf_enc h, h]
    simp
  unfold toldOf codeD
  rw [h2]
  exact ⟨supOf_enc h, rfl⟩
theorem sup1_head : (encL sup1.nums).take 20 = [65, 83, 72, 76, 1, 0, 0, 0, 0, 0, 0, 0, 3, 0, 1, 255, 1, 0, 0, 0] := by decide +kernel
theorem key_str : strL [65, 83, 72, 76, 1, 0, 0, 0, 0, 0, 0, 0, 3, 0, 1, 255, 1, 0, 0, 0] = (⟨#[65, 83, 72, 76, 1, 0, 0, 0, 0, 0, 0, 0, 3, 0, 1, 255, 1, 0, 0, 0]⟩ : ByteArray) := by decide +kernel
theorem reads_part {w : World} {B n m : Nat} {A : Option Addr} {l : List Nat} (h : Reads w B A n (bts l)) (hm : m ≤ n) : Reads w B A m (bts (l.take m)) := by
  have hl := h.len
  refine ⟨by rw [bts_length, List.length_take]; omega, fun h0 => ?_⟩
  obtain ⟨ad, e, hb, hc⟩ := h.2 (by omega)
  refine ⟨ad, e, hb, fun j u hu => hc j u ?_⟩
  have hj : j < m := by
    have := (List.getElem?_eq_some_iff.1 hu).1
    rw [bts_length, List.length_take] at this; omega
  rw [← hu]
  simp [bts, hj]

set_option maxRecDepth 100000 in
set_option maxHeartbeats 8000000 in
theorem lives_true (w : World) (hA : All w) :
    Calls Tryd.prog 13 #[] w fun e w' => e = .returned (.bool true) ∧ Below w.heap.size w w' := by
  have QR := Lib.hid (fun w => right_any sup1 w)
  rw [sup1_right] at QR
  have hb0 : Below w.heap.size w (w.alloc (.cells #[.int .i64 1, .int .i64 3, .int .i64 0, .int .i64 1, .int .i64 1, .int .i64 (-1), .int .i64 0, .int .i64 0] 23)) := (Below.refl _ _).alloc (Nat.le_refl _) _
  have hr1 : (w.alloc (.cells #[.int .i64 1, .int .i64 3, .int .i64 0, .int .i64 1, .int .i64 1, .int .i64 (-1), .int .i64 0, .int .i64 0] 23)).heap[w.heap.size]? = some (.cells #[.int .i64 1, .int .i64 3, .int .i64 0, .int .i64 1, .int .i64 1, .int .i64 (-1), .int .i64 0, .int .i64 0] 23 (0, 0)) := heap_alloc_last _ _
  have hs0 : (w.alloc (.cells #[.int .i64 1, .int .i64 3, .int .i64 0, .int .i64 1, .int .i64 1, .int .i64 (-1), .int .i64 0, .int .i64 0] 23)).heap.size = w.heap.size + 1 := by simp
  have q1 := encode_ok sup1 (w.alloc (.cells #[.int .i64 1, .int .i64 3, .int .i64 0, .int .i64 1, .int .i64 1, .int .i64 (-1), .int .i64 0, .int .i64 0] 23)) sup1_right (hA.over hb0).tabs (hA.over hb0).wid
  have hA0 := Lib.hid (hA.over hb0)
  have hl := encL_length sup1.nums
  have hsm := encL_small sup1.nums
  have henc := sup1_enc
  have hhead := congrArg strL sup1_head
  rw [key_str] at hhead
  generalize encL sup1.nums = l at *
  clear hA
  go_enter Tryd.func13, Tryd.ntmps13
  go_wp2_with fail
  generalize w.alloc (.cells #[.int .i64 1, .int .i64 3, .int .i64 0, .int .i64 1, .int .i64 1, .int .i64 (-1), .int .i64 0, .int .i64 0] 23) = W0 at *
  refine q1.mono ?_
  clear q1
  rintro e w1 ⟨g, rfl, hown, hb1⟩
  have hA1 := hA0.out.over hb1
  have hrd1 := Reads.of_own hown
  have hr1' := (hb1.block _ (by omega)).trans hr1
  have hb01 := hb0.trans (hb1.mono (by omega))
  have hlt1 : w.heap.size < w1.heap.size := by have := hb1.size; omega
  have q2 := decode_is (some ⟨g, 0, none⟩) 128 l hsm w1 hrd1 hA1.tabs hA1.wid
  rw [henc.1, henc.2] at q2
  clear hA0 hown hb1 hr1 hs0 hb0
  go_wp2_with fail
  refine q2.mono ?_
  clear q2
  rintro e w2 ⟨rfl, hb2⟩
  have hA2 := hA1.over hb2
  have hrd2 := reads_over hrd1 hb2
  have hr2 := (hb2.block _ hlt1).trans hr1'
  have hb02 := hb01.trans (hb2.mono (Nat.le_of_lt hlt1))
  have hlt2 : w.heap.size < w2.heap.size := by have := hb2.size; omega
  clear hA1 hrd1 hr1' hb2 hb01 hlt1
  have hbx : Below w2.heap.size w2 (w2.alloc (.cells #[.int .i64 1, .int .i64 3, .int .i64 0, .int .i64 1, .int .i64 1, .int .i64 (-1), .int .i64 0, .int .i64 0] 23)) := (Below.refl _ _).alloc (Nat.le_refl _) _
  have hrt : (w2.alloc (.cells #[.int .i64 1, .int .i64 3, .int .i64 0, .int .i64 1, .int .i64 1, .int .i64 (-1), .int .i64 0, .int .i64 0] 23)).heap[w2.heap.size]? = some (.cells #[.int .i64 1, .int .i64 3, .int .i64 0, .int .i64 1, .int .i64 1, .int .i64 (-1), .int .i64 0, .int .i64 0] 23 (0, 0)) := heap_alloc_last _ _
  have hsx : (w2.alloc (.cells #[.int .i64 1, .int .i64 3, .int .i64 0, .int .i64 1, .int .i64 1, .int .i64 (-1), .int .i64 0, .int .i64 0] 23)).heap.size = w2.heap.size + 1 := by simp
  have q3 := decode_len none 0 0 (w2.alloc (.cells #[.int .i64 1, .int .i64 3, .int .i64 0, .int .i64 1, .int .i64 1, .int .i64 (-1), .int .i64 0, .int .i64 0] 23)) (by decide) (by decide)
  simp only [Sup.val, Sup.cells, sup1]
  go_wp2_with fail
  generalize w2.alloc (.cells #[.int .i64 1, .int .i64 3, .int .i64 0, .int .i64 1, .int .i64 1, .int .i64 (-1), .int .i64 0, .int .i64 0] 23) = W2 at *
  refine q3.mono ?_
  clear q3
  rintro e w3 ⟨rfl, hb3⟩
  simp only [Sup.val, Sup.cells, sup0]
  have hrd3 := reads_over (reads_over hrd2 hbx) hb3
  have hr3 := (hb3.block _ (by omega)).trans ((hbx.block _ hlt2).trans hr2)
  have ht3 := (hb3.block _ (by omega)).trans hrt
  have hb03 := (hb02.trans (hbx.mono (Nat.le_of_lt hlt2))).trans (hb3.mono (by omega))
  have hlt3 : w2.heap.size < w3.heap.size := by have := hb3.size; omega
  clear hrd2 hr2 hrt hbx hb3 hb02 hsx hA2
  have hb4 : Below w3.heap.size w3 (w3.alloc (.cells #[.int .i64 0, .int .i64 0, .int .i64 0, .int .i64 0, .int .i64 0, .int .i64 0, .int .i64 0, .int .i64 0] 23)) := (Below.refl _ _).alloc (Nat.le_refl _) _
  have hrd4 := reads_over hrd3 hb4
  have hr4 := (hb4.block _ (by omega)).trans hr3
  have ht4 := (hb4.block _ (by omega)).trans ht3
  have hb04 := hb03.trans (hb4.mono (by omega))
  have hlt4 : w.heap.size < (w3.alloc (.cells #[.int .i64 0, .int .i64 0, .int .i64 0, .int .i64 0, .int .i64 0, .int .i64 0, .int .i64 0, .int .i64 0] 23)).heap.size := by have := hb4.size; omega
  clear hrd3 hr3 ht3 hb03 hb4 hlt3
  have hcs := run_str 128 (reads_part (m := 20) hrd4 (by decide))
  rw [hhead] at hcs
  obtain ⟨k0, k1, k2, k3, k4, k5, k6, k7, _⟩ := cells8_of hr4
  obtain ⟨m0, m1, m2, m3, m4, m5, m6, m7, _⟩ := cells8_of ht4
  have Hb04 := Lib.hid hb04
  have Hle := Lib.hid (Nat.le_of_lt hlt4)
  clear hr4 ht4 hrd4 hb04 hlt4 hlt2 hl hsm henc hhead
  go_wp2_with (first
    | (go_at_call 18; refine (slot_any 3 _ (by decide) (by decide)).mono ?_; rintro e w' ⟨rfl, rfl⟩)
    | (go_at_call 14; refine (QR.out _).mono ?_; rintro e w9 ⟨rfl, hb9⟩))
  go_ret
  exact ⟨rfl, Hb04.out.trans (hb9.mono Hle.out)⟩
end Go.Proofs.YtceebcaeodmllaaDoor.S
