/-
  The contract of the definition's Decode: it tells what the program's tells.
  Conditions: what comes in reads as bytes.
-/
import Derived.Test.YtceebcaeodmllaaDoorSo
namespace Go.Proofs.YtceebcaeodmllaaDoor.S
open Go.RowKit

def nm (l : List Nat) (j : Nat) : Int := if numAt l j > 4611686018427387904 then -1 else (numAt l j : Int)
def refSup (l : List Nat) : Sup := ⟨nm l 0, nm l 1, nm l 2, nm l 5, nm l 3, if nm l 4 = 255 then -1 else nm l 4, nm l 6, nm l 7⟩
theorem nm_is {l : List Nat} (hs : Small l) (j : Nat) (hj : widL.getD j 0 ≤ 4) : nm l j = (numAt l j : Int) := by
  have h := numAt_lt hs j
  have h2 : 2 ^ (8 * widL.getD j 0) ≤ 2 ^ 32 := Nat.pow_le_pow_right (by decide) (by omega)
  unfold nm
  rw [if_neg (by omega)]
theorem refSup_right {l : List Nat} (hs : Small l) : ((supOf l).right = true → refSup l = supOf l) ∧ (refSup l).right = (supOf l).right := by
  have e1 := nm_is hs 1 (by decide)
  have e2 := nm_is hs 2 (by decide)
  have e3 := nm_is hs 3 (by decide)
  have e4 := nm_is hs 4 (by decide)
  have e5 := nm_is hs 5 (by decide)
  have e6 := nm_is hs 6 (by decide)
  have e7 := nm_is hs 7 (by decide)
  have h0 : numAt l 0 < 2 ^ 64 := numAt_lt hs 0
  have h4 : numAt l 4 < 2 ^ 8 := numAt_lt hs 4
  have w0 : IntKind.i64.wrap ((numAt l 0 : Nat) : Int) = if numAt l 0 < 9223372036854775808 then (numAt l 0 : Int) else (numAt l 0 : Int) - 18446744073709551616 := by
    rw [IntKind.wrap_i64]; split <;> omega
  have w4 : IntKind.i8.wrap ((numAt l 4 : Nat) : Int) = if numAt l 4 < 128 then (numAt l 4 : Int) else (numAt l 4 : Int) - 256 := by
    simp [IntKind.wrap, IntKind.bits, IntKind.signed]
    split <;> omega
  have key : (refSup l = supOf l) ∨ ((supOf l).right = false ∧ (refSup l).right = false) := by
    by_cases g0 : numAt l 0 > 4611686018427387904
    · right
      constructor
      · cases hr : (supOf l).right
        · rfl
        · have h := (right_parts hr).1
          have : (supOf l).gen = IntKind.i64.wrap ((numAt l 0 : Nat) : Int) := rfl
          rw [this, w0] at h
          split at h <;> omega
      · cases hr : (refSup l).right
        · rfl
        · have h := (right_parts hr).1
          have : (refSup l).gen = nm l 0 := rfl
          rw [this, nm, if_pos g0] at h
          omega
    · have e0 : nm l 0 = (numAt l 0 : Int) := by unfold nm; rw [if_neg g0]
      have f0 : IntKind.i64.wrap ((numAt l 0 : Nat) : Int) = (numAt l 0 : Int) := by rw [w0, if_pos (by omega)]
      by_cases g4 : numAt l 4 < 128 ∨ numAt l 4 = 255
      · left
        unfold refSup supOf
        rw [e0, e1, e2, e3, e4, e5, e6, e7, f0, w4]
        rcases g4 with g4 | g4
        · rw [if_neg (by omega), if_pos g4]
        · rw [if_pos (by omega), if_neg (by omega), g4]
          rfl
      · right
        constructor
        · cases hr : (supOf l).right
          · rfl
          · have h := (right_parts hr).2.2.2.2.2.1
            have : (supOf l).spare = IntKind.i8.wrap ((numAt l 4 : Nat) : Int) := rfl
            rw [this, w4, if_neg (by omega)] at h
            omega
        · cases hr : (refSup l).right
          · rfl
          · have h := (right_parts hr).2.2.2.2.2.1
            have h1 := (right_parts hr).2.1
            have : (refSup l).spare = if nm l 4 = 255 then -1 else nm l 4 := rfl
            rw [this, e4, if_neg (by omega)] at h
            omega
  rcases key with h | ⟨h1, h2⟩
  · exact ⟨fun _ => h, by rw [h]⟩
  · exact ⟨fun h => (by rw [h1] at h; cases h), by rw [h1, h2]⟩
theorem told_ref {l : List Nat} (hs : Small l) : toldOf l = (if ((refSup l).right && (encL (refSup l).nums == l)) then refSup l else sup0) ∧ codeD l = (if ((refSup l).right && (encL (refSup l).nums == l)) then 0 else 8) := by
  have hrr := refSup_right hs
  cases h : (supOf l).right
  · have hr2 : (refSup l).right = false := by rw [hrr.2, h]
    have ho : okD l = false := by unfold okD; rw [h, Bool.false_and]
    unfold toldOf codeD
    rw [ho, hr2, Bool.false_and]
    constructor <;> simp only [Bool.false_eq_true, if_false]
  · have e := hrr.1 h
    unfold toldOf codeD okD
    rw [e]
    exact ⟨rfl, rfl⟩
theorem str_eq {l k : List Nat} (hl : Small l) (hk : Small k) : ((strL k).toList == (strL l).toList) = (k == l) := by
  rw [ByteArray.toList_eq, ByteArray.toList_eq]
  by_cases h : k = l
  · subst h; simp
  · have h2 : (strL k).data.toList ≠ (strL l).data.toList := fun e => h (strL_inj hk hl (by
      have e2 : (strL k).data = (strL l).data := Array.ext' e
      cases hA : strL k
      cases hB : strL l
      rw [hA, hB] at e2
      simp only at e2
      rw [e2]))
    rw [beq_eq_false_iff_ne.2 h]
    exact beq_eq_false_iff_ne.2 h2

set_option maxRecDepth 20000 in
set_option maxHeartbeats 1000000 in
theorem refDecode_len (A : Option Addr) (n c : Nat) (w : World) (hn : n ≠ 128) :
    Calls Tryd.prog 12 #[.slice A n c] w (Decoded w sup0 8) := by
  have hq : ((n : Int) == 128) = false := by rw [beq_eq_false_iff_ne]; omega
  have hblk : (w.alloc (.cells #[.int .i64 0, .int .i64 0, .int .i64 0, .int .i64 0, .int .i64 0, .int .i64 0, .int .i64 0, .int .i64 0] 23)).heap[w.heap.size]? = some (.cells #[.int .i64 0, .int .i64 0, .int .i64 0, .int .i64 0, .int .i64 0, .int .i64 0, .int .i64 0, .int .i64 0] 23 (0, 0)) := heap_alloc_last _ _
  have hb : Below w.heap.size w (w.alloc (.cells #[.int .i64 0, .int .i64 0, .int .i64 0, .int .i64 0, .int .i64 0, .int .i64 0, .int .i64 0, .int .i64 0] 23)) := (Below.refl _ _).alloc (Nat.le_refl _) _
  have hlv := run_loadVar_row (P := Tryd.prog) _ w.heap.size 23 23 _ (0, 0) _ hblk Tryd.underlying23 rfl info_sup
  have HB5 := Lib.hid hb
  have HLV := Lib.hid hlv
  clear hlv hblk hb hn
  go_enter Tryd.func12, Tryd.ntmps12
  go_wp2_with fail
  refine bodyPost_ret (results_cell2 (g := w.heap.size) Tryd.results12 rfl HLV.out rfl) rfl ?_
  exact ⟨rfl, HB5.out⟩

set_option maxRecDepth 100000 in
set_option maxHeartbeats 8000000 in
theorem refDecode_is (A : Option Addr) (c : Nat) (l : List Nat) (hs : Small l) (w : World) (hr : Reads w w.heap.size A 128 (bts l)) :
    Calls Tryd.prog 12 #[.slice A 128 c] w (Decoded w (toldOf l) (codeD l)) := by
  have hrr := refSup_right hs
  have hsk := encL_small (refSup l).nums
  have hst := str_eq hs hsk
  have QO := Lib.hid (refEncode_ok (refSup l))
  have QN := Lib.hid (refEncode_no (refSup l))
  have HD : Hid (toldOf l = (if ((refSup l).right && (encL (refSup l).nums == l)) then refSup l else sup0) ∧ codeD l = (if ((refSup l).right && (encL (refSup l).nums == l)) then 0 else 8)) := Lib.hid (told_ref hs)
  have b0 : Below w.heap.size w (w.alloc (.cells #[.int .i64 0, .int .i64 0, .int .i64 0, .int .i64 0, .int .i64 0, .int .i64 0, .int .i64 0, .int .i64 0] 23)) := (Below.refl _ _).alloc (Nat.le_refl _) _
  have r0 : (w.alloc (.cells #[.int .i64 0, .int .i64 0, .int .i64 0, .int .i64 0, .int .i64 0, .int .i64 0, .int .i64 0, .int .i64 0] 23)).heap[w.heap.size]? = some (.cells #[.int .i64 0, .int .i64 0, .int .i64 0, .int .i64 0, .int .i64 0, .int .i64 0, .int .i64 0, .int .i64 0] 23 (0, 0)) := heap_alloc_last _ _
  have s0 : (w.alloc (.cells #[.int .i64 0, .int .i64 0, .int .i64 0, .int .i64 0, .int .i64 0, .int .i64 0, .int .i64 0, .int .i64 0] 23)).heap.size = w.heap.size + 1 := by simp
  have d0 := reads_over hr b0
  have q0 := Lib.hid (show Calls Tryd.prog 24 #[.slice A 128 c, .int .i64 4, .int .i64 8] (w.alloc (.cells #[.int .i64 0, .int .i64 0, .int .i64 0, .int .i64 0, .int .i64 0, .int .i64 0, .int .i64 0, .int .i64 0] 23)) (fun e w' => e = .returned (.int .i64 (nm l 0)) ∧ (w.alloc (.cells #[.int .i64 0, .int .i64 0, .int .i64 0, .int .i64 0, .int .i64 0, .int .i64 0, .int .i64 0, .int .i64 0] 23)) = w') from number_any A c _ l 0 (by decide) _ hs d0)
  have q1 := Lib.hid (show Calls Tryd.prog 24 #[.slice A 128 c, .int .i64 12, .int .i64 1] (w.alloc (.cells #[.int .i64 0, .int .i64 0, .int .i64 0, .int .i64 0, .int .i64 0, .int .i64 0, .int .i64 0, .int .i64 0] 23)) (fun e w' => e = .returned (.int .i64 (nm l 1)) ∧ (w.alloc (.cells #[.int .i64 0, .int .i64 0, .int .i64 0, .int .i64 0, .int .i64 0, .int .i64 0, .int .i64 0, .int .i64 0] 23)) = w') from number_any A c _ l 1 (by decide) _ hs d0)
  have q2 := Lib.hid (show Calls Tryd.prog 24 #[.slice A 128 c, .int .i64 13, .int .i64 1] (w.alloc (.cells #[.int .i64 0, .int .i64 0, .int .i64 0, .int .i64 0, .int .i64 0, .int .i64 0, .int .i64 0, .int .i64 0] 23)) (fun e w' => e = .returned (.int .i64 (nm l 2)) ∧ (w.alloc (.cells #[.int .i64 0, .int .i64 0, .int .i64 0, .int .i64 0, .int .i64 0, .int .i64 0, .int .i64 0, .int .i64 0] 23)) = w') from number_any A c _ l 2 (by decide) _ hs d0)
  have q3 := Lib.hid (show Calls Tryd.prog 24 #[.slice A 128 c, .int .i64 14, .int .i64 1] (w.alloc (.cells #[.int .i64 0, .int .i64 0, .int .i64 0, .int .i64 0, .int .i64 0, .int .i64 0, .int .i64 0, .int .i64 0] 23)) (fun e w' => e = .returned (.int .i64 (nm l 3)) ∧ (w.alloc (.cells #[.int .i64 0, .int .i64 0, .int .i64 0, .int .i64 0, .int .i64 0, .int .i64 0, .int .i64 0, .int .i64 0] 23)) = w') from number_any A c _ l 3 (by decide) _ hs d0)
  have q4 := Lib.hid (show Calls Tryd.prog 24 #[.slice A 128 c, .int .i64 15, .int .i64 1] (w.alloc (.cells #[.int .i64 0, .int .i64 0, .int .i64 0, .int .i64 0, .int .i64 0, .int .i64 0, .int .i64 0, .int .i64 0] 23)) (fun e w' => e = .returned (.int .i64 (nm l 4)) ∧ (w.alloc (.cells #[.int .i64 0, .int .i64 0, .int .i64 0, .int .i64 0, .int .i64 0, .int .i64 0, .int .i64 0, .int .i64 0] 23)) = w') from number_any A c _ l 4 (by decide) _ hs d0)
  have q5 := Lib.hid (show Calls Tryd.prog 24 #[.slice A 128 c, .int .i64 16, .int .i64 4] (w.alloc (.cells #[.int .i64 0, .int .i64 0, .int .i64 0, .int .i64 0, .int .i64 0, .int .i64 0, .int .i64 0, .int .i64 0] 23)) (fun e w' => e = .returned (.int .i64 (nm l 5)) ∧ (w.alloc (.cells #[.int .i64 0, .int .i64 0, .int .i64 0, .int .i64 0, .int .i64 0, .int .i64 0, .int .i64 0, .int .i64 0] 23)) = w') from number_any A c _ l 5 (by decide) _ hs d0)
  have q6 := Lib.hid (show Calls Tryd.prog 24 #[.slice A 128 c, .int .i64 20, .int .i64 4] (w.alloc (.cells #[.int .i64 0, .int .i64 0, .int .i64 0, .int .i64 0, .int .i64 0, .int .i64 0, .int .i64 0, .int .i64 0] 23)) (fun e w' => e = .returned (.int .i64 (nm l 6)) ∧ (w.alloc (.cells #[.int .i64 0, .int .i64 0, .int .i64 0, .int .i64 0, .int .i64 0, .int .i64 0, .int .i64 0, .int .i64 0] 23)) = w') from number_any A c _ l 6 (by decide) _ hs d0)
  have q7 := Lib.hid (show Calls Tryd.prog 24 #[.slice A 128 c, .int .i64 24, .int .i64 4] (w.alloc (.cells #[.int .i64 0, .int .i64 0, .int .i64 0, .int .i64 0, .int .i64 0, .int .i64 0, .int .i64 0, .int .i64 0] 23)) (fun e w' => e = .returned (.int .i64 (nm l 7)) ∧ (w.alloc (.cells #[.int .i64 0, .int .i64 0, .int .i64 0, .int .i64 0, .int .i64 0, .int .i64 0, .int .i64 0, .int .i64 0] 23)) = w') from number_any A c _ l 7 (by decide) _ hs d0)
  have HRS : Hid (refSup l = ⟨nm l 0, nm l 1, nm l 2, nm l 5, nm l 3, if nm l 4 = 255 then -1 else nm l 4, nm l 6, nm l 7⟩) := Lib.hid rfl
  have hcs0 := Lib.hid hst
  clear hrr hst hr hs
  generalize encL (refSup l).nums = k at *
  generalize heb : (k == l) = eb at *
  generalize hrb : (refSup l).right = rb at *
  rw [HRS.out] at QO QN HD hrb
  clear HRS heb
  generalize nm l = N at *
  by_cases h255 : (N 4) = 255
  · have d255 : ((N 4) == 255) = true := by rw [beq_iff_eq]; exact h255
    rw [if_pos h255] at QO QN HD hrb
    clear h255
    go_enter Tryd.func12, Tryd.ntmps12
    go_wp2_with fail
    refine q0.out.mono ?_
    rintro e w' ⟨rfl, rfl⟩
    go_wp2_with fail
    refine q1.out.mono ?_
    rintro e w' ⟨rfl, rfl⟩
    go_wp2_with fail
    refine q2.out.mono ?_
    rintro e w' ⟨rfl, rfl⟩
    go_wp2_with fail
    refine q3.out.mono ?_
    rintro e w' ⟨rfl, rfl⟩
    go_wp2_with fail
    refine q4.out.mono ?_
    rintro e w' ⟨rfl, rfl⟩
    go_wp2_with fail
    refine q5.out.mono ?_
    rintro e w' ⟨rfl, rfl⟩
    go_wp2_with fail
    refine q6.out.mono ?_
    rintro e w' ⟨rfl, rfl⟩
    go_wp2_with fail
    refine q7.out.mono ?_
    rintro e w' ⟨rfl, rfl⟩
    have r1 : ((w.alloc (.cells #[.int .i64 0, .int .i64 0, .int .i64 0, .int .i64 0, .int .i64 0, .int .i64 0, .int .i64 0, .int .i64 0] 23)).alloc (.cells #[.int .i64 (N 0), .int .i64 (N 1), .int .i64 (N 2), .int .i64 (N 5), .int .i64 (N 3), .int .i64 (-1), .int .i64 (N 6), .int .i64 (N 7)] 23)).heap[w.heap.size + 1]? = some (.cells #[.int .i64 (N 0), .int .i64 (N 1), .int .i64 (N 2), .int .i64 (N 5), .int .i64 (N 3), .int .i64 (-1), .int .i64 (N 6), .int .i64 (N 7)] 23 (0, 0)) := by rw [← s0]; exact heap_alloc_last _ _
    have b1 : Below (w.heap.size + 1) (w.alloc (.cells #[.int .i64 0, .int .i64 0, .int .i64 0, .int .i64 0, .int .i64 0, .int .i64 0, .int .i64 0, .int .i64 0] 23)) ((w.alloc (.cells #[.int .i64 0, .int .i64 0, .int .i64 0, .int .i64 0, .int .i64 0, .int .i64 0, .int .i64 0, .int .i64 0] 23)).alloc (.cells #[.int .i64 (N 0), .int .i64 (N 1), .int .i64 (N 2), .int .i64 (N 5), .int .i64 (N 3), .int .i64 (-1), .int .i64 (N 6), .int .i64 (N 7)] 23)) := (Below.refl _ _).alloc (by omega) _
    have r1z := (b1.block w.heap.size (by omega)).trans r0
    have s1 : ((w.alloc (.cells #[.int .i64 0, .int .i64 0, .int .i64 0, .int .i64 0, .int .i64 0, .int .i64 0, .int .i64 0, .int .i64 0] 23)).alloc (.cells #[.int .i64 (N 0), .int .i64 (N 1), .int .i64 (N 2), .int .i64 (N 5), .int .i64 (N 3), .int .i64 (-1), .int .i64 (N 6), .int .i64 (N 7)] 23)).heap.size = w.heap.size + 2 := by simp
    have d1 := reads_over d0 ((Below.refl _ (w.alloc (.cells #[.int .i64 0, .int .i64 0, .int .i64 0, .int .i64 0, .int .i64 0, .int .i64 0, .int .i64 0, .int .i64 0] 23))).alloc (Nat.le_refl _) (.cells #[.int .i64 (N 0), .int .i64 (N 1), .int .i64 (N 2), .int .i64 (N 5), .int .i64 (N 3), .int .i64 (-1), .int .i64 (N 6), .int .i64 (N 7)] 23))
    have bb1 := b0.trans (b1.mono (by omega))
    clear b1 d0 r0 s0 b0 q0 q1 q2 q3 q4 q5 q6 q7
    cases rb
    · have qn := QN.out ((w.alloc (.cells #[.int .i64 0, .int .i64 0, .int .i64 0, .int .i64 0, .int .i64 0, .int .i64 0, .int .i64 0, .int .i64 0] 23)).alloc (.cells #[.int .i64 (N 0), .int .i64 (N 1), .int .i64 (N 2), .int .i64 (N 5), .int .i64 (N 3), .int .i64 (-1), .int .i64 (N 6), .int .i64 (N 7)] 23)) rfl
      clear QN QO
      simp only [Sup.val, Sup.cells] at qn
      go_wp2_with fail
      refine qn.mono ?_
      rintro e w2 ⟨rfl, b2⟩
      have r2z := (b2.block w.heap.size (by omega)).trans r1z
      have bb2 := bb1.trans (b2.mono (by omega))
      clear qn b2 r1z bb1 r1 d1
      obtain ⟨k0, k1, k2, k3, k4, k5, k6, k7, f0, f1, f2, f3, f4, f5, f6, f7⟩ := cells8_of r2z
      have st0 := store0 r2z (.int .i64 0) (by rfl)
      have HROW := put8_row r2z (.int .i64 0) (.int .i64 0) (.int .i64 0) (.int .i64 0) (.int .i64 0) (.int .i64 0) (.int .i64 0) (.int .i64 0)
      have HLV := Lib.hid (run_loadVar_row (P := Tryd.prog) _ w.heap.size 23 23 _ (0, 0) _ HROW Tryd.underlying23 rfl info_sup)
      have HBE := Lib.hid (put8_below (g := w.heap.size) bb2 (Nat.le_refl _) (.int .i64 0) (.int .i64 0) (.int .i64 0) (.int .i64 0) (.int .i64 0) (.int .i64 0) (.int .i64 0) (.int .i64 0))
      clear HROW
      clear r2z bb2
      go_wp2_with fail
      refine bodyPost_ret (results_cell2 (g := w.heap.size) Tryd.results12 rfl HLV.out rfl) rfl ?_
      exact ⟨by rw [HD.out.1, HD.out.2]; rfl, HBE.out⟩
    · have qo := QO.out ((w.alloc (.cells #[.int .i64 0, .int .i64 0, .int .i64 0, .int .i64 0, .int .i64 0, .int .i64 0, .int .i64 0, .int .i64 0] 23)).alloc (.cells #[.int .i64 (N 0), .int .i64 (N 1), .int .i64 (N 2), .int .i64 (N 5), .int .i64 (N 3), .int .i64 (-1), .int .i64 (N 6), .int .i64 (N 7)] 23)) rfl
      clear QN QO
      simp only [Sup.val, Sup.cells] at qo
      go_wp2_with fail
      refine qo.mono ?_
      rintro e w2 ⟨v2, rfl, hown2, b2⟩
      obtain ⟨A2, c2, rfl, hr2, _, _⟩ := own_shape hown2
      have cs1 := run_str c2 hr2
      have cs2 := run_str c (reads_over d1 b2)
      have hcs := hcs0.out
      have r2z := (b2.block w.heap.size (by omega)).trans r1z
      have r2t := (b2.block (w.heap.size + 1) (by omega)).trans r1
      have bb2 := bb1.trans (b2.mono (by omega))
      clear qo b2 r1z bb1 r1 d1 hown2 hr2 hcs0
      generalize strL k = sk at *
      generalize strL l = sl at *
      cases eb
      · obtain ⟨k0, k1, k2, k3, k4, k5, k6, k7, f0, f1, f2, f3, f4, f5, f6, f7⟩ := cells8_of r2z
        have st0 := store0 r2z (.int .i64 0) (by rfl)
        have HROW := put8_row r2z (.int .i64 0) (.int .i64 0) (.int .i64 0) (.int .i64 0) (.int .i64 0) (.int .i64 0) (.int .i64 0) (.int .i64 0)
        have HLV := Lib.hid (run_loadVar_row (P := Tryd.prog) _ w.heap.size 23 23 _ (0, 0) _ HROW Tryd.underlying23 rfl info_sup)
        have HBE := Lib.hid (put8_below (g := w.heap.size) bb2 (Nat.le_refl _) (.int .i64 0) (.int .i64 0) (.int .i64 0) (.int .i64 0) (.int .i64 0) (.int .i64 0) (.int .i64 0) (.int .i64 0))
        clear HROW
        clear r2z r2t bb2
        go_wp2_with fail
        refine bodyPost_ret (results_cell2 (g := w.heap.size) Tryd.results12 rfl HLV.out rfl) rfl ?_
        exact ⟨by rw [HD.out.1, HD.out.2]; rfl, HBE.out⟩
      · obtain ⟨j0, j1, j2, j3, j4, j5, j6, j7, _⟩ := cells8_of r2t
        obtain ⟨k0, k1, k2, k3, k4, k5, k6, k7, f0, f1, f2, f3, f4, f5, f6, f7⟩ := cells8_of r2z
        have st0 := store0 r2z (.int .i64 (N 0)) (by rfl)
        have HROW := put8_row r2z (.int .i64 (N 0)) (.int .i64 (N 1)) (.int .i64 (N 2)) (.int .i64 (N 5)) (.int .i64 (N 3)) (.int .i64 (-1)) (.int .i64 (N 6)) (.int .i64 (N 7))
        have HLV := Lib.hid (run_loadVar_row (P := Tryd.prog) _ w.heap.size 23 23 _ (0, 0) _ HROW Tryd.underlying23 rfl info_sup)
        have HBE := Lib.hid (put8_below (g := w.heap.size) bb2 (Nat.le_refl _) (.int .i64 (N 0)) (.int .i64 (N 1)) (.int .i64 (N 2)) (.int .i64 (N 5)) (.int .i64 (N 3)) (.int .i64 (-1)) (.int .i64 (N 6)) (.int .i64 (N 7)))
        clear HROW r2z r2t bb2
        go_wp2_with fail
        refine bodyPost_ret (results_cell2 (g := w.heap.size) Tryd.results12 rfl HLV.out rfl) rfl ?_
        exact ⟨by rw [HD.out.1, HD.out.2]; rfl, HBE.out⟩
  · have d255 : ((N 4) == 255) = false := by rw [beq_eq_false_iff_ne]; exact h255
    rw [if_neg h255] at QO QN HD hrb
    clear h255
    go_enter Tryd.func12, Tryd.ntmps12
    go_wp2_with fail
    refine q0.out.mono ?_
    rintro e w' ⟨rfl, rfl⟩
    go_wp2_with fail
    refine q1.out.mono ?_
    rintro e w' ⟨rfl, rfl⟩
    go_wp2_with fail
    refine q2.out.mono ?_
    rintro e w' ⟨rfl, rfl⟩
    go_wp2_with fail
    refine q3.out.mono ?_
    rintro e w' ⟨rfl, rfl⟩
    go_wp2_with fail
    refine q4.out.mono ?_
    rintro e w' ⟨rfl, rfl⟩
    go_wp2_with fail
    refine q5.out.mono ?_
    rintro e w' ⟨rfl, rfl⟩
    go_wp2_with fail
    refine q6.out.mono ?_
    rintro e w' ⟨rfl, rfl⟩
    go_wp2_with fail
    refine q7.out.mono ?_
    rintro e w' ⟨rfl, rfl⟩
    have r1 : ((w.alloc (.cells #[.int .i64 0, .int .i64 0, .int .i64 0, .int .i64 0, .int .i64 0, .int .i64 0, .int .i64 0, .int .i64 0] 23)).alloc (.cells #[.int .i64 (N 0), .int .i64 (N 1), .int .i64 (N 2), .int .i64 (N 5), .int .i64 (N 3), .int .i64 (N 4), .int .i64 (N 6), .int .i64 (N 7)] 23)).heap[w.heap.size + 1]? = some (.cells #[.int .i64 (N 0), .int .i64 (N 1), .int .i64 (N 2), .int .i64 (N 5), .int .i64 (N 3), .int .i64 (N 4), .int .i64 (N 6), .int .i64 (N 7)] 23 (0, 0)) := by rw [← s0]; exact heap_alloc_last _ _
    have b1 : Below (w.heap.size + 1) (w.alloc (.cells #[.int .i64 0, .int .i64 0, .int .i64 0, .int .i64 0, .int .i64 0, .int .i64 0, .int .i64 0, .int .i64 0] 23)) ((w.alloc (.cells #[.int .i64 0, .int .i64 0, .int .i64 0, .int .i64 0, .int .i64 0, .int .i64 0, .int .i64 0, .int .i64 0] 23)).alloc (.cells #[.int .i64 (N 0), .int .i64 (N 1), .int .i64 (N 2), .int .i64 (N 5), .int .i64 (N 3), .int .i64 (N 4), .int .i64 (N 6), .int .i64 (N 7)] 23)) := (Below.refl _ _).alloc (by omega) _
    have r1z := (b1.block w.heap.size (by omega)).trans r0
    have s1 : ((w.alloc (.cells #[.int .i64 0, .int .i64 0, .int .i64 0, .int .i64 0, .int .i64 0, .int .i64 0, .int .i64 0, .int .i64 0] 23)).alloc (.cells #[.int .i64 (N 0), .int .i64 (N 1), .int .i64 (N 2), .int .i64 (N 5), .int .i64 (N 3), .int .i64 (N 4), .int .i64 (N 6), .int .i64 (N 7)] 23)).heap.size = w.heap.size + 2 := by simp
    have d1 := reads_over d0 ((Below.refl _ (w.alloc (.cells #[.int .i64 0, .int .i64 0, .int .i64 0, .int .i64 0, .int .i64 0, .int .i64 0, .int .i64 0, .int .i64 0] 23))).alloc (Nat.le_refl _) (.cells #[.int .i64 (N 0), .int .i64 (N 1), .int .i64 (N 2), .int .i64 (N 5), .int .i64 (N 3), .int .i64 (N 4), .int .i64 (N 6), .int .i64 (N 7)] 23))
    have bb1 := b0.trans (b1.mono (by omega))
    clear b1 d0 r0 s0 b0 q0 q1 q2 q3 q4 q5 q6 q7
    cases rb
    · have qn := QN.out ((w.alloc (.cells #[.int .i64 0, .int .i64 0, .int .i64 0, .int .i64 0, .int .i64 0, .int .i64 0, .int .i64 0, .int .i64 0] 23)).alloc (.cells #[.int .i64 (N 0), .int .i64 (N 1), .int .i64 (N 2), .int .i64 (N 5), .int .i64 (N 3), .int .i64 (N 4), .int .i64 (N 6), .int .i64 (N 7)] 23)) rfl
      clear QN QO
      simp only [Sup.val, Sup.cells] at qn
      go_wp2_with fail
      refine qn.mono ?_
      rintro e w2 ⟨rfl, b2⟩
      have r2z := (b2.block w.heap.size (by omega)).trans r1z
      have bb2 := bb1.trans (b2.mono (by omega))
      clear qn b2 r1z bb1 r1 d1
      obtain ⟨k0, k1, k2, k3, k4, k5, k6, k7, f0, f1, f2, f3, f4, f5, f6, f7⟩ := cells8_of r2z
      have st0 := store0 r2z (.int .i64 0) (by rfl)
      have HROW := put8_row r2z (.int .i64 0) (.int .i64 0) (.int .i64 0) (.int .i64 0) (.int .i64 0) (.int .i64 0) (.int .i64 0) (.int .i64 0)
      have HLV := Lib.hid (run_loadVar_row (P := Tryd.prog) _ w.heap.size 23 23 _ (0, 0) _ HROW Tryd.underlying23 rfl info_sup)
      have HBE := Lib.hid (put8_below (g := w.heap.size) bb2 (Nat.le_refl _) (.int .i64 0) (.int .i64 0) (.int .i64 0) (.int .i64 0) (.int .i64 0) (.int .i64 0) (.int .i64 0) (.int .i64 0))
      clear HROW
      clear r2z bb2
      go_wp2_with fail
      refine bodyPost_ret (results_cell2 (g := w.heap.size) Tryd.results12 rfl HLV.out rfl) rfl ?_
      exact ⟨by rw [HD.out.1, HD.out.2]; rfl, HBE.out⟩
    · have qo := QO.out ((w.alloc (.cells #[.int .i64 0, .int .i64 0, .int .i64 0, .int .i64 0, .int .i64 0, .int .i64 0, .int .i64 0, .int .i64 0] 23)).alloc (.cells #[.int .i64 (N 0), .int .i64 (N 1), .int .i64 (N 2), .int .i64 (N 5), .int .i64 (N 3), .int .i64 (N 4), .int .i64 (N 6), .int .i64 (N 7)] 23)) rfl
      clear QN QO
      simp only [Sup.val, Sup.cells] at qo
      go_wp2_with fail
      refine qo.mono ?_
      rintro e w2 ⟨v2, rfl, hown2, b2⟩
      obtain ⟨A2, c2, rfl, hr2, _, _⟩ := own_shape hown2
      have cs1 := run_str c2 hr2
      have cs2 := run_str c (reads_over d1 b2)
      have hcs := hcs0.out
      have r2z := (b2.block w.heap.size (by omega)).trans r1z
      have r2t := (b2.block (w.heap.size + 1) (by omega)).trans r1
      have bb2 := bb1.trans (b2.mono (by omega))
      clear qo b2 r1z bb1 r1 d1 hown2 hr2 hcs0
      generalize strL k = sk at *
      generalize strL l = sl at *
      cases eb
      · obtain ⟨k0, k1, k2, k3, k4, k5, k6, k7, f0, f1, f2, f3, f4, f5, f6, f7⟩ := cells8_of r2z
        have st0 := store0 r2z (.int .i64 0) (by rfl)
        have HROW := put8_row r2z (.int .i64 0) (.int .i64 0) (.int .i64 0) (.int .i64 0) (.int .i64 0) (.int .i64 0) (.int .i64 0) (.int .i64 0)
        have HLV := Lib.hid (run_loadVar_row (P := Tryd.prog) _ w.heap.size 23 23 _ (0, 0) _ HROW Tryd.underlying23 rfl info_sup)
        have HBE := Lib.hid (put8_below (g := w.heap.size) bb2 (Nat.le_refl _) (.int .i64 0) (.int .i64 0) (.int .i64 0) (.int .i64 0) (.int .i64 0) (.int .i64 0) (.int .i64 0) (.int .i64 0))
        clear HROW
        clear r2z r2t bb2
        go_wp2_with fail
        refine bodyPost_ret (results_cell2 (g := w.heap.size) Tryd.results12 rfl HLV.out rfl) rfl ?_
        exact ⟨by rw [HD.out.1, HD.out.2]; rfl, HBE.out⟩
      · obtain ⟨j0, j1, j2, j3, j4, j5, j6, j7, _⟩ := cells8_of r2t
        obtain ⟨k0, k1, k2, k3, k4, k5, k6, k7, f0, f1, f2, f3, f4, f5, f6, f7⟩ := cells8_of r2z
        have st0 := store0 r2z (.int .i64 (N 0)) (by rfl)
        have HROW := put8_row r2z (.int .i64 (N 0)) (.int .i64 (N 1)) (.int .i64 (N 2)) (.int .i64 (N 5)) (.int .i64 (N 3)) (.int .i64 (N 4)) (.int .i64 (N 6)) (.int .i64 (N 7))
        have HLV := Lib.hid (run_loadVar_row (P := Tryd.prog) _ w.heap.size 23 23 _ (0, 0) _ HROW Tryd.underlying23 rfl info_sup)
        have HBE := Lib.hid (put8_below (g := w.heap.size) bb2 (Nat.le_refl _) (.int .i64 (N 0)) (.int .i64 (N 1)) (.int .i64 (N 2)) (.int .i64 (N 5)) (.int .i64 (N 3)) (.int .i64 (N 4)) (.int .i64 (N 6)) (.int .i64 (N 7)))
        clear HROW r2z r2t bb2
        go_wp2_with fail
        refine bodyPost_ret (results_cell2 (g := w.heap.size) Tryd.results12 rfl HLV.out rfl) rfl ?_
        exact ⟨by rw [HD.out.1, HD.out.2]; rfl, HBE.out⟩
end Go.Proofs.YtceebcaeodmllaaDoor.S
