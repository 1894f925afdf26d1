/-
  The definition's power, what a disk refuses, and what a sector surely has.
  Conditions: the definition's shelf lies in memory.
-/
import Derived.Test.YtbkcdomapdflaaaKa
namespace Go.Proofs.Ytbkcdomapdflaaa.Sh
open Go.RowKit Go.Maps

theorem roff_any {w : World} {q D : Nat} {S : Sf} {F : Nat → Prop} {gs : Nat → Gr} {Ls : Nat → List (Nat × Bs)} {st : Bool} {l : Int} (h : RefIs w q S F D gs Ls st l) :
    Calls Try.prog 39 #[.pointer (some ⟨q, 0, none⟩)] w fun e w' => e = .returned (.bool S.off) ∧ w = w' := by
  have c3 := h.c3
  have c4 := h.c4
  have hp := h.pow
  clear h
  cases st
  · have ho : S.off = false := by
      have := hp.st_
      cases h : S.off
      · rfl
      · rw [h] at this; cases this
    rw [ho]
    clear hp ho
    go_enter Try.func39, Try.ntmps39
    go_wp2
    go_ret
    exact ⟨rfl, rfl⟩
  · have hl := hp.l_ rfl
    cases ho : S.off
    · have h0 : 0 < S.left := by
        have := hp.st_
        rw [ho] at this
        simpa using this.symm
      have hq : (l == 0) = false := by rw [beq_eq_false_iff_ne]; omega
      clear hp ho hl h0
      go_enter Try.func39, Try.ntmps39
      go_wp2
      go_ret
      exact ⟨rfl, rfl⟩
    · have h0 := hp.off ho
      have hq : (l == 0) = true := by rw [beq_iff_eq]; omega
      clear hp ho hl h0
      go_enter Try.func39, Try.ntmps39
      go_wp2
      go_ret
      exact ⟨rfl, rfl⟩
theorem rwhy_any {w : World} {q D : Nat} {S : Sf} {F : Nat → Prop} {gs : Nat → Gr} {Ls : Nat → List (Nat × Bs)} {st : Bool} {l : Int} (h : RefIs w q S F D gs Ls st l) (d : Nat) (hd : d < S.disks.length) {y : Int} (hy : why S d = y) :
    Calls Try.prog 48 #[.pointer (some ⟨q, 0, none⟩), .int .i64 d] w fun e w' => e = .returned (.int .i64 y) ∧ w = w' := by
  have HO := Lib.hid (roff_any h)
  have c0 := h.c0
  have k3 := h.dc hd (c := 3) (by decide)
  have hm := h.most
  clear h
  unfold why at hy
  generalize S.off = off at *
  simp only [diskR] at k3
  generalize (S.disks.getD d default).dead = dead at *
  generalize S.disks.length = k at *
  cases off
  · rw [if_neg (by decide)] at hy
    cases dead
    · obtain rfl : 0 = y := hy
      go_enter Try.func48, Try.ntmps48
      go_wp2_with (go_at_call 39; refine HO.out.mono ?_; rintro e w' ⟨rfl, rfl⟩)
      go_ret
      exact ⟨rfl, rfl⟩
    · obtain rfl : 4 = y := hy
      go_enter Try.func48, Try.ntmps48
      go_wp2_with (go_at_call 39; refine HO.out.mono ?_; rintro e w' ⟨rfl, rfl⟩)
      go_ret
      exact ⟨rfl, rfl⟩
  · obtain rfl : 3 = y := hy
    go_enter Try.func48, Try.ntmps48
    go_wp2_with (go_at_call 39; refine HO.out.mono ?_; rintro e w' ⟨rfl, rfl⟩)
    go_ret
    exact ⟨rfl, rfl⟩
theorem rhas_yes {w : World} {q D : Nat} {S : Sf} {F : Nat → Prop} {gs : Nat → Gr} {Ls : Nat → List (Nat × Bs)} {st : Bool} {l : Int} (h : RefIs w q S F D gs Ls st l) (d n : Nat) (hd : d < S.disks.length) (hn : n < S.sectors) :
    Calls Try.prog 47 #[.pointer (some ⟨q, 0, none⟩), .int .i64 d, .int .i64 n] w fun e w' => e = .returned (.bool true) ∧ w = w' := by
  have c0 := h.c0
  have c1 := h.c1
  have hm := h.most
  have hs := h.secM
  clear h
  generalize S.disks.length = k at *
  generalize S.sectors = m at *
  go_enter Try.func47, Try.ntmps47
  go_wp2
  go_ret
  exact ⟨rfl, rfl⟩
theorem rhas_no {w : World} {q D : Nat} {S : Sf} {F : Nat → Prop} {gs : Nat → Gr} {Ls : Nat → List (Nat × Bs)} {st : Bool} {l : Int} (h : RefIs w q S F D gs Ls st l) (d n : Int) (hd : ¬ hasS S d n) :
    Calls Try.prog 47 #[.pointer (some ⟨q, 0, none⟩), .int .i64 d, .int .i64 n] w fun e w' => e = .returned (.bool false) ∧ w = w' := by
  have c0 := h.c0
  have c1 := h.c1
  have hm := h.most
  have hs := h.secM
  clear h
  unfold hasS at hd
  generalize S.disks.length = k at *
  generalize S.sectors = m at *
  have hc : d < 0 ∨ (0 ≤ d ∧ (k : Int) ≤ d) ∨ (0 ≤ d ∧ d < k ∧ n < 0) ∨ (0 ≤ d ∧ d < k ∧ 0 ≤ n ∧ (m : Int) ≤ n) := by omega
  clear hd
  rcases hc with a | ⟨a, b⟩ | ⟨a, b, c⟩ | ⟨a, b, c, e⟩
  · have q1 : decide (0 ≤ d) = false := decide_eq_false (by omega)
    go_enter Try.func47, Try.ntmps47
    go_wp2
    go_ret
    exact ⟨rfl, rfl⟩
  · have q1 : decide (d < (k : Int)) = false := decide_eq_false (by omega)
    go_enter Try.func47, Try.ntmps47
    go_wp2
    go_ret
    exact ⟨rfl, rfl⟩
  · have q1 : decide (0 ≤ n) = false := decide_eq_false (by omega)
    go_enter Try.func47, Try.ntmps47
    go_wp2
    go_ret
    exact ⟨rfl, rfl⟩
  · have q1 : decide (n < (m : Int)) = false := decide_eq_false (by omega)
    go_enter Try.func47, Try.ntmps47
    go_wp2
    go_ret
    exact ⟨rfl, rfl⟩
/-- What spending makes of the power. -/
theorem Pow.spend {S : Sf} {st : Bool} {l : Int} (h : Pow S st l) (ho : S.off = false) (d : List Dk) (sec : Nat) (c : Int) : Pow { disks := d, sectors := sec, count := c, off := offAt S.left S.off, left := S.left - 1 } st (if st = true then l - 1 else l) := by
  obtain ⟨h1, h2, h3, h4, h5, h6⟩ := h
  rw [ho] at h1
  refine ⟨?_, fun e => ?_, fun e => ?_, ?_, ?_, ?_⟩
  · show st = (offAt S.left S.off || decide (0 < S.left - 1))
    rw [h1]
    unfold offAt
    by_cases h0 : S.left = 0
    · rw [if_pos h0, ho, h0]
    · rw [if_neg h0]
      by_cases h7 : S.left = 1
      · rw [h7]; rfl
      · rw [decide_eq_false h7, decide_eq_true (show 0 < S.left by omega), decide_eq_true (show 0 < S.left - 1 by omega)]
  · have e1 := h2 e
    rw [if_pos e, e1]
    have : 0 < S.left := by
      rw [e] at h1
      simpa using h1.symm
    show (S.left : Int) - 1 = ((S.left - 1 : Nat) : Int)
    omega
  · show S.left - 1 = 0
    have e : offAt S.left S.off = true := e
    unfold offAt at e
    by_cases h0 : S.left = 0
    · omega
    · rw [if_neg h0] at e
      have := of_decide_eq_true e
      omega
  · show S.left - 1 ≤ _
    omega
  · split
    · rename_i e
      have := h2 e
      have : 0 < S.left := by
        rw [e] at h1
        simpa using h1.symm
      omega
    · exact h5
  · split
    · omega
    · exact h6
theorem rspend_any {w : World} {q D : Nat} {S : Sf} {F : Nat → Prop} {gs : Nat → Gr} {Ls : Nat → List (Nat × Bs)} {st : Bool} {l : Int} (h : RefIs w q S F D gs Ls st l) (ho : S.off = false) :
    Calls Try.prog 50 #[.pointer (some ⟨q, 0, none⟩)] w fun e w' => e = .returned (.tuple #[]) ∧ Only (fun b => b = q) w w' ∧
      RefIs w' q { disks := S.disks, sectors := S.sectors, count := wrap64 (S.count + 1), off := offAt S.left S.off, left := S.left - 1 } F D gs Ls st (if st = true then l - 1 else l) := by
  have c2 := h.c2
  have c3 := h.c3
  have c4 := h.c4
  have f2 := h.free 2
  have f4 := h.free 4
  have hroot1 := cells_set (i := 2) (.int .i64 (wrap64 (S.count + 1))) h.root
  have hO1 : Only (fun b => b = q) w (w.setCell ⟨q, 2, none⟩ (.int .i64 (wrap64 (S.count + 1)))) := Only.setCell (F := fun b => b = q) (p := ⟨q, 2, none⟩) (Only.refl _ w) (.inl rfl) _
  have hk1 : ∀ b, F b → b ≠ q → (w.setCell ⟨q, 2, none⟩ (.int .i64 (wrap64 (S.count + 1)))).heap[b]? = w.heap[b]? := fun b _ hb => heap_set_other _ _ _ hb
  have hps := h.pow.spend ho S.disks S.sectors (wrap64 (S.count + 1))
  cases st
  · have HE := Lib.hid (h.rooted (w' := w.setCell ⟨q, 2, none⟩ (.int .i64 (wrap64 (S.count + 1)))) (offAt S.left S.off) (S.left - 1) (wrap64 (S.count + 1)) false l (by simpa using hps) (by rw [hroot1]; rfl) hk1 hO1.size)
    have HO := Lib.hid hO1
    clear h hroot1 hO1 hk1 hps
    generalize S.count = cnt at *
    go_enter Try.func50, Try.ntmps50
    go_wp2
    go_end0
    exact ⟨rfl, HO.out, by have := HE.out; rw [ho] at this; simpa using this⟩
  · have hl := h.pow.l_ rfl
    have hl2 := h.pow.left
    have hl3 : 0 < S.left := by
      have := h.pow.st_
      rw [ho] at this
      simpa using this.symm
    have hw : wrap64 (l - 1) = l - 1 := by unfold wrap64; omega
    have hroot2 := cells_set (i := 4) (.int .i64 (l - 1)) hroot1
    have hO2 : Only (fun b => b = q) w ((w.setCell ⟨q, 2, none⟩ (.int .i64 (wrap64 (S.count + 1)))).setCell ⟨q, 4, none⟩ (.int .i64 (l - 1))) := hO1.setCell (p := ⟨q, 4, none⟩) (.inl rfl) _
    have HE := Lib.hid (h.rooted (w' := (w.setCell ⟨q, 2, none⟩ (.int .i64 (wrap64 (S.count + 1)))).setCell ⟨q, 4, none⟩ (.int .i64 (l - 1))) (offAt S.left S.off) (S.left - 1) (wrap64 (S.count + 1)) true (l - 1) (by simpa using hps) (by rw [hroot2]; rfl) (fun b hb hb2 => (heap_set_other _ _ _ hb2).trans (hk1 b hb hb2)) hO2.size)
    have HO := Lib.hid hO2
    clear h hroot1 hroot2 hO1 hO2 hk1 hps hl2 hl3 hl
    generalize S.count = cnt at *
    go_enter Try.func50, Try.ntmps50
    go_wp2
    go_end0
    exact ⟨rfl, HO.out, by have := HE.out; rw [ho] at this; simpa using this⟩
end Go.Proofs.Ytbkcdomapdflaaa.Sh
