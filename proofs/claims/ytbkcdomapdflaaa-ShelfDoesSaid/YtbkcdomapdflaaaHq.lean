/-
  The contract of Stop; the contracts of a nil shelf's calls.
  Conditions: the shelf lies in memory, or is nil.
-/
import Derived.Test.YtbkcdomapdflaaaHo
import Derived.Lib.MinMax
namespace Go.Proofs.Ytbkcdomapdflaaa.Sh
open Go.RowKit Go.Maps

def Sf.doStop (S : Sf) (n : Int) : Sf := if S.off = true then S else { S with off := decide (n = 0), left := n.toNat }
set_option maxRecDepth 20000 in
theorem stop_any (w : World) (p : Nat) (n : Int) (_ : -9223372036854775808 ≤ n) (hn2 : n ≤ 9223372036854775807) {S : Sf} {F : Nat → Prop} (h : Shelf w p S F) :
    Calls Try.prog 35 #[.pointer (some ⟨p, 0, none⟩), .int .i64 n] w fun e w' => e = .returned (.tuple #[]) ∧ Shelf w' p (S.doStop n) F ∧ Only F w w' := by
  obtain ⟨D, gs, h⟩ := h
  have c0 := h.c0
  have c1 := h.c1
  have f0 := h.free 0
  have f1 := h.free 1
  by_cases ho : S.off = true
  · rw [ho] at c0
    have HE := Lib.hid (show Shelf w p (S.doStop n) F ∧ Only F w w from ⟨⟨D, gs, by unfold Sf.doStop; rw [if_pos ho]; exact h⟩, Only.refl _ _⟩)
    clear h ho
    go_enter Try.func35, Try.ntmps35
    go_wp2
    go_end0
    go_wp2
    go_end0
    exact ⟨rfl, HE.out⟩
  · have ho2 : S.off = false := by simpa using ho
    rw [ho2] at c0
    have HE : Hid (∀ x : Int, x = (n.toNat : Int) → Shelf ((w.setCell ⟨p, 0, none⟩ (.bool (decide (n = 0)))).setCell ⟨p, 1, none⟩ (.int .i64 x)) p (S.doStop n) F ∧ Only F w ((w.setCell ⟨p, 0, none⟩ (.bool (decide (n = 0)))).setCell ⟨p, 1, none⟩ (.int .i64 x))) := by
      refine Lib.hid ?_
      rintro x rfl
      have hO : Only F w ((w.setCell ⟨p, 0, none⟩ (.bool (decide (n = 0)))).setCell ⟨p, 1, none⟩ (.int .i64 (n.toNat : Int))) := ((Only.refl _ _).setCell (.inl h.inF.1) _).setCell (.inl h.inF.1) _
      refine ⟨⟨D, gs, ?_⟩, hO⟩
      have := h.rooted (w' := (w.setCell ⟨p, 0, none⟩ (.bool (decide (n = 0)))).setCell ⟨p, 1, none⟩ (.int .i64 (n.toNat : Int))) (decide (n = 0)) n.toNat S.count (by omega) (by rw [cells_set _ (cells_set _ h.root)]; rfl) (fun b _ hb => by rw [heap_set_other _ _ _ hb, heap_set_other _ _ _ hb]) hO.size
      unfold Sf.doStop
      rw [if_neg ho]
      exact this
    clear h ho ho2
    rcases Int.lt_trichotomy n 0 with hlt | rfl | hgt
    · have hq : (n == 0) = false := by rw [beq_eq_false_iff_ne]; omega
      have hx := Lib.hid (show decide (n = 0) = false by simp; omega)
      rw [hx.out] at HE
      have hE := Lib.hid (HE.out (max n 0) (by omega))
      clear HE
      go_enter Try.func35, Try.ntmps35
      go_wp2
      go_end0
      go_wp2
      go_end0
      exact ⟨rfl, hE.out⟩
    · have hE := Lib.hid (HE.out 0 (by decide))
      clear HE
      go_enter Try.func35, Try.ntmps35
      go_wp2
      go_end0
      go_wp2
      go_end0
      exact ⟨rfl, hE.out⟩
    · have hq : (n == 0) = false := by rw [beq_eq_false_iff_ne]; omega
      have hx := Lib.hid (show decide (n = 0) = false by simp; omega)
      rw [hx.out] at HE
      have hE := Lib.hid (HE.out (max n 0) (by omega))
      clear HE
      go_enter Try.func35, Try.ntmps35
      go_wp2
      go_end0
      go_wp2
      go_end0
      exact ⟨rfl, hE.out⟩
end Go.Proofs.Ytbkcdomapdflaaa.Sh
