/-
  The contract of the definition's Worst.
  Conditions: each theorem's own.
-/
import Derived.Test.YthnjnpighnlodaaRw
import Derived.Deep.RegionWith
namespace Go.Proofs.Ythnjnpighnlodaa
open Go.RowKit

/-- Place k keeps place i from being the worst. -/
def Bad (l : List Nat) (i k : Nat) : Prop := cmpT (l.getD i 0) (l.getD k 0) < 0 ∨ (cmpT (l.getD i 0) (l.getD k 0) = 0 ∧ k < i)
theorem wst_bad (l : List Nat) (n i : Nat) (hi : i < n) (h : ∀ k, k < n → ¬ Bad l i k) : i = wst l n := by
  have hw : wst l n < n := wst_lt l n n (by omega) (Nat.le_refl _)
  have h1 := wst_most l n i hi
  have h2 := h (wst l n) hw
  unfold Bad at h2
  rw [cmpT_neg, cmpT_zero] at h2
  have h3 : ¬ wst l n < i := fun e => h2 (Or.inr ⟨by have : ¬ T (l.getD i 0) < T (l.getD (wst l n) 0) := fun e => h2 (Or.inl e); omega, e⟩)
  rcases Nat.lt_or_ge i (wst l n) with h4 | h4
  · exact absurd (Or.inl (wst_first l n i h4 hi)) h2
  · omega
theorem bad_wst (l : List Nat) (n i k : Nat) (hk : k < n) (hb : Bad l i k) : i ≠ wst l n := by
  intro e
  unfold Bad at hb
  rw [cmpT_neg, cmpT_zero] at hb
  have h1 := wst_most l n k hk
  rw [← e] at h1
  rcases hb with hb | ⟨hb, hlt⟩
  · omega
  · have h2 := wst_first l n k (by omega) hk
    rw [← e] at h2
    omega

theorem cmpT_one (a b : Nat) : cmpT a b = -1 ∨ cmpT a b = 0 ∨ cmpT a b = 1 := by
  unfold cmpT
  by_cases h1 : T a < T b
  · rw [if_pos h1]; exact Or.inl rfl
  · rw [if_neg h1]
    by_cases h2 : T b < T a
    · rw [if_pos h2]; exact Or.inr (Or.inr rfl)
    · rw [if_neg h2]; exact Or.inr (Or.inl rfl)
def IsSo (l : List Nat) (i k : Nat) (b : Bool) : Prop := (b = true → ∀ k', k' < k → ¬ Bad l i k') ∧ (b = false → ∃ k', k' < k ∧ Bad l i k')
theorem IsSo.bad {l : List Nat} {i k : Nat} (hb : Bad l i k) : IsSo l i (k + 1) false :=
  ⟨fun h => Bool.noConfusion h, fun _ => ⟨k, Nat.lt_succ_self k, hb⟩⟩
theorem IsSo.good {l : List Nat} {i k : Nat} {b : Bool} (h : IsSo l i k b) (hb : ¬ Bad l i k) : IsSo l i (k + 1) b := by
  refine ⟨fun e k' hk => ?_, fun e => ?_⟩
  · rcases Nat.lt_or_ge k' k with h2 | h2
    · exact h.1 e k' h2
    · obtain rfl : k' = k := by omega
      exact hb
  · obtain ⟨k', h1, h2⟩ := h.2 e
    exact ⟨k', by omega, h2⟩

set_option maxHeartbeats 800000 in
theorem refWorst_any (A : Option Addr) (n c L : Nat) (l : List Nat) (w : World) (hw : Words l) (hr : Reads w L A n (fls l)) (hL : L ≤ w.heap.size) (hn : n ≤ 140737488351232) :
    Calls Try.prog 23 #[.slice A n c] w fun e w' => e = .returned (.tuple #[.int .i64 (wst l n), .bool (decide (0 < n))]) ∧ Below w.heap.size w w' := by
  have HC := Lib.hid refCompare_any
  have hwst := Lib.hid (fun h : 0 < n => wst_lt l n n h (Nat.le_refl _))
  go_enter Try.func23, Try.ntmps23
  go_wp2
  generalize hgs : w.heap.size = g0 at *
  have Hgs := Lib.hid hgs
  clear hgs
  go_loopg [4] n (fun g s4 wr => ∃ i : Nat, i + g = n ∧ s4 = .int .i64 i ∧ Aside (0 < n → i ≤ wst l n) ∧ Below g0 w wr)
  case atStart => exact ⟨0, by omega, rfl, fun _ => Nat.zero_le _, Below.refl _ _⟩
  case round =>
    obtain ⟨i, hig, rfl, HA, hbel⟩ := hrel
    cases gk with
    | zero =>
      obtain rfl : i = n := by omega
      have hi0 : i = 0 := by
        rcases Nat.eq_zero_or_pos i with h | h
        · exact h
        · have h1 := HA.out h
          have h2 := hwst.out h
          omega
      subst hi0
      go_wp2
      go_ret2
      exact ⟨rfl, by rw [Hgs.out]; exact hbel⟩
    | succ g =>
      have hi : i < n := by omega
      go_wp2
      go_loopg [5, 6] n (fun g2 s5 s6 wr => ∃ k : Nat, ∃ b : Bool, k + g2 = n ∧ s6 = .int .i64 k ∧ s5 = .bool b ∧ Aside (IsSo l i k b) ∧ Below g0 w wr)
      case atStart => exact ⟨0, true, by omega, rfl, rfl, ⟨fun _ k' h => by omega, fun h => by cases h⟩, hbel⟩
      case round =>
        obtain ⟨k, b, hkg, rfl, rfl, HB, hbel2⟩ := hrel
        cases gk with
        | zero =>
          obtain rfl : k = n := by omega
          cases b with
          | true =>
            have hst : Hid ((i : Int) = (wst l k : Int) ∧ decide (0 < k) = true) := Lib.hid ⟨by rw [← wst_bad l k i hi (HB.out.1 rfl)], decide_eq_true (by omega)⟩
            go_wp2
            try rw [Exit.noGoto_ret]
            go_ret2
            exact ⟨by rw [← hst.out.1, hst.out.2]; rfl, by rw [Hgs.out]; exact hbel2⟩
          | false =>
            have hst : Aside (0 < k → i + 1 ≤ wst l k) := fun h => by
              obtain ⟨k', h1, h2⟩ := HB.out.2 rfl
              have h3 := bad_wst l k i k' h1 h2
              have h4 := HA.out h
              omega
            go_wp2
            go_roundg g
            case measure => omega
            case rel => exact ⟨i + 1, by omega, by go_num, hst, hbel2⟩
        | succ g2 =>
          have hlt : k < n := by omega
          have hr2 := (hr.more hL).below hbel2
          obtain ⟨ad, rfl, hb1, hc1⟩ := hr2.fl hi
          obtain ⟨ad2, e2, hb2, hc2⟩ := hr2.fl hlt
          injection e2 with e2
          subst e2
          have hxw := hw.get i
          have hyw := hw.get k
          have hbad : Hid (Bad l i k ↔ cmpT (l.getD i 0) (l.getD k 0) < 0 ∨ (cmpT (l.getD i 0) (l.getD k 0) = 0 ∧ k < i)) := Lib.hid Iff.rfl
          have hone := cmpT_one (l.getD i 0) (l.getD k 0)
          clear hr hr2 hb1 hb2
          generalize l.getD i 0 = x at *
          generalize l.getD k 0 = y at *
          rcases hone with hc | hc | hc
          · have Hn := Lib.hid (IsSo.bad (hbad.out.2 (Or.inl (by rw [hc]; decide))))
            clear hbad
            go_wp2
            go_region_with (go_at_call 21; refine (HC.out _ _ _ hxw hyw).mono ?_; rintro e w' ⟨rfl, rfl⟩)
            all_goals
              go_wp2
              go_roundg g2
              case measure => omega
              case rel => exact ⟨k + 1, false, by omega, by go_num, rfl, Hn.out, hbel2.drew⟩
          · by_cases hki : k < i
            · have Hn := Lib.hid (IsSo.bad (hbad.out.2 (Or.inr ⟨hc, hki⟩)))
              clear hbad
              go_wp2
              go_region_with (go_at_call 21; refine (HC.out _ _ _ hxw hyw).mono ?_; rintro e w' ⟨rfl, rfl⟩)
              all_goals
                go_wp2
                go_roundg g2
                case measure => omega
                case rel => exact ⟨k + 1, false, by omega, by go_num, rfl, Hn.out, hbel2.drew⟩
            · have Hn := Lib.hid (IsSo.good HB.out (fun h => by have h2 := hbad.out.1 h; rw [hc] at h2; rcases h2 with h2 | h2 <;> omega))
              clear hbad
              go_wp2
              go_region_with (go_at_call 21; refine (HC.out _ _ _ hxw hyw).mono ?_; rintro e w' ⟨rfl, rfl⟩)
              all_goals
                go_wp2
                go_roundg g2
                case measure => omega
                case rel => exact ⟨k + 1, b, by omega, by go_num, rfl, Hn.out, hbel2.drew⟩
          · have Hn := Lib.hid (IsSo.good HB.out (fun h => by have h2 := hbad.out.1 h; rw [hc] at h2; rcases h2 with h2 | h2 <;> omega))
            clear hbad
            go_wp2
            go_region_with (go_at_call 21; refine (HC.out _ _ _ hxw hyw).mono ?_; rintro e w' ⟨rfl, rfl⟩)
            all_goals
              go_wp2
              go_roundg g2
              case measure => omega
              case rel => exact ⟨k + 1, b, by omega, by go_num, rfl, Hn.out, hbel2.drew⟩
end Go.Proofs.Ythnjnpighnlodaa
