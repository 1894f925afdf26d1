/-
  The contract of the definition's Newest, and of Alike.
  Conditions: each theorem's own.
-/
import Derived.Test.YtceebcaeodmllaaDoorSn
import Derived.Deep.LoopGhost
namespace Go.Proofs.YtceebcaeodmllaaDoor.S
open Go.RowKit

/-- Place k keeps place i from being the newest. -/
def Bad (ss : List Sup) (i k : Nat) : Prop := (supAt ss k).gen > (supAt ss i).gen ∨ ((supAt ss k).gen = (supAt ss i).gen ∧ k < i)
theorem nwst_bad (ss : List Sup) (n i : Nat) (hi : i < n) (h : ∀ k, k < n → ¬ Bad ss i k) : i = nwst ss n := by
  have hw : nwst ss n < n := nwst_lt ss n n (by omega) (Nat.le_refl _)
  have h1 := nwst_most ss n i hi
  have h2 := h (nwst ss n) hw
  unfold Bad at h2
  have h3 : ¬ (supAt ss (nwst ss n)).gen > (supAt ss i).gen := fun e => h2 (.inl e)
  have h4 : ¬ nwst ss n < i := fun e => h2 (.inr ⟨by omega, e⟩)
  rcases Nat.lt_or_ge i (nwst ss n) with h5 | h5
  · have := nwst_first ss n i h5 hi
    omega
  · omega
theorem bad_nwst (ss : List Sup) (n i k : Nat) (hk : k < n) (hb : Bad ss i k) : i ≠ nwst ss n := by
  intro e
  unfold Bad at hb
  have h1 := nwst_most ss n k hk
  rw [← e] at h1
  rcases hb with hb | ⟨hb, hlt⟩
  · omega
  · have h2 := nwst_first ss n k (by omega) hk
    rw [← e] at h2
    omega
def IsSo (ss : List Sup) (i k : Nat) (b : Bool) : Prop := (b = true → ∀ k', k' < k → ¬ Bad ss i k') ∧ (b = false → ∃ k', k' < k ∧ Bad ss i k')
theorem IsSo.bad {ss : List Sup} {i k : Nat} (hb : Bad ss i k) : IsSo ss i (k + 1) false := ⟨fun h => Bool.noConfusion h, fun _ => ⟨k, Nat.lt_succ_self k, hb⟩⟩
theorem IsSo.good {ss : List Sup} {i k : Nat} {b : Bool} (h : IsSo ss i k b) (hb : ¬ Bad ss i k) : IsSo ss i (k + 1) b := by
  refine ⟨fun e k' hk => ?_, fun e => ?_⟩
  · rcases Nat.lt_or_ge k' k with h2 | h2
    · exact h.1 e k' h2
    · obtain rfl : k' = k := by omega
      exact hb
  · obtain ⟨k', h1, h2⟩ := h.2 e
    exact ⟨k', by omega, h2⟩

set_option maxHeartbeats 1000000 in
theorem refNewest_any (A : Option Addr) (n c L : Nat) (ss : List Sup) (w : World) (hr : SupsAre w L A n ss) (hL : L ≤ w.heap.size) (hn : n ≤ 140737488351232) :
    Calls Tryd.prog 17 #[.slice A n c] w fun e w' => e = .returned (.tuple #[.int .i64 (nwst ss n), .bool (decide (0 < n))]) ∧ Below w.heap.size w w' := by
  have HR := Lib.hid hr
  have hlast := Lib.hid (fun h : 0 < n => nwst_lt ss n n h (Nat.le_refl _))
  clear hr
  go_enter Tryd.func17, Tryd.ntmps17
  go_wp2
  have hrefl := Below.refl w.heap.size w
  go_loopg [4] n (fun G s4 wr => ∃ i : Nat, i + G = n ∧ s4 = .int .i64 i ∧ Hid (0 < n → i ≤ nwst ss n) ∧ Below w.heap.size w wr)
  case atStart => exact ⟨0, by omega, rfl, Lib.hid (fun _ => Nat.zero_le _), hrefl⟩
  case round =>
    obtain ⟨i, hig, rfl, HA, hbel⟩ := hrel
    cases gk with
    | zero =>
      obtain rfl : i = n := by omega
      have hi0 : i = 0 := by
        rcases Nat.eq_zero_or_pos i with h | h
        · exact h
        · have h1 := HA.out h
          have h2 := hlast.out h
          omega
      subst hi0
      go_wp2
      go_ret2
      exact ⟨rfl, hbel⟩
    | succ G =>
      have hi : i < n := by omega
      go_wp2
      go_loopg [5, 6] n (fun G2 s5 s6 wy => ∃ (k : Nat) (b : Bool), k + G2 = n ∧ s6 = .int .i64 k ∧ s5 = .bool b ∧ Hid (IsSo ss i k b) ∧ Below w.heap.size w wy)
      case atStart => exact ⟨0, true, by omega, rfl, rfl, Lib.hid ⟨fun _ k' hk => absurd hk (by omega), fun h => Bool.noConfusion h⟩, hbel⟩
      case round =>
        obtain ⟨k, b, hkg, rfl, rfl, HB, hby⟩ := hrel
        cases gk with
        | zero =>
          obtain rfl : k = n := by omega
          cases b with
          | true =>
            have hst := Lib.hid (nwst_bad ss k i hi (HB.out.1 rfl))
            go_wp2
            go_ret2
            exact ⟨by rw [← hst.out, decide_eq_true (show 0 < k by omega)]; rfl, hby⟩
          | false =>
            have hst : Hid (0 < k → i + 1 ≤ nwst ss k) := Lib.hid fun h => by
              obtain ⟨k', h1, h2⟩ := HB.out.2 rfl
              have h3 := bad_nwst ss k i k' h1 h2
              have h4 := HA.out h
              omega
            go_wp2
            go_roundg G
            case measure => omega
            case rel => exact ⟨i + 1, by omega, by go_num, hst, hby⟩
        | succ G2 =>
          have hlt : k < n := by omega
          have hR := HR.out.below (hby.mono hL)
          obtain ⟨b1, off, rfl, _, hc1⟩ := hR.at_ hlt
          obtain ⟨b2, off2, e2, _, hc2⟩ := hR.at_ hi
          injection e2 with e2
          injection e2 with e3 e4
          subst e3 e4
          have a0 : wr.cell? ⟨b1, off + k * 8, none⟩ = some (.int .i64 (supAt ss k).gen) := hc1 0 _ rfl
          have b0 : wr.cell? ⟨b1, off + i * 8, none⟩ = some (.int .i64 (supAt ss i).gen) := hc2 0 _ rfl
          have hbad : Hid (Bad ss i k ↔ (supAt ss k).gen > (supAt ss i).gen ∨ ((supAt ss k).gen = (supAt ss i).gen ∧ k < i)) := Lib.hid Iff.rfl
          have ik : (k : Int) < (n : Int) := by omega
          have ii : (i : Int) < (n : Int) := by omega
          clear hc1 hc2 hR
          generalize (supAt ss k).gen = x at *
          generalize (supAt ss i).gen = y at *
          by_cases c1 : x > y
          · have Hn := Lib.hid (IsSo.bad (hbad.out.2 (.inl c1)))
            have hd : decide (x > y) = true := decide_eq_true c1
            clear hbad c1
            go_wp2
            go_quiet (fail)
            go_wp2
            go_roundg G2
            case measure => omega
            case rel => exact ⟨k + 1, false, by omega, by go_num, rfl, Hn, hby.trans ⟨rfl, rfl, rfl, Nat.le_refl _, fun _ _ => rfl⟩⟩
          · have hd : decide (x > y) = false := decide_eq_false c1
            by_cases c2 : x = y
            · have hd2 : (x == y) = true := beq_iff_eq.2 c2
              by_cases c3 : k < i
              · have Hn := Lib.hid (IsSo.bad (hbad.out.2 (.inr ⟨c2, c3⟩)))
                have hd3 : decide ((k : Int) < (i : Int)) = true := by simp; omega
                clear hbad c1 c2
                go_wp2
                go_quiet (fail)
                go_wp2
                go_roundg G2
                case measure => omega
                case rel => exact ⟨k + 1, false, by omega, by go_num, rfl, Hn, hby.trans ⟨rfl, rfl, rfl, Nat.le_refl _, fun _ _ => rfl⟩⟩
              · have Hn := Lib.hid (IsSo.good HB.out (fun h => by rcases hbad.out.1 h with h | h <;> omega))
                have hd3 : decide ((k : Int) < (i : Int)) = false := by simp; omega
                clear hbad c1 c2
                go_wp2
                go_quiet (fail)
                go_wp2
                go_roundg G2
                case measure => omega
                case rel => exact ⟨k + 1, b, by omega, by go_num, rfl, Hn, hby.trans ⟨rfl, rfl, rfl, Nat.le_refl _, fun _ _ => rfl⟩⟩
            · have Hn := Lib.hid (IsSo.good HB.out (fun h => by rcases hbad.out.1 h with h | h <;> omega))
              have hd2 : (x == y) = false := beq_eq_false_iff_ne.2 c2
              clear hbad c1 c2
              go_wp2
              go_quiet (fail)
              go_wp2
              go_roundg G2
              case measure => omega
              case rel => exact ⟨k + 1, b, by omega, by go_num, rfl, Hn, hby.trans ⟨rfl, rfl, rfl, Nat.le_refl _, fun _ _ => rfl⟩⟩
end Go.Proofs.YtceebcaeodmllaaDoor.S
