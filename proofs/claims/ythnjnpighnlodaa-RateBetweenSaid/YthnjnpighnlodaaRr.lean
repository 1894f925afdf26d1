/-
  The contract of the definition's Rank, and that both orders are one.
  Conditions: each theorem's own.
-/
import Derived.Test.YthnjnpighnlodaaRn
import Derived.Test.YthnjnpighnlodaaRu
namespace Go.Proofs.Ythnjnpighnlodaa
open Go.RowKit

theorem abvR_iff (rs : List Row) (p q : Nat) : abvR rs p q = true ↔ (rowAt rs p).there = true ∧ ((rowAt rs q).there = false ∨ T (rowAt rs q).top < T (rowAt rs p).top) := by
  unfold abvR
  rw [Bool.and_eq_true, Bool.or_eq_true, decide_eq_true_eq, cmpT_pos, Bool.not_eq_true']
theorem weakR (rs : List Row) : Rk.Weak (abvR rs) := by
  refine ⟨fun a b h => ?_, fun a b c h1 h2 => ?_⟩
  · rw [abvR_iff] at h
    cases e : abvR rs b a with
    | false => rfl
    | true =>
      rw [abvR_iff] at e
      rcases h with ⟨h1, h2⟩
      rcases e with ⟨e1, e2⟩
      rcases h2 with h2 | h2
      · rw [h2] at e1; cases e1
      · rcases e2 with e2 | e2
        · rw [e2] at h1; cases h1
        · omega
  · have n1 : ¬ abvR rs a b = true := by rw [h1]; decide
    have n2 : ¬ abvR rs b c = true := by rw [h2]; decide
    rw [abvR_iff] at n1 n2
    cases e : abvR rs a c with
    | false => rfl
    | true =>
      rw [abvR_iff] at e
      obtain ⟨e1, e2⟩ := e
      exfalso
      cases hb : (rowAt rs b).there with
      | false => exact n1 ⟨e1, .inl hb⟩
      | true =>
        rcases e2 with e2 | e2
        · exact n2 ⟨hb, .inl e2⟩
        · have h3 : ¬ T (rowAt rs b).top < T (rowAt rs a).top := fun x => n1 ⟨e1, .inr x⟩
          have h4 : ¬ T (rowAt rs c).top < T (rowAt rs b).top := fun x => n2 ⟨hb, .inr x⟩
          omega
theorem ahead_ahd (rs : List Row) (k i : Nat) : aheadB (rowAt rs k) (rowAt rs i) k i = Rk.ahd (abvR rs) k i := by
  unfold aheadB Rk.ahd abvR
  have h := cmpT_pos (a := (rowAt rs k).top) (b := (rowAt rs i).top)
  have h2 := cmpT_pos (a := (rowAt rs i).top) (b := (rowAt rs k).top)
  have h3 := cmpT_zero (a := (rowAt rs k).top) (b := (rowAt rs i).top)
  cases (rowAt rs k).there <;> cases (rowAt rs i).there
  · simp
  · simp
  · simp
  · simp only [Bool.not_true, Bool.or_self, Bool.false_eq_true, if_false, Bool.true_and, Bool.false_or]
    by_cases c1 : T (rowAt rs i).top < T (rowAt rs k).top
    · rw [decide_eq_true (h.2 c1)]; simp
    · have e1 : ¬ cmpT (rowAt rs k).top (rowAt rs i).top > 0 := fun e => c1 (h.1 e)
      rw [decide_eq_false e1]
      by_cases c2 : T (rowAt rs k).top < T (rowAt rs i).top
      · have e2 : ¬ cmpT (rowAt rs k).top (rowAt rs i).top = 0 := fun e => by have := h3.1 e; omega
        rw [decide_eq_true (h2.2 c2), decide_eq_false e2]; simp
      · have e2 : cmpT (rowAt rs k).top (rowAt rs i).top = 0 := h3.2 (by omega)
        have e3 : ¬ cmpT (rowAt rs i).top (rowAt rs k).top > 0 := fun e => c2 (h2.1 e)
        rw [decide_eq_false e3, decide_eq_true e2]; simp

def cntTo (abv : Nat → Nat → Bool) (k i : Nat) : Nat := (List.range k).countP fun x => Rk.ahd abv x i
theorem cntTo_succ (abv : Nat → Nat → Bool) (k i : Nat) : cntTo abv (k + 1) i = cntTo abv k i + if Rk.ahd abv k i = true then 1 else 0 := by
  unfold cntTo
  rw [List.range_succ, List.countP_append]
  simp [List.countP_cons]
theorem cntTo_le (abv : Nat → Nat → Bool) (k i : Nat) : cntTo abv k i ≤ k := by
  unfold cntTo
  exact Nat.le_trans (List.countP_le_length ..) (by simp)
/-- What the definition has behind a whole rounds and i more. -/
def outTo (abv : Nat → Nat → Bool) (n a i : Nat) : List Nat :=
  ((List.range a).flatMap fun b => (List.range n).filter fun x => Rk.cntA abv n x == b) ++ (List.range i).filter fun x => Rk.cntA abv n x == a
theorem outTo_next (abv : Nat → Nat → Bool) (n a : Nat) : outTo abv n (a + 1) 0 = outTo abv n a n := by
  unfold outTo
  rw [List.range_succ, List.flatMap_append]
  simp
theorem outTo_yes (abv : Nat → Nat → Bool) (n a i : Nat) (h : Rk.cntA abv n i = a) : outTo abv n a (i + 1) = outTo abv n a i ++ [i] := by
  unfold outTo
  rw [List.range_succ, List.filter_append]
  simp [h]
theorem outTo_no (abv : Nat → Nat → Bool) (n a i : Nat) (h : Rk.cntA abv n i ≠ a) : outTo abv n a (i + 1) = outTo abv n a i := by
  unfold outTo
  rw [List.range_succ, List.filter_append]
  simp [h]
theorem outTo_len (abv : Nat → Nat → Bool) (n : Nat) : ∀ a i, i ≤ n → (outTo abv n a i).length ≤ a * n + i
  | 0, i, _ => by
    unfold outTo
    simpa using List.length_filter_le (fun x => Rk.cntA abv n x == 0) (List.range i)
  | a + 1, i, hi => by
    have h1 := outTo_len abv n a n (Nat.le_refl _)
    rw [← outTo_next] at h1
    have h2 : (outTo abv n (a + 1) i).length = (outTo abv n (a + 1) 0).length + ((List.range i).filter fun x => Rk.cntA abv n x == a + 1).length := by
      unfold outTo; simp
    have h3 := List.length_filter_le (fun x => Rk.cntA abv n x == a + 1) (List.range i)
    rw [List.length_range] at h3
    rw [h2, Nat.add_mul]
    omega
theorem outTo_all (abv : Nat → Nat → Bool) (n : Nat) : outTo abv n n 0 = Rk.refRank abv n := by
  unfold outTo Rk.refRank
  simp

theorem refRank_no (A : Option Addr) (n c : Nat) (w : World) (hn : 17 < n) :
    Calls Try.prog 26 #[.slice A n c] w fun e w' => e = .returned (.tuple #[.slice none 0 0, .int .i64 1]) ∧ w = w' := by
  go_enter Try.func26, Try.ntmps26
  go_wp2
  go_ret2
  exact ⟨rfl, rfl⟩

set_option maxHeartbeats 1000000 in
theorem refRank_any (A : Option Addr) (n c L : Nat) (rs : List Row) (w : World) (hr : RowsAre w L A n rs) (hL : L ≤ w.heap.size) (hn : n ≤ 17) :
    Calls Try.prog 26 #[.slice A n c] w fun e w' => ∃ v, e = .returned (.tuple #[v, .int .i64 0]) ∧ w'.ownsRow w.heap.size 3 1 v n (ints (Rk.rankTo (abvR rs) n)) ∧ Below w.heap.size w w' := by
  obtain ⟨i1, hi, hz0, hz1, hz2⟩ := info_parts info_int
  have Hfin := Lib.hid ((outTo_all (abvR rs) n).trans (Rk.rank_eq (weakR rs) n))
  have Hrl := Lib.hid (Rk.rank_length (abv := abvR rs) n)
  have Hnext := Lib.hid (outTo_next (abvR rs) n)
  have Hyes := Lib.hid (outTo_yes (abvR rs) n)
  have Hno := Lib.hid (outTo_no (abvR rs) n)
  have Hlen := Lib.hid (outTo_len (abvR rs) n)
  have Hcnt := Lib.hid (fun k i => cntTo_succ (abvR rs) k i)
  have HcntA : Hid (∀ i, Rk.cntA (abvR rs) n i = cntTo (abvR rs) n i) := Lib.hid fun i => rfl
  have Hcle := Lib.hid (cntTo_le (abvR rs))
  have HA := Lib.hid (fun (w : World) (a b : Nat) (h : RowsAre w L A n rs) (hL : L ≤ w.heap.size) (ha : a < n) (hb : b < n) =>
    (show Calls Try.prog 36 #[.slice A n c, .int .i64 a, .int .i64 b] w fun e w' => e = .returned (.bool (Rk.ahd (abvR rs) a b)) ∧ Below w.heap.size w w' by
      obtain ⟨_, r, _, _, hra, _⟩ := h.row ha
      obtain ⟨_, s, _, _, hsb, _⟩ := h.row hb
      have := ahead_any A n c L a b rs r s w h hL ha hb (by omega) hra hsb
      rwa [← rowAt_of hra, ← rowAt_of hsb, ahead_ahd] at this))
  have HR := Lib.hid hr
  have Hz := Lib.hid (show outTo (abvR rs) n 0 0 = [] from rfl)
  clear hr
  generalize outTo (abvR rs) n = out at *
  generalize cntTo (abvR rs) = cnt at *
  generalize Rk.cntA (abvR rs) n = cntA at *
  generalize Rk.ahd (abvR rs) = ah at *
  generalize Rk.rankTo (abvR rs) n = fin at *
  go_enter Try.func26, Try.ntmps26
  go_wp2
  have h0 : w.ownsRow w.heap.size 3 1 (.slice none 0 0) (out 0 0).length (ints (out 0 0)) := by rw [Hz.out]; exact World.ownsRow_nil _ _ _ _
  have hrefl := Below.refl w.heap.size w
  go_loopw [4, 5] (fun s4 s5 wr => ∃ a : Nat, a ≤ n ∧ s5 = .int .i64 a ∧ wr.ownsRow w.heap.size 3 1 s4 (out a 0).length (ints (out a 0)) ∧ Below w.heap.size w wr) (fun _ s5 _ => n - (intOf s5).toNat)
  case atStart => exact ⟨0, Nat.zero_le _, rfl, h0, hrefl⟩
  case round =>
    obtain ⟨a, ha, rfl, hown, hbel⟩ := hrel
    clear h0 hrefl
    by_cases hlt : a < n
    · go_wp2
      go_loopw [4, 6] (fun s4 s6 wx => ∃ i : Nat, i ≤ n ∧ s6 = .int .i64 i ∧ wx.ownsRow w.heap.size 3 1 s4 (out a i).length (ints (out a i)) ∧ Below w.heap.size w wx) (fun _ s6 _ => n - (intOf s6).toNat)
      case atStart => exact ⟨0, Nat.zero_le _, rfl, hown, hbel⟩
      case round =>
        obtain ⟨i, hin, rfl, hown2, hbel2⟩ := hrel
        clear hown hbel
        by_cases hli : i < n
        · have hl0 := Hlen.out a i (by omega)
          have hln : a * n ≤ 17 * 17 := Nat.mul_le_mul (by omega) (by omega)
          have Hl0 := Lib.hid (show (out a i).length ≤ 306 by omega)
          clear hl0 hln
          obtain ⟨A4, c4, rfl, _, _, _⟩ := own_shape hown2
          go_wp2
          go_loopw [7, 8] (fun s7 s8 wy => ∃ k : Nat, k ≤ n ∧ s8 = .int .i64 k ∧ s7 = .int .i64 (cnt k i) ∧ wy.ownsRow w.heap.size 3 1 (.slice A4 (out a i).length c4) (out a i).length (ints (out a i)) ∧ Below w.heap.size w wy) (fun _ s8 _ => n - (intOf s8).toNat)
          case atStart => exact ⟨0, Nat.zero_le _, rfl, by have := Hcle.out 0 i; rw [show cnt 0 i = 0 by omega]; rfl, hown2, hbel2⟩
          case round =>
            obtain ⟨k, hk, rfl, rfl, hown3, hbel3⟩ := hrel
            have hsz : w.heap.size ≤ wr.heap.size := hbel3.size
            by_cases hlk : k < n
            · have q := HA.out wr k i (HR.out.below (hbel3.mono hL)) (by omega) hlk hli
              have hc := Hcnt.out k i
              have hcl := Hcle.out k i
              cases hah : ah k i with
              | true =>
                rw [hah] at q hc
                rw [if_pos rfl] at hc
                have Hc := Lib.hid hc
                clear hc hah
                generalize cnt k i = z at *
                go_wp2_with (go_at_call 36; refine q.mono ?_; rintro e w5 ⟨rfl, hb5⟩)
                go_roundw
                case rel => exact ⟨k + 1, by omega, by go_num, by rw [Hc.out]; go_num, own_over hown3 hb5, hbel3.trans (hb5.mono hsz)⟩
                case measure => simp [intOf]; omega
              | false =>
                rw [hah] at q hc
                rw [if_neg (by decide)] at hc
                have Hc := Lib.hid hc
                clear hc hah
                generalize cnt k i = z at *
                go_wp2_with (go_at_call 36; refine q.mono ?_; rintro e w5 ⟨rfl, hb5⟩)
                go_roundw
                case rel => exact ⟨k + 1, by omega, by go_num, by rw [Hc.out]; rfl, own_over hown3 hb5, hbel3.trans (hb5.mono hsz)⟩
                case measure => simp [intOf]; omega
            · obtain rfl : k = n := by omega
              have hcA := HcntA.out i
              by_cases hca : cntA i = a
              · have hy := Hyes.out a i hca
                rw [hcA] at hca
                rw [hca]
                have Hy := Lib.hid (show ints (out a (i + 1)) = ints (out a i) ++ [.int .i64 (i : Int)] by rw [hy, ints_append]; rfl)
                have Hyl := Lib.hid (show (out a (i + 1)).length = (out a i).length + 1 by rw [hy]; simp)
                have hl0 := Hl0.out
                clear hy hcA hca
                go_wp2_with (at_builtin; refine Ap.append1 rfl _ _ 39 rfl w.heap.size 3 i1 (.int .i64 0) 8 Try.underlying39 hi hz0 hz1 hz2 rfl _ (out a i).length _ rfl (.int .i64 i) rfl rfl (by exact hown3) (by unfold maxLen; omega) (by omega) w hbel3 (by omega) ?_; intro v' w5 hown5 hbel5)
                rw [← Hy.out, ← Hyl.out] at hown5
                go_wp2
                go_roundw
                case rel => exact ⟨i + 1, by omega, by go_num, hown5, hbel5⟩
                case measure => simp [intOf]; omega
              · have hy := Hno.out a i hca
                rw [hcA] at hca
                have hq : ((cnt k i : Int) == (a : Int)) = false := by rw [beq_eq_false_iff_ne]; omega
                have Hown4 := Lib.hid (show wr.ownsRow w.heap.size 3 1 (.slice A4 (out a i).length c4) (out a (i + 1)).length (ints (out a (i + 1))) by rw [hy]; exact hown3)
                clear hy hcA hca hown3
                generalize cnt k i = z at *
                go_wp2
                go_roundw
                case rel => exact ⟨i + 1, by omega, by go_num, Hown4.out, hbel3⟩
                case measure => simp [intOf]; omega
        · obtain rfl : i = n := by omega
          rw [← Hnext.out] at hown2
          go_wp2
          go_roundw
          case rel => exact ⟨a + 1, by omega, by go_num, hown2, hbel2⟩
          case measure => simp [intOf]; omega
    · obtain rfl : a = n := by omega
      go_wp2
      go_ret2
      refine ⟨_, rfl, ?_, hbel⟩
      rw [Hfin.out, Hrl.out] at hown
      exact hown
end Go.Proofs.Ythnjnpighnlodaa
