/-
  The contracts of the definition's put and number.
  Conditions: each theorem's own.
-/
import Derived.Test.YtceebcaeodmllaaDoorSi
namespace Go.Proofs.YtceebcaeodmllaaDoor.S
open Go.RowKit

theorem own_below {w w1 : World} {base n : Nat} {v : Value} {xs : List Value} (h : w.ownsRow base 5 1 v n xs) (hb : Below w.heap.size w w1) : w1.ownsRow base 5 1 v n xs := by
  rcases h with ⟨h0, h⟩
  refine ⟨h0, ?_⟩
  rcases h with h | ⟨g, cap, cur, hv, hg, hh, h1, h2, h3, h4⟩
  · exact .inl h
  · have hlt : g < w.heap.size := by
      rcases Nat.lt_or_ge g w.heap.size with h | h
      · exact h
      · rw [Array.getElem?_eq_none h] at hh; cases hh
    exact .inr ⟨g, cap, cur, hv, hg, (hb.block g hlt).trans hh, h1, h2, h3, h4⟩
theorem refput_any (base : Nat) (v : Value) (l : List Nat) (n k x : Nat) (w : World) (hown : w.ownsRow base 5 1 v n (bts l)) (hbase : base ≤ w.heap.size) (h1 : 1 ≤ k) (h2 : k ≤ 8) (hx : x < 2 ^ (8 * k)) (hx2 : x < 9223372036854775808) (hn : n ≤ 1000) :
    Calls Tryd.prog 21 #[v, .int .i64 x, .int .i64 k] w fun e w' => ∃ v', e = .returned v' ∧ w'.ownsRow base 5 1 v' (n + k) (bts (l ++ putL x k)) ∧ Below base w w' := by
  obtain ⟨i0, hi, hz0, hz1, hz2⟩ := info_parts info_u8
  have q : Calls Tryd.prog 29 #[.int .u64 x, .int .i64 k] w (RefMade (putL x k) w) := (refPut_any x k w h1 h2 (by omega)).mono fun e w' h => by
    unfold PutRef at h
    rwa [if_pos hx] at h
  obtain ⟨A, c, rfl, _, _, _⟩ := own_shape hown
  clear hx
  go_enter Tryd.func21, Tryd.ntmps21
  go_wp2_with fail
  refine q.mono ?_
  clear q
  rintro e w1 ⟨v1, rfl, hown1, hb1⟩
  obtain ⟨A1, c1, rfl, hr1, _, _⟩ := own_shape hown1
  have hown2 : w1.ownsRow base 5 1 (.slice A n c) n (bts l) := own_below hown hb1
  have hb2 := hb1.mono hbase
  have hlen := putL_length x k
  clear hown hown1
  rw [hlen] at hr1
  go_wp2_with (at_builtin; refine appendAll _ rfl (.tmp 16) (.tmp 17) 24 rfl base 5 i0 (.int .u8 0) 1 Tryd.underlying24 hi hz0 hz1 hz2 rfl (.slice A n c) n (bts l) rfl hown2 _ A1 k c1 (bts (putL x k)) rfl hr1 (bts_one _) (by unfold maxLen; omega) (by omega) w hb2 (Nat.le_trans hbase hb1.size) ?_; intro v3 w3 hown3 hgr3 hb3)
  go_ret
  exact ⟨v3, rfl, by rw [bts_append]; exact hown3, hb3⟩
theorem number_any (A : Option Addr) (c B : Nat) (l : List Nat) (j : Nat) (hj : j < 8) (w : World) (hs : Small l) (hr : Reads w B A 128 (bts l)) :
    Calls Tryd.prog 24 #[.slice A 128 c, .int .i64 ((offL.getD j 0 : Nat) : Int), .int .i64 ((widL.getD j 0 : Nat) : Int)] w fun e w' => e = .returned (.int .i64 (if numAt l j > 4611686018427387904 then -1 else (numAt l j : Int))) ∧ w = w' := by
  have hw := wid_off ⟨j, hj⟩
  simp only at hw
  have q := refGet_ok A 128 c B l (offL.getD j 0) (widL.getD j 0) w hw.1 hw.2.1 hs hr (by decide) (by omega)
  have hnum : getN (cutAt l (offL.getD j 0) (widL.getD j 0)) = numAt l j := rfl
  rw [hnum] at q
  clear hnum hw
  generalize numAt l j = x at *
  generalize offL.getD j 0 = o at *
  generalize widL.getD j 0 = d at *
  by_cases h : x > 4611686018427387904
  · rw [if_pos h]
    have hd : decide ((x : Int) > 4611686018427387904) = true := by simp; omega
    clear h
    go_enter Tryd.func24, Tryd.ntmps24
    go_wp2_with fail
    refine q.mono ?_
    rintro e w1 ⟨rfl, rfl⟩
    go_wp2_with fail
    go_ret
    exact ⟨rfl, rfl⟩
  · rw [if_neg h]
    have hd : decide ((x : Int) > 4611686018427387904) = false := by simp; omega
    have hwr : wrap64 (x : Int) = (x : Int) := IntWalk.wrap64_in _ (by omega)
    clear h
    go_enter Tryd.func24, Tryd.ntmps24
    go_wp2_with fail
    refine q.mono ?_
    rintro e w1 ⟨rfl, rfl⟩
    go_wp2_with fail
    go_ret
    exact ⟨by show Ending.returned (.int .i64 (wrap64 (x : Int))) = _; rw [hwr], rfl⟩
end Go.Proofs.YtceebcaeodmllaaDoor.S
