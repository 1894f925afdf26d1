/-
  The contract of the definition's Ahead.
  Conditions: each theorem's own.
-/
import Derived.Test.YthnjnpighnlodaaRt
import Derived.BigQuiet
import Derived.Deep.QuietTactic
namespace Go.Proofs.Ythnjnpighnlodaa
open Go.RowKit

def aheadB (r s : Row) (a b : Nat) : Bool :=
  if !r.there || !s.there then (r.there && !s.there) || (r.there == s.there && decide (a < b))
  else decide (cmpT r.top s.top > 0) || (decide (cmpT r.top s.top = 0) && decide (a < b))
theorem Row.top_there {r : Row} (h : 0 < r.n) : r.top = r.l.getD (wst r.l r.n) 0 := if_pos h

set_option maxHeartbeats 1600000 in
theorem ahead_any (A : Option Addr) (n c L a b : Nat) (rs : List Row) (r s : Row) (w : World) (hr : RowsAre w L A n rs) (hL : L ≤ w.heap.size) (ha : a < n) (hb : b < n) (_ : n ≤ 140737488351232) (hra : rs[a]? = some r) (hsb : rs[b]? = some s) :
    Calls Try.prog 36 #[.slice A n c, .int .i64 a, .int .i64 b] w fun e w' => e = .returned (.bool (aheadB r s a b)) ∧ Below w.heap.size w w' := by
  obtain ⟨ad, r', rfl, hb1, hr1, hc1, hd1, hw1, hn1⟩ := hr.row ha
  obtain ⟨ad2, s', e2, hb2, hs1, hc2, hd2, hw2, hn2⟩ := hr.row hb
  rw [hra] at hr1
  rw [hsb] at hs1
  injection hr1 with hr1
  injection hs1 with hs1
  injection e2 with e2
  subst hr1 hs1 e2
  have HW := Lib.hid refWorst_any
  have HC := Lib.hid refCompare_any
  have hwr := wst_lt r.l r.n r.n
  have hws := wst_lt s.l s.n s.n
  have hah : Hid (aheadB r s a b = if !r.there || !s.there then (r.there && !s.there) || (r.there == s.there && decide (a < b))
    else decide (cmpT r.top s.top > 0) || (decide (cmpT r.top s.top = 0) && decide (a < b))) := Lib.hid rfl
  have hab : decide ((a : Int) < (b : Int)) = decide (a < b) := by rw [decide_eq_decide]; omega
  go_enter Try.func36, Try.ntmps36
  go_wp2_with fail
  refine (HW.out _ _ _ L _ _ hw1 hd1 hL hn1).mono ?_
  rintro e w1 ⟨rfl, hbel1⟩
  have hbL1 : Below L w w1 := hbel1.mono hL
  have hc21 := (hbL1.cell (p := ad.add b) (by rw [block_of_add]; exact hb1)).trans hc2
  have hL1 : L ≤ w1.heap.size := Nat.le_trans hL hbel1.size
  go_wp2_with fail
  refine (HW.out _ _ _ L _ _ hw2 (hd2.below hbL1) hL1 hn2).mono ?_
  rintro e w2 ⟨rfl, hbel2⟩
  have hbel : Below w.heap.size w w2 := hbel1.trans (hbel2.mono hbel1.size)
  have hbL2 : Below L w w2 := hbel.mono hL
  have hc12 := (hbL2.cell (p := ad.add a) (by rw [block_of_add]; exact hb1)).trans hc1
  have hc22 := (hbL2.cell (p := ad.add b) (by rw [block_of_add]; exact hb1)).trans hc2
  have er : r.there = decide (0 < r.n) := rfl
  have es : s.there = decide (0 < s.n) := rfl
  by_cases h1 : 0 < r.n
  · rw [decide_eq_true h1] at er ⊢
    by_cases h2 : 0 < s.n
    · rw [decide_eq_true h2] at es ⊢
      have hd12 := hd1.below hbL2
      have hd22 := hd2.below hbL2
      obtain ⟨ar, hAr, hbr, hcr⟩ := hd12.fl (hwr h1 (Nat.le_refl _))
      obtain ⟨aS, hAs, hbs, hcs⟩ := hd22.fl (hws h2 (Nat.le_refl _))
      have hpr := hwr h1 (Nat.le_refl _)
      have hps := hws h2 (Nat.le_refl _)
      rw [hAr] at hc12
      rw [hAs] at hc22
      have hxw := hw1.get (wst r.l r.n)
      have hyw := hw2.get (wst s.l s.n)
      have hres : Hid (aheadB r s a b = (decide (cmpT (r.l.getD (wst r.l r.n) 0) (s.l.getD (wst s.l s.n) 0) > 0) || (decide (cmpT (r.l.getD (wst r.l r.n) 0) (s.l.getD (wst s.l s.n) 0) = 0) && decide (a < b)))) := Lib.hid (by rw [hah.out, er, es, Row.top_there h1, Row.top_there h2]; rfl)
      have hone := cmpT_one (r.l.getD (wst r.l r.n) 0) (s.l.getD (wst s.l s.n) 0)
      clear hd1 hd2 hd12 hd22 hwr hws hah er es hr hra hsb hw1 hw2 hc1 hc2 hc21 hbL1 hbL2 hbel1 hbel2
      generalize r.l.getD (wst r.l r.n) 0 = x at *
      generalize s.l.getD (wst s.l s.n) 0 = y at *
      generalize wst r.l r.n = p at *
      generalize wst s.l s.n = q at *
      have Hbel := Lib.hid hbel
      clear hbel
      rcases hone with hc | hc | hc
      all_goals
        rw [hc] at hres
        have ia : (a : Int) < (n : Int) := by omega
        have ib : (b : Int) < (n : Int) := by omega
        have ip : (p : Int) < (r.n : Int) := by omega
        have iq : (q : Int) < (s.n : Int) := by omega
        go_wp2_with fail
        go_quiet ((go_at_call 21; refine (HC.out _ _ _ hxw hyw).mono ?_; rintro e w' ⟨rfl, rfl⟩; exact ⟨rfl, _, rfl⟩))
        go_wp2
        go_returns
        exact ⟨by rw [hres.out, ← hab]; rfl, Hbel.out.trans ⟨rfl, rfl, rfl, Nat.le_refl _, fun _ _ => rfl⟩⟩
    · rw [decide_eq_false h2] at es ⊢
      have hres : Hid (aheadB r s a b = true) := Lib.hid (by rw [hah.out, er, es]; rfl)
      clear hah er es
      go_wp2
      go_returns
      exact ⟨by rw [hres.out]; rfl, hbel⟩
  · rw [decide_eq_false h1] at er ⊢
    by_cases h2 : 0 < s.n
    · rw [decide_eq_true h2] at es ⊢
      have hres : Hid (aheadB r s a b = false) := Lib.hid (by rw [hah.out, er, es]; rfl)
      clear hah er es
      go_wp2
      go_returns
      exact ⟨by rw [hres.out]; rfl, hbel⟩
    · rw [decide_eq_false h2] at es ⊢
      have hres : Hid (aheadB r s a b = decide (a < b)) := Lib.hid (by rw [hah.out, er, es]; rfl)
      clear hah er es
      go_wp2
      go_returns
      exact ⟨by rw [hres.out, ← hab]; rfl, hbel⟩
end Go.Proofs.Ythnjnpighnlodaa
