/-
  The contract of Rank: the rows' order by putting each ahead of the first that it stands above.
  Conditions: each theorem's own.
-/
import Derived.Test.YthnjnpighnlodaaRt
import Derived.Test.YthnjnpighnlodaaRk
import Derived.Test.YthnjnpighnlodaaLi
import Derived.Test.YthnjnpighnlodaaAp
import Derived.Deep.RegionWith
import Derived.WalkMore
import Derived.Deep.LoopGhost
namespace Go.Proofs.Ythnjnpighnlodaa
open Go.RowKit

/-- The cells of the tops, the first k of which are set. -/
def tops (tp : Nat → Nat) (th : Nat → Bool) (n k : Nat) : List Value :=
  (List.range (n * 2)).map fun j => if j % 2 = 0 then .float .f64 (if j / 2 < k then tp (j / 2) else 0) else .bool (if j / 2 < k then th (j / 2) else false)
section
variable (tp : Nat → Nat) (th : Nat → Bool)
theorem tops_length (n k : Nat) : (tops tp th n k).length = n * 2 := by simp [tops]
theorem tops_get (n k j : Nat) (h : j < n * 2) : (tops tp th n k)[j]? = some (if j % 2 = 0 then .float .f64 (if j / 2 < k then tp (j / 2) else 0) else .bool (if j / 2 < k then th (j / 2) else false)) := by
  rw [tops, List.getElem?_map, List.getElem?_range h]; rfl
theorem tops_float (n k i : Nat) (h : i < n) : (tops tp th n k)[i * 2]? = some (.float .f64 (if i < k then tp i else 0)) := by
  rw [tops_get tp th n k _ (by omega), if_pos (by omega), show i * 2 / 2 = i by omega]
theorem tops_bool (n k i : Nat) (h : i < n) : (tops tp th n k)[i * 2 + 1]? = some (.bool (if i < k then th i else false)) := by
  rw [tops_get tp th n k _ (by omega), if_neg (by omega), show (i * 2 + 1) / 2 = i by omega]
theorem tops_zero (n : Nat) : (madeCells #[Value.float .f64 0, Value.bool false] (n * 2)).toList = tops tp th n 0 := by
  apply List.ext_getElem?
  intro j
  by_cases h : j < n * 2
  · rw [tops_get tp th n 0 j h]
    rcases Nat.mod_two_eq_zero_or_one j with e | e
    · simp [madeCells, h, e]
    · simp [madeCells, h, e]
  · have e2 : (tops tp th n 0)[j]? = none := List.getElem?_eq_none (by rw [tops_length]; omega)
    rw [e2]
    simp [madeCells, h]
theorem tops_set (n k : Nat) (h : k < n) : ((tops tp th n k).set (k * 2) (.float .f64 (tp k))).set (k * 2 + 1) (.bool (th k)) = tops tp th n (k + 1) := by
  apply List.ext_getElem?
  intro j
  rw [List.getElem?_set, List.getElem?_set, List.length_set, tops_length]
  by_cases hj : j < n * 2
  · rw [tops_get tp th n (k + 1) j hj]
    by_cases h1 : k * 2 + 1 = j
    · subst h1
      rw [if_pos rfl, if_pos hj, if_neg (by omega), show (k * 2 + 1) / 2 = k by omega, if_pos (by omega)]
    · rw [if_neg h1]
      by_cases h2 : k * 2 = j
      · subst h2
        rw [if_pos rfl, if_pos hj, if_pos (by omega), show k * 2 / 2 = k by omega, if_pos (by omega)]
      · rw [if_neg h2, tops_get tp th n k j hj]
        have e : (j / 2 < k) ↔ (j / 2 < k + 1) := by omega
        simp only [e]
  · rw [if_neg (by omega), if_neg (by omega), List.getElem?_eq_none (by rw [tops_length]; omega), List.getElem?_eq_none (by rw [tops_length]; omega)]
end

theorem grown_of {w w' : World} (h : Below w.heap.size w w') : w.grownBy w' none := ⟨h.os, h.tape, h.output, h.size, fun k hk _ => h.block k hk⟩
theorem own_over {w w' : World} {base : Nat} {e : TypeId} {size : Nat} {v : Value} {n : Nat} {xs : List Value} (h : w.ownsRow base e size v n xs) (hb : Below w.heap.size w w') : w'.ownsRow base e size v n xs :=
  h.kept (grown_of hb) (by cases v <;> simp [Value.ownBlock] <;> split <;> simp)

def rowAt (rs : List Row) (i : Nat) : Row := rs.getD i ⟨none, 0, 0, []⟩
def abvR (rs : List Row) (p q : Nat) : Bool := (rowAt rs p).there && (!(rowAt rs q).there || decide (cmpT (rowAt rs p).top (rowAt rs q).top > 0))
theorem rowAt_of {rs : List Row} {i : Nat} {r : Row} (h : rs[i]? = some r) : rowAt rs i = r := by simp [rowAt, List.getD, h]
theorem info_top : (Try.prog.info? 50).map (fun i => (i.zero, i.size, i.bytes)) = some (some (.agg #[.float .f64 0, .bool false]), 2, 16) := by kernel_rfl
theorem info_int : (Try.prog.info? 3).map (fun i => (i.zero, i.size, i.bytes)) = some (some (.int .i64 0), 1, 8) := by kernel_rfl

/-- The shape of an owned row. -/
theorem own_shape {w : World} {base : Nat} {e : TypeId} {v : Value} {n : Nat} {xs : List Value} (h : w.ownsRow base e 1 v n xs) :
    ∃ A c, v = .slice A n c ∧ Reads w w.heap.size A n xs ∧ n ≤ c ∧ c ≤ maxLen := by
  have hl : xs.length = n := by simpa using h.1
  have h0 := h
  rcases h.2 with ⟨rfl, rfl⟩ | ⟨g, cap, cur, rfl, _, _, hnc, hcm, _⟩
  · exact ⟨none, 0, rfl, ⟨hl, fun hn => absurd hn (by omega)⟩, Nat.le_refl _, by unfold maxLen; omega⟩
  · exact ⟨_, cap, rfl, Reads.of_own h0, hnc, hcm⟩
theorem own_mono {w : World} {base B : Nat} {e : TypeId} {size : Nat} {v : Value} {n : Nat} {xs : List Value} (h : w.ownsRow base e size v n xs) (hB : B ≤ base) : w.ownsRow B e size v n xs := by
  refine ⟨h.1, ?_⟩
  rcases h.2 with h1 | ⟨g, cap, cur, hv, hb, hrest⟩
  · exact .inl h1
  · exact .inr ⟨g, cap, cur, hv, by omega, hrest⟩
theorem Reads.num {w : World} {B n : Nat} {A : Option Addr} {l : List Nat} {k : Nat} (h : Reads w B A n (ints l)) (hk : k < n) :
    ∃ ad, A = some ad ∧ ad.block < B ∧ w.cell? (ad.add k) = some (.int .i64 ((l.getD k 0 : Nat) : Int)) := by
  obtain ⟨ad, u, e, hb, hx, hc⟩ := h.at_ hk
  rw [ints_get l k (by rw [← ints_length l, h.1]; exact hk)] at hx
  exact ⟨ad, e, hb, by rw [hc, ← hx]⟩
theorem rank_get_lt {abv : Nat → Nat → Bool} (p k : Nat) (hk : k < p) : (Rk.rankTo abv p).getD k 0 < p := by
  have hl : k < (Rk.rankTo abv p).length := by rw [Rk.rank_length]; exact hk
  have e : (Rk.rankTo abv p).getD k 0 = (Rk.rankTo abv p)[k] := by simp [List.getD, List.getElem?_eq_getElem hl]
  rw [e]
  exact Rk.rank_lt (List.getElem_mem hl)

theorem rank_no (A : Option Addr) (n c : Nat) (w : World) (hn : 17 < n) :
    Calls Try.prog 25 #[.slice A n c] w fun e w' => e = .returned (.tuple #[.slice none 0 0, .int .i64 1]) ∧ w = w' := by
  go_enter Try.func25, Try.ntmps25
  go_wp2
  go_step3
  go_wp2
  try rw [Exit.noGoto_ret]
  go_ret2
  exact ⟨rfl, rfl⟩

theorem ins_here (abv : Nat → Nat → Bool) (p : Nat) : ∀ (l : List Nat) (k : Nat), (∀ j, j < k → abv p (l.getD j 0) = false) → k < l.length → abv p (l.getD k 0) = true → Rk.ins abv p l = l.take k ++ p :: l.drop k
  | [], k, _, h, _ => by simp at h
  | q :: l, 0, _, _, h => by
    have : abv p q = true := by simpa using h
    simp [Rk.ins, this]
  | q :: l, k + 1, hf, hk, h => by
    have h0 : abv p q = false := by simpa using hf 0 (by omega)
    have ih := ins_here abv p l k (fun j hj => by simpa using hf (j + 1) (by omega)) (by simpa using hk) (by simpa using h)
    simp [Rk.ins, h0, ih]
theorem ins_end (abv : Nat → Nat → Bool) (p : Nat) : ∀ (l : List Nat), (∀ j, j < l.length → abv p (l.getD j 0) = false) → Rk.ins abv p l = l ++ [p]
  | [], _ => rfl
  | q :: l, hf => by
    have h0 : abv p q = false := by simpa using hf 0 (by simp)
    have ih := ins_end abv p l (fun j hj => by simpa using hf (j + 1) (by simpa using hj))
    simp [Rk.ins, h0, ih]

set_option maxHeartbeats 1000000 in
theorem rank_any (A : Option Addr) (n c L : Nat) (rs : List Row) (w : World) (hr : RowsAre w L A n rs) (hL : L ≤ w.heap.size) (hn : n ≤ 17) :
    Calls Try.prog 25 #[.slice A n c] w fun e w' => ∃ v, e = .returned (.tuple #[v, .int .i64 0]) ∧ w'.ownsRow w.heap.size 3 1 v n (ints (Rk.rankTo (abvR rs) n)) ∧ Below w.heap.size w w' := by
  obtain ⟨i0, hi, hz0, hz1, hz2⟩ := info_parts info_top
  have HT := Lib.hid topOf_any
  have HR := Lib.hid hr
  clear hr
  go_enter Try.func25, Try.ntmps25
  go_wp2
  go_step3
  go_wp2_with (at_make; refine wpList_make_full _ rfl _ _ 48 rfl w.heap.size 50 i0 (.agg #[.float .f64 0, .bool false]) 2 Try.underlying48 hi hz0 hz1 _ _ _ _ n rfl rfl rfl rfl ?_ ?_ (Nat.le_refl _) ?_)
  · rw [hz2]; omega
  · unfold maxLen; omega
  intro w0 hown0 hgrow0
  have hbelow0 : Below w.heap.size w w0 := (Below.refl _ _).grown hgrow0 (Nat.le_refl _) (fun k h => by cases h)
  clear hgrow0
  go_wp2
  clear hi hz0 hz1 hz2
  have hgsz : w.heap.size < w0.heap.size := (hown0.lt w.heap.size rfl).2
  have hgg := Nat.le_refl w.heap.size
  rw [tops_zero (fun i => (rowAt rs i).top) (fun i => (rowAt rs i).there)] at hown0
  generalize hgs : w.heap.size = g at *
  have Hgs := Lib.hid hgs
  clear hgs
  go_loopw [19] (fun s19 wr => ∃ k : Nat, k ≤ n ∧ s19 = .int .i64 k ∧ wr.ownsRow g 50 2 (.slice (some ⟨g, 0, none⟩) n n) n (tops (fun i => (rowAt rs i).top) (fun i => (rowAt rs i).there) n k) ∧ Below g w wr) (fun i _ => n - (intOf i).toNat)
  case atStart => exact ⟨0, Nat.zero_le _, rfl, hown0, hbelow0⟩
  case round =>
    obtain ⟨k, hk, rfl, hown, hbel⟩ := hrel
    have hsz : g ≤ wr.heap.size := by rw [← Hgs.out]; exact hbel.size
    by_cases hlt : k < n
    · obtain ⟨ad, r, rfl, hb1, hr1, hc1, hd1, hw1, hn1⟩ := (HR.out.below (hbel.mono hL)).row hlt
      have Hd := Lib.hid (hd1.more hL |>.more hsz)
      have hrow := rowAt_of hr1
      clear hr1 hd1 hw1
      go_wp2_with fail
      have q : Calls Try.prog 33 #[.slice r.A r.n r.c] wr fun e w' => e = .returned (.agg #[.float .f64 r.top, .bool r.there]) ∧ Below wr.heap.size wr w' := HT.out _ _ _ _ _ wr Hd.out (Nat.le_refl _) hn1
      refine q.mono ?_
      clear q
      rintro e w1 ⟨rfl, hb2⟩
      have hown2 := own_over hown hb2
      have hbel2 := hbel.trans (hb2.mono hsz)
      have hc0 := hown2.cellAt (k * 2) (by omega)
      rw [tops_float _ _ n k k hlt, if_neg (by omega)] at hc0
      have hf0 := hown2.frozenAt (k * 2)
      have hst := hown2.stored (k * 2) (.float .f64 r.top)
      have hc1' := hst.1.cellAt (k * 2 + 1) (by omega)
      rw [List.getElem?_set_ne (by omega), tops_bool _ _ n k k hlt, if_neg (by omega)] at hc1'
      have hf1 := hst.1.frozenAt (k * 2 + 1)
      have hst2 := (hst.1.stored (k * 2 + 1) (.bool r.there)).1
      have hset := tops_set (fun i => (rowAt rs i).top) (fun i => (rowAt rs i).there) n k hlt
      simp only [hrow] at hset
      rw [hset] at hst2
      have hbel3 := (hbel2.setCell (p := ⟨g, k * 2, none⟩) (Nat.le_refl _) (.float .f64 r.top)).setCell (p := ⟨g, k * 2 + 1, none⟩) (Nat.le_refl _) (.bool r.there)
      have s0 : (store ⟨g, k * 2, none⟩ (.float .f64 r.top)).run Try.prog w1 = .ok () (w1.setCell ⟨g, k * 2, none⟩ (.float .f64 r.top)) := by rw [run_store _ _ _ _ _ rfl, hc0]; simp only [hf0]; rfl
      have Hst := Lib.hid hst2
      clear hst hst2 hset hown hown2 hbel hbel2 hb2 hrow
      generalize r.top = tx at *
      generalize r.there = bx at *
      go_wp2
      go_roundw
      case rel => exact ⟨k + 1, by omega, by go_num, Hst.out, hbel3⟩
      case measure => simp [intOf]; omega
    · obtain rfl : k = n := by omega
      clear hown0 hbelow0 hgg hgsz HT
      have hg2 := (hown.lt g rfl).2
      have Htop := Lib.hid (fun i (hik : i < k) => (show wr.cell? ⟨g, i * 2, none⟩ = some (.float .f64 (rowAt rs i).top) by
        have h1 := hown.cellAt (i * 2) (by omega)
        rwa [tops_float _ _ k k i hik, if_pos hik] at h1))
      have Hthere := Lib.hid (fun i (hik : i < k) => (show wr.cell? ⟨g, i * 2 + 1, none⟩ = some (.bool (rowAt rs i).there) by
        have h1 := hown.cellAt (i * 2 + 1) (by omega)
        rwa [tops_bool _ _ k k i hik, if_pos hik] at h1))
      have HA := Lib.hid above_any
      clear hown
      generalize hwrr : wr = w2 at *
      have hszg : w2.heap.size = w2.heap.size := rfl
      go_wp2
      go_step3
      go_wp2
      have hnil : w2.ownsRow w2.heap.size 3 1 (.slice none 0 0) 0 (ints (Rk.rankTo (abvR rs) 0)) := World.ownsRow_nil _ _ _ _
      have hrefl := Below.refl w2.heap.size w2
      go_loopg [7, 32] k (fun G s7 s32 wx => ∃ p : Nat, p + G = k ∧ s32 = .int .i64 p ∧ wx.ownsRow w2.heap.size 3 1 s7 p (ints (Rk.rankTo (abvR rs) p)) ∧ Below w2.heap.size w2 wx)
      case atStart => exact ⟨0, by omega, rfl, hnil, hrefl⟩
      case round =>
        obtain ⟨p, hpG, rfl, hrow, hbx⟩ := hrel
        cases gk with
        | zero =>
          obtain rfl : p = k := by omega
          go_wp2
          try rw [Exit.noGoto_ret]
          go_ret2
          refine ⟨_, rfl, ?_, ?_⟩
          · rw [Hgs.out]; exact own_mono hrow hsz
          · rw [Hgs.out]; exact hbel.trans (hbx.mono hsz)
        | succ G =>
          have hpk : p < k := by omega
          have Hins := Lib.hid (show Rk.rankTo (abvR rs) (p + 1) = Rk.ins (abvR rs) p (Rk.rankTo (abvR rs) p) from rfl)
          have Hlen := Lib.hid (Rk.rank_length (abv := abvR rs) p)
          have Hmem := Lib.hid (fun j (hj : j < p) => rank_get_lt (abv := abvR rs) p j hj)
          obtain ⟨A7, c7, rfl, _, _, _⟩ := own_shape hrow
          have hbx0 := hbx
          have hl17 : p ≤ 17 := by omega
          generalize Rk.rankTo (abvR rs) p = l at *
          go_wp2
          go_loopg [7, 37] p (fun G2 s7 s37 wy => ∃ j : Nat, j + G2 = p ∧ s7 = .slice A7 p c7 ∧ s37 = .int .i64 j ∧ Hid (∀ x, x < j → abvR rs p (l.getD x 0) = false) ∧ wy.ownsRow w2.heap.size 3 1 (.slice A7 p c7) p (ints l) ∧ Below w2.heap.size w2 wy)
          case atStart => exact ⟨0, by omega, rfl, rfl, Lib.hid (fun x hx => absurd hx (by omega)), hrow, hbx⟩
          case round =>
            obtain ⟨j, hjG, rfl, rfl, HF, hrow2, hby⟩ := hrel
            have hszy : w2.heap.size ≤ wr.heap.size := hby.size
            cases gk with
            | zero =>
              obtain rfl : j = p := by omega
              have Hfin := Lib.hid (show ints (Rk.rankTo (abvR rs) (j + 1)) = ints l ++ [.int .i64 (j : Int)] by
                rw [Hins.out, ins_end (abvR rs) j l (by rw [Hlen.out]; exact HF.out), ints_append]; rfl)
              obtain ⟨i1, hi1, hz0, hz1, hz2⟩ := info_parts info_int
              go_wp2_with (at_builtin; go_must (refine Ap.append1 rfl _ _ 39 rfl w2.heap.size 3 i1 (.int .i64 0) 8 Try.underlying39 hi1 hz0 hz1 hz2 rfl _ j _ rfl (.int .i64 j) rfl rfl (by exact hrow2) (by unfold maxLen; omega) (by omega) w2 hby (by omega) ?_); intro v' w5 hown5 hbel5)
              rw [← Hfin.out] at hown5
              go_wp2
              go_roundg G
              case measure => omega
              case rel => exact ⟨j + 1, by omega, by go_num, hown5, hbel5⟩
            | succ G2 =>
              have hjp : j < p := by omega
              obtain ⟨ad, rfl, hbad, hcj⟩ := (Reads.of_own hrow2).num hjp
              have hqp := Hmem.out j hjp
              have Hq := Lib.hid hqp
              have Hcq := Lib.hid (rfl : l.getD j 0 = l.getD j 0)
              generalize hqd : l.getD j 0 = q at *
              have Hqd := Lib.hid hqd
              clear hqd
              have cp0 := (hby.cell (p := ⟨g, p * 2, none⟩) hg2).trans (Htop.out p hpk)
              have cp1 := (hby.cell (p := ⟨g, p * 2 + 1, none⟩) hg2).trans (Hthere.out p hpk)
              have cq0 := (hby.cell (p := ⟨g, q * 2, none⟩) hg2).trans (Htop.out q (by omega))
              have cq1 := (hby.cell (p := ⟨g, q * 2 + 1, none⟩) hg2).trans (Hthere.out q (by omega))
              have qa := HA.out (rowAt rs p).top (rowAt rs q).top (rowAt rs p).there (rowAt rs q).there
              have hqk : q < k := by omega
              have qb : ∀ w, Calls Try.prog 34 #[.agg #[.float .f64 (rowAt rs p).top, .bool (rowAt rs p).there], .agg #[.float .f64 (rowAt rs q).top, .bool (rowAt rs q).there]] w fun e w' => e = .returned (.bool (abvR rs p q)) ∧ Below w.heap.size w w' := qa
              have Qb := Lib.hid qb
              clear qa qb Hcq hqp
              generalize (rowAt rs p).top = tp at *
              generalize (rowAt rs q).top = tq at *
              generalize (rowAt rs p).there = bp at *
              generalize (rowAt rs q).there = bq at *
              cases hab : abvR rs p q with
              | true =>
                have Hfin := Lib.hid (show ints (Rk.rankTo (abvR rs) (p + 1)) = ints (l.take j ++ p :: l.drop j) by
                  rw [Hins.out, ins_here (abvR rs) p l j HF.out (by rw [Hlen.out]; exact hjp) (by rw [Hqd.out]; exact hab)])
                rw [hab] at Qb
                clear hab
                go_wp2
                go_region_with (go_at_call 34; refine (Qb.out _).mono ?_; rintro e w5 ⟨rfl, hb5⟩)
                all_goals
                  have hb6 : Below wr.heap.size wr w5 := (Below.refl _ _).drew.trans hb5
                  have hrow5 := own_over hrow2 hb6
                  have hby5 := hby.trans (hb6.mono hszy)
                  have hsz5 : w2.heap.size ≤ w5.heap.size := hby5.size
                  go_wp2_with (go_at_call 35; refine (insert_own hrow5 hjp hl17 hby5 hsz5).mono ?_; rintro e w6 ⟨v', rfl, hown6, hb7⟩)
                  rw [← Hfin.out] at hown6
                  go_roundg G
                  case measure => omega
                  case rel => exact ⟨p + 1, by omega, by go_num, hown6, hb7⟩
              | false =>
                have HF2 := Lib.hid (show ∀ x, x < j + 1 → abvR rs p (l.getD x 0) = false from fun x hx => by
                  rcases Nat.lt_or_ge x j with h | h
                  · exact HF.out x h
                  · obtain rfl : x = j := by omega
                    rw [Hqd.out]; exact hab)
                rw [hab] at Qb
                clear hab
                go_wp2
                go_region_with (go_at_call 34; refine (Qb.out _).mono ?_; rintro e w5 ⟨rfl, hb5⟩)
                all_goals
                  have hb6 : Below wr.heap.size wr w5 := (Below.refl _ _).drew.trans hb5
                  have hrow5 := own_over hrow2 hb6
                  have hby5 := hby.trans (hb6.mono hszy)
                  go_wp2
                  go_roundg G2
                  case measure => omega
                  case rel => exact ⟨j + 1, by omega, rfl, by go_num, HF2, hrow5, hby5⟩
end Go.Proofs.Ythnjnpighnlodaa
