/-
  The contracts of Xor, of the program and of the definition.
  Conditions: each theorem's own.
-/
import Derived.Test.YtbagmmngepkaeaaDoorRefPut
namespace Go.Proofs.YtbagmmngepkaeaaDoor
open Go.RowKit

def xorL (a b : List Nat) : List Nat := tab (fun i => a.getD i 0 ^^^ b.getD i 0) a.length

set_option maxHeartbeats 400000 in
theorem xor_no (A B : Option Addr) (n m c d : Nat) (w : World) (h : n ≠ m) :
    Calls Tryd.prog 19 #[.slice A n c, .slice B m d] w (Refused w) := by
  have hb : ((n : Int) != (m : Int)) = true := by rw [bne_iff_ne]; omega
  clear h
  go_enter Tryd.func19, Tryd.ntmps19
  go_wp2
  go_ret2
  exact ⟨rfl, rfl⟩

set_option maxHeartbeats 400000 in
theorem xor_ok (A B : Option Addr) (n c d L : Nat) (a b : List Nat) (w : World) (ha : Small a) (hb : Small b) (hra : Reads w L A n (bts a)) (hrb : Reads w L B n (bts b)) (hL : L ≤ w.heap.size) (hn : n ≤ 140737488351232) :
    Calls Tryd.prog 19 #[.slice A n c, .slice B n d] w (Made (xorL a b) w) := by
  obtain ⟨i0, hi, hz0, hz1, hz2⟩ := info_parts info_u8
  have hla := hra.len
  go_enter Tryd.func19, Tryd.ntmps19
  go_wp2_with (first
    | (at_make; refine wpList_make_full _ rfl _ _ 23 rfl w.heap.size 5 i0 (.int .u8 0) 1 Tryd.underlying23 hi hz0 hz1 _ _ _ _ n rfl rfl rfl rfl (by rw [hz2]; omega) (by unfold maxLen; omega) (Nat.le_refl _) ?_; intro w0 hown0 hgrow0))
  have hbelow0 : Below w.heap.size w w0 := (Below.refl _ _).grown hgrow0 (Nat.le_refl _) (fun k h => by cases h)
  clear hgrow0 hi hz0 hz1 hz2
  rw [made_zero fun i => a.getD i 0 ^^^ b.getD i 0] at hown0
  have hfin : Hid ((xorL a b).length = n ∧ tabTo (fun i => a.getD i 0 ^^^ b.getD i 0) n n = xorL a b) := Lib.hid ⟨by rw [xorL, tab_length, hla], by rw [tabTo_all, xorL, hla]⟩
  generalize hgs : w.heap.size = g at *
  have Hgs := Lib.hid hgs
  clear hgs hla
  go_loopw [18] (fun i wr => ∃ k : Nat, k ≤ n ∧ i = .int .i64 k ∧ wr.ownsRow g 5 1 (.slice (some ⟨g, 0, none⟩) n n) n (bts (tabTo (fun i => a.getD i 0 ^^^ b.getD i 0) n k)) ∧ Below g w wr) (fun i _ => n - (intOf i).toNat)
  case atStart => exact ⟨0, Nat.zero_le _, rfl, hown0, hbelow0⟩
  case round =>
    obtain ⟨k, hk, rfl, hown, hbel⟩ := hrel
    by_cases hlt : k < n
    · have hra2 := (hra.more hL).below hbel
      have hrb2 := (hrb.more hL).below hbel
      obtain ⟨ad, rfl, hba, hca⟩ := hra2.byte hlt
      obtain ⟨bd, rfl, hbb, hcb⟩ := hrb2.byte hlt
      have hxa := ha.get k
      have hxb := hb.get k
      have hst := (hown.stored k (.int .u8 ((a.getD k 0 ^^^ b.getD k 0 : Nat) : Int))).1
      rw [tabTo_succ (fun i => a.getD i 0 ^^^ b.getD i 0)] at hst
      have hbel2 := hbel.setCell (p := ⟨g, k, none⟩) (Nat.le_refl _) (.int .u8 ((a.getD k 0 ^^^ b.getD k 0 : Nat) : Int))
      have hfz := hown.frozenAt k
      have hc := hown.cellAt k (by omega)
      rw [bts_get _ _ (by rw [tabTo_length]; exact hlt)] at hc
      generalize (tabTo (fun i => a.getD i 0 ^^^ b.getD i 0) n k).getD k 0 = old at hc
      have e1 := u8_xor_nat _ _ hxa hxb
      have Hst := Lib.hid hst
      clear hst hown hown0 hbel hbelow0 hra hrb hra2 hrb2
      generalize a.getD k 0 = x at *
      generalize b.getD k 0 = y at *
      go_wp2
      go_region
      go_wp2
      go_roundw
      case rel => exact ⟨k + 1, by omega, by go_num, Hst.out, hbel2.drew⟩
      case measure => simp [intOf]; omega
    · obtain rfl : k = n := by omega
      go_wp2
      go_ret2
      exact ⟨_, rfl, by rw [hfin.out.1, ← hfin.out.2, Hgs.out]; exact hown, by rw [Hgs.out]; exact hbel⟩

set_option maxHeartbeats 400000 in
theorem refXor_no (A B : Option Addr) (n m c d : Nat) (w : World) (h : n ≠ m) :
    Calls Tryd.prog 20 #[.slice A n c, .slice B m d] w (RefRefused w) := by
  have hb : ((n : Int) != (m : Int)) = true := by rw [bne_iff_ne]; omega
  clear h
  go_enter Tryd.func20, Tryd.ntmps20
  go_wp2
  go_ret2
  exact ⟨rfl, Below.refl _ _⟩

set_option maxHeartbeats 400000 in
theorem refXor_ok (A B : Option Addr) (n c d L : Nat) (a b : List Nat) (w : World) (ha : Small a) (hb : Small b) (hra : Reads w L A n (bts a)) (hrb : Reads w L B n (bts b)) (hL : L ≤ w.heap.size) (hn : n ≤ 140737488351232) :
    Calls Tryd.prog 20 #[.slice A n c, .slice B n d] w (RefMade (xorL a b) w) := by
  obtain ⟨i0, hi, hz0, hz1, hz2⟩ := info_parts info_u8
  have hla := hra.len
  go_enter Tryd.func20, Tryd.ntmps20
  go_wp2
  have hfin : Hid ((xorL a b).length = n ∧ (xorL a b).take n = xorL a b) := Lib.hid ⟨by rw [xorL, tab_length, hla], by rw [List.take_of_length_le (by rw [xorL, tab_length]; omega)]⟩
  have htk : Hid (∀ k, k < n → bts ((xorL a b).take (k + 1)) = bts ((xorL a b).take k) ++ [.int .u8 ((a.getD k 0 ^^^ b.getD k 0 : Nat) : Int)]) := Lib.hid fun k hk => tab_take_succ (fun i => a.getD i 0 ^^^ b.getD i 0) a.length k (by omega)
  generalize hgs : w.heap.size = g at *
  have Hgs := Lib.hid hgs
  clear hgs hla
  go_loopw [6, 7] (fun s6 s7 wr => ∃ k : Nat, k ≤ n ∧ s7 = .int .i64 k ∧ wr.ownsRow g 5 1 s6 k (bts ((xorL a b).take k)) ∧ Below g w wr) (fun _ i _ => n - (intOf i).toNat)
  case atStart => exact ⟨0, Nat.zero_le _, rfl, by simpa [bts] using World.ownsRow_nil w g 5 1, Below.refl _ _⟩
  case round =>
    obtain ⟨k, hk, rfl, hown, hbel⟩ := hrel
    have hsz : g ≤ wr.heap.size := by rw [← Hgs.out]; exact hbel.size
    by_cases hlt : k < n
    · have hra2 := (hra.more hL).below hbel
      have hrb2 := (hrb.more hL).below hbel
      obtain ⟨ad, rfl, hba, hca⟩ := hra2.byte hlt
      obtain ⟨bd, rfl, hbb, hcb⟩ := hrb2.byte hlt
      have hxa := ha.get k
      have hxb := hb.get k
      have e1 := u8_xor_nat _ _ hxa hxb
      have htk1 := Lib.hid (htk.out k hlt)
      clear hra hrb hra2 hrb2
      generalize a.getD k 0 = x at *
      generalize b.getD k 0 = y at *
      go_wp2
      go_region_law (first | (refine step_append1 (wr := wr.drew) rfl _ _ 23 rfl g 5 i0 (.int .u8 0) 1 Tryd.underlying23 hi hz0 hz1 hz2 rfl _ k _ rfl (.int .u8 ((x ^^^ y : Nat) : Int)) rfl rfl (by exact hown) (by unfold maxLen; omega) (by omega) w (by exact hbel.drew) (by exact hsz) ?_; intro v' w1 hgr))
      all_goals
        have hgr2 := hgr
        rw [← htk1.out] at hgr2
        have Hg := Lib.hid hgr2
        clear hgr hgr2
        go_wp2
        go_roundw
        case rel => exact ⟨k + 1, by omega, by go_num, Hg.out.1, Hg.out.2⟩
        case measure => simp [intOf]; omega
    · obtain rfl : k = n := by omega
      go_wp2
      go_ret2
      refine ⟨_, rfl, ?_, by rw [Hgs.out]; exact hbel⟩
      rw [hfin.out.1, Hgs.out]
      rw [hfin.out.2] at hown
      exact hown
end Go.Proofs.YtbagmmngepkaeaaDoor
