/-
  octets.Xor; lay: Members, Map, Capacity.
  Conditions: each theorem's own.
-/
import Derived.Test.YtplbgjjacomceaaGreatDoorQa
import Derived.Test.YtplbgjjacomceaaGreatDoorRows
import Derived.WalkKit
import Derived.WalkSpells
import Derived.WalkLawsBesides
import Derived.Below
import Derived.Laws.OwnMore
import Derived.Deep.AppendLies
import Derived.Deep.Draws
import Derived.Deep.QuietTactic
import Derived.BigQuiet
import Derived.Lib.Hide
import Derived.IntWalk
import Derived.Handy
import Derived.Deep.WholeRow
namespace Go.Proofs.YtplbgjjacomceaaGreatDoor
open Go.RowKit

def xorL (a b : List Nat) : List Nat := tab (fun i => a.getD i 0 ^^^ b.getD i 0) a.length

set_option maxHeartbeats 400000 in
theorem xor_no (A B : Option Addr) (n m c d : Nat) (w : World) (h : n ≠ m) :
    Calls Tryz.prog 109 #[.slice A n c, .slice B m d] w (Refused w) := by
  have hb : ((n : Int) != (m : Int)) = true := by rw [bne_iff_ne]; omega
  clear h
  go_enter Tryz.func109, Tryz.ntmps109
  go_wp2
  go_ret2
  exact ⟨rfl, rfl⟩

set_option maxHeartbeats 400000 in
theorem xor_ok (A B : Option Addr) (n c d L : Nat) (a b : List Nat) (w : World) (ha : Small a) (hb : Small b) (hra : Reads w L A n (bts a)) (hrb : Reads w L B n (bts b)) (hL : L ≤ w.heap.size) (hn : n ≤ 140737488351232) :
    Calls Tryz.prog 109 #[.slice A n c, .slice B n d] w (Made (xorL a b) w) := by
  obtain ⟨i0, hi, hz0, hz1, hz2⟩ := info_parts info_u8
  have hla := hra.len
  go_enter Tryz.func109, Tryz.ntmps109
  go_wp2_with (first
    | (at_make; refine wpList_make_full _ rfl _ _ 45 rfl w.heap.size 5 i0 (.int .u8 0) 1 Tryz.underlying45 hi hz0 hz1 _ _ _ _ n rfl rfl rfl rfl (by rw [hz2]; omega) (by unfold maxLen; omega) (Nat.le_refl _) ?_; intro w0 hown0 hgrow0))
  have hbelow0 : Below w.heap.size w w0 := (Below.refl _ _).grown hgrow0 (Nat.le_refl _) (fun k h => by cases h)
  clear hgrow0 hi hz0 hz1 hz2
  rw [made_zero fun i => a.getD i 0 ^^^ b.getD i 0] at hown0
  have hfin : Hid ((xorL a b).length = n ∧ tabTo (fun i => a.getD i 0 ^^^ b.getD i 0) n n = xorL a b) := Lib.hid ⟨by rw [xorL, tab_length, hla], by rw [tabTo_all, xorL, hla]⟩
  generalize hgs : w.heap.size = g at *
  have Hgs := Lib.hid hgs
  clear hgs hla
  go_loopw [18] (fun i wr => ∃ k : Nat, k ≤ n ∧ i = .int .i64 k ∧ wr.ownsRow g 5 1 (.slice (some ⟨g, 0, none⟩) n n) n (bts (tabTo (fun i => a.getD i 0 ^^^ b.getD i 0) n k)) ∧ Below g w wr) (fun i _ => n - (intOf i).toNat)
  case atStart => exact ⟨0, Nat.zero_le _, rfl, hown0, hbelow0⟩
  case round =>
    obtain ⟨k, hk, rfl, hown, hbel⟩ := hrel
    by_cases hlt : k < n
    · have hra2 := (hra.more hL).below hbel
      have hrb2 := (hrb.more hL).below hbel
      obtain ⟨ad, rfl, hba, hca⟩ := hra2.byte hlt
      obtain ⟨bd, rfl, hbb, hcb⟩ := hrb2.byte hlt
      have hxa := ha.get k
      have hxb := hb.get k
      have hst := (hown.stored k (.int .u8 ((a.getD k 0 ^^^ b.getD k 0 : Nat) : Int))).1
      rw [tabTo_succ (fun i => a.getD i 0 ^^^ b.getD i 0)] at hst
      have hbel2 := hbel.setCell (p := ⟨g, k, none⟩) (Nat.le_refl _) (.int .u8 ((a.getD k 0 ^^^ b.getD k 0 : Nat) : Int))
      have hfz := hown.frozenAt k
      have hc := hown.cellAt k (by omega)
      rw [bts_get _ _ (by rw [tabTo_length]; exact hlt)] at hc
      generalize (tabTo (fun i => a.getD i 0 ^^^ b.getD i 0) n k).getD k 0 = old at hc
      have e1 := u8_xor_nat _ _ hxa hxb
      have Hst := Lib.hid hst
      clear hst hown hown0 hbel hbelow0 hra hrb hra2 hrb2
      generalize a.getD k 0 = x at *
      generalize b.getD k 0 = y at *
      go_wp2
      go_region
      go_wp2
      go_roundw
      case rel => exact ⟨k + 1, by omega, by go_num, Hst.out, hbel2.drew⟩
      case measure => simp [intOf]; omega
    · obtain rfl : k = n := by omega
      go_wp2
      go_ret2
      exact ⟨_, rfl, by rw [hfin.out.1, ← hfin.out.2, Hgs.out]; exact hown, by rw [Hgs.out]; exact hbel⟩

end Go.Proofs.YtplbgjjacomceaaGreatDoor
namespace Go.Proofs.YtplbgjjacomceaaGreatDoor.L
open Go.RowKit

theorem block_of_add (a : Addr) (n : Nat) : (a.add n).block = a.block := by unfold Addr.add; split <;> rfl

/-- The slice '.slice A n _' holds the cells xs (one cell each), and lies below block B. -/
def Reads (w : World) (B : Nat) (A : Option Addr) (n : Nat) (xs : List Value) : Prop :=
  xs.length = n ∧ (0 < n → ∃ ad, A = some ad ∧ ad.block < B ∧ ∀ j u, xs[j]? = some u → w.cell? (ad.add j) = some u)

section
variable {w w' : World} {B B' n : Nat} {A : Option Addr} {xs : List Value}
theorem Reads.none_ : Reads w B A 0 [] := ⟨rfl, fun h => absurd h (by omega)⟩
theorem Reads.at_ {k : Nat} (h : Reads w B A n xs) (hk : k < n) : ∃ ad u, A = some ad ∧ ad.block < B ∧ xs[k]? = some u ∧ w.cell? (ad.add k) = some u := by
  obtain ⟨ad, e, hb, hc⟩ := h.2 (by omega)
  have hl : k < xs.length := by have := h.1; omega
  exact ⟨ad, xs[k], e, hb, List.getElem?_eq_getElem hl, hc k _ (List.getElem?_eq_getElem hl)⟩
theorem Reads.keep (h : Reads w B A n xs) (hk : ∀ p : Addr, p.block < B → w'.cell? p = w.cell? p) : Reads w' B A n xs :=
  ⟨h.1, fun hn => by
    obtain ⟨ad, e, hb, hc⟩ := h.2 hn
    exact ⟨ad, e, hb, fun j u hu => (hk _ (by rw [block_of_add]; exact hb)).trans (hc j u hu)⟩⟩
theorem Reads.more (h : Reads w B A n xs) (hB : B ≤ B') : Reads w B' A n xs :=
  ⟨h.1, fun hn => by
    obtain ⟨ad, e, hb, hc⟩ := h.2 hn
    exact ⟨ad, e, by omega, hc⟩⟩
theorem Reads.below (h : Reads w B A n xs) (hb : Below B w w') : Reads w' B A n xs := h.keep fun _ hp => hb.cell hp
theorem Reads.drewN (h : Reads w B A n xs) (k : Nat) : Reads (w.drewN k) B A n xs := h
theorem Reads.alloc (h : Reads w B A n xs) (hB : B ≤ w.heap.size) (o : Obj) : Reads (w.alloc o) B A n xs := h.keep fun p hp => World.cell?_alloc_lt w o p (by omega)
theorem Reads.setCell (h : Reads w B A n xs) {p : Addr} (hB : B ≤ p.block) (u : Value) : Reads (w.setCell p u) B A n xs :=
  h.keep fun q hq => World.cell?_setCell_other w p q u (fun e => by subst e; omega)
theorem Reads.of_own {base : Nat} {e : TypeId} {c : Nat} (h : w.ownsRow base e 1 (.slice A n c) n xs) : Reads w w.heap.size A n xs := by
  refine ⟨by simpa using h.1, fun hn => ?_⟩
  obtain ⟨g, cap, hv, _, hlt⟩ := h.form hn
  have hA : A = some ⟨g, 0, none⟩ := by injection hv
  subst hA
  exact ⟨_, rfl, hlt, h.cells (g := g) rfl⟩
end

/-- Numbers as values. -/
def ints (l : List Nat) : List Value := l.map fun (x : Nat) => Value.int .i64 (x : Int)
theorem ints_length (l : List Nat) : (ints l).length = l.length := by simp [ints]
theorem ints_get (l : List Nat) (k : Nat) (h : k < l.length) : (ints l)[k]? = some (.int .i64 ((l.getD k 0 : Nat) : Int)) := by
  simp [ints, List.getElem?_eq_getElem h]
theorem ints_append (l m : List Nat) : ints (l ++ m) = ints l ++ ints m := by simp [ints]
theorem Reads.num {w : World} {B n : Nat} {A : Option Addr} {l : List Nat} {k : Nat} (h : Reads w B A n (ints l)) (hk : k < n) :
    ∃ ad, A = some ad ∧ ad.block < B ∧ w.cell? (ad.add k) = some (.int .i64 ((l.getD k 0 : Nat) : Int)) := by
  obtain ⟨ad, u, e, hb, hx, hc⟩ := h.at_ hk
  rw [ints_get l k (by rw [← ints_length l, h.1]; exact hk)] at hx
  exact ⟨ad, e, hb, by rw [hc, ← hx]⟩
theorem Reads.len {w : World} {B n : Nat} {A : Option Addr} {l : List Nat} (h : Reads w B A n (ints l)) : l.length = n := by rw [← h.1, ints_length]
theorem reads_over {w w' : World} {A : Option Addr} {n : Nat} {xs : List Value} (h : Reads w w.heap.size A n xs) (hb : Below w.heap.size w w') : Reads w' w'.heap.size A n xs :=
  (h.below hb).more hb.size
theorem below_on {w w1 w2 : World} (h : Below w.heap.size w w1) (k : Below w1.heap.size w1 w2) : Below w.heap.size w w2 := h.trans (k.mono h.size)
/-- The shape of an owned row. -/
theorem own_shape {w : World} {base : Nat} {e : TypeId} {v : Value} {n : Nat} {xs : List Value} (h : w.ownsRow base e 1 v n xs) :
    ∃ A c, v = .slice A n c ∧ Reads w w.heap.size A n xs ∧ n ≤ c ∧ c ≤ maxLen := by
  have hl : xs.length = n := by simpa using h.1
  have h0 := h
  rcases h.2 with ⟨rfl, rfl⟩ | ⟨g, cap, cur, rfl, _, _, hnc, hcm, _⟩
  · exact ⟨none, 0, rfl, ⟨hl, fun hn => absurd hn (by omega)⟩, Nat.le_refl _, by unfold maxLen; omega⟩
  · exact ⟨_, cap, rfl, Reads.of_own h0, hnc, hcm⟩

/-- The table of places. -/
def Tab (w : World) : Prop := ∀ i, i < 16 → w.cell? ⟨3, i, none⟩ = some (.int .i64 ((i : Int) - 1))
theorem Tab.keep {w w' : World} (h : Tab w) (hk : ∀ p : Addr, p.block < 3 + 1 → w'.cell? p = w.cell? p) : Tab w' :=
  fun i hi => (hk _ (by simp)).trans (h i hi)
theorem Tab.size {w : World} (h : Tab w) : 3 + 1 ≤ w.heap.size := by
  have h1 := h 0 (by decide)
  simp only [World.cell?] at h1
  rcases Nat.lt_or_ge 3 w.heap.size with hlt | hge
  · omega
  · have e : w.heap[3]? = none := Array.getElem?_eq_none hge
    simp [e] at h1
theorem Tab.below {w w' : World} {B : Nat} (h : Tab w) (hB : 3 + 1 ≤ B) (hb : Below B w w') : Tab w' := h.keep fun p hp => hb.cell (by omega)
theorem Tab.over {w w' : World} (h : Tab w) (hb : Below w.heap.size w w') : Tab w' := h.below h.size hb

/-- The member with the parity. -/
def par (n s : Nat) : Nat := n - 1 - s % n
theorem par_lt (n s : Nat) (h : 0 < n) : par n s < n := by unfold par; omega
theorem par_int (n s : Nat) (h : 0 < n) : (n : Int) - 1 - (s : Int) % (n : Int) = ((par n s : Nat) : Int) := by
  have h1 : s % n < n := Nat.mod_lt _ h
  have h2 : (s : Int) % (n : Int) = ((s % n : Nat) : Int) := by simp
  rw [h2]; unfold par; omega
/-- The rest of what is below twice n. -/
theorem mod_turn (n x : Nat) (h : x < n + n) : x % n = if x < n then x else x - n := by
  split
  · exact Nat.mod_eq_of_lt (by assumption)
  · rw [Nat.mod_eq_sub_mod (by omega), Nat.mod_eq_of_lt (by omega)]
/-- The member at a place; that of the parity is at n - 1. -/
def memAt (n p k : Nat) : Nat := (p + 1 + k) % n
def memL (n p : Nat) : List Nat := (List.range n).map (memAt n p)
theorem memL_length (n p : Nat) : (memL n p).length = n := by simp [memL]
theorem memL_get (n p k : Nat) (h : k < n) : (memL n p).getD k 0 = memAt n p k := by simp [memL, List.getD, h]
theorem memAt_turn (n p k : Nat) (hp : p < n) (hk : k < n) : memAt n p k = if p + 1 + k < n then p + 1 + k else p + 1 + k - n := mod_turn _ _ (by omega)
theorem memAt_lt (n p k : Nat) (h : 0 < n) : memAt n p k < n := Nat.mod_lt _ h
theorem memAt_last (n p : Nat) (hp : p < n) : memAt n p (n - 1) = p := by rw [memAt_turn n p _ hp (by omega), if_neg (by omega)]; omega
/-- The place of a member; n - 1: it has the parity. -/
def placeOf (n p m : Nat) : Nat := (m + n - p - 1) % n
theorem placeOf_turn (n p m : Nat) (hp : p < n) (hm : m < n) : placeOf n p m = if m + n - p - 1 < n then m + n - p - 1 else m + n - p - 1 - n := mod_turn _ _ (by omega)
theorem mem_place (n p m k : Nat) (hp : p < n) (hm : m < n) (hk : k < n) : memAt n p k = m ↔ k = placeOf n p m := by
  rw [memAt_turn n p k hp hk, placeOf_turn n p m hp hm]
  split <;> split <;> omega
theorem placeOf_lt (n p m : Nat) (h : 0 < n) : placeOf n p m < n := Nat.mod_lt _ h
/-- The members behind j rounds of the program's loop. -/
def memTo (n p j : Nat) : List Nat := (List.range n).map fun i => if (i = n - 1 ∧ 1 ≤ j) ∨ i + 2 ≤ j then memAt n p i else 0
theorem memTo_length (n p j : Nat) : (memTo n p j).length = n := by simp [memTo]
theorem memTo_zero (n p : Nat) : ints (memTo n p 0) = List.replicate n (.int .i64 0) := by
  apply List.ext_getElem?
  intro i
  by_cases h : i < n
  · simp [ints, memTo, h]
  · simp [ints, memTo, h]
theorem memTo_all (n p : Nat) : memTo n p n = memL n p := by
  apply List.ext_getElem?
  intro i
  by_cases h : i < n
  · have : (i = n - 1 ∧ 1 ≤ n) ∨ i + 2 ≤ n := by omega
    simp [memL, memTo, h, this]
  · simp [memL, memTo, h]
theorem memTo_set (n p j at_ : Nat) (hn : 3 ≤ n) (hp : p < n) (hj : j < n) (ha : at_ = if j = 0 then n - 1 else j - 1) :
    (ints (memTo n p j)).set at_ (.int .i64 (((p + j) % n : Nat) : Int)) = ints (memTo n p (j + 1)) := by
  have hv : (p + j) % n = memAt n p at_ := by
    rw [memAt_turn n p _ hp (by split at ha <;> omega), mod_turn n (p + j) (by omega)]
    by_cases h0 : j = 0
    · rw [if_pos h0] at ha; split <;> split <;> omega
    · rw [if_neg h0] at ha; split <;> split <;> omega
  rw [hv]
  apply List.ext_getElem?
  intro i
  rw [List.getElem?_set]
  by_cases h : i < n
  · have hr : (List.range n)[i]? = some i := List.getElem?_range h
    by_cases hk : at_ = i
    · subst hk
      have hc : (at_ = n - 1 ∧ 1 ≤ j + 1) ∨ at_ + 2 ≤ j + 1 := by split at ha <;> omega
      rw [if_pos rfl, if_pos (by rw [ints_length, memTo_length]; exact h)]
      simp only [ints, memTo, List.getElem?_map, hr, Option.map_some, if_pos hc]
    · have hc : ((i = n - 1 ∧ 1 ≤ j) ∨ i + 2 ≤ j) ↔ ((i = n - 1 ∧ 1 ≤ j + 1) ∨ i + 2 ≤ j + 1) := by split at ha <;> omega
      rw [if_neg hk]
      simp only [ints, memTo, List.getElem?_map, hr, Option.map_some, hc]
  · have hr : (List.range n)[i]? = none := List.getElem?_eq_none (by simpa using h)
    by_cases hk : at_ = i
    · rw [if_pos hk, if_neg (by rw [ints_length, memTo_length]; omega)]
      simp only [ints, memTo, List.getElem?_map, hr, Option.map_none]
    · rw [if_neg hk]
      simp only [ints, memTo, List.getElem?_map, hr, Option.map_none]
end Go.Proofs.YtplbgjjacomceaaGreatDoor.L
namespace Go.Proofs.YtplbgjjacomceaaGreatDoor.L
open Go.RowKit

theorem parity_ok (n s : Nat) (w : World) (h3 : 3 ≤ n) (h16 : n ≤ 16) (hs : s ≤ 9223372036854775807) :
    Calls Tryz.prog 64 #[.int .i64 n, .int .i64 s] w fun e w' => e = .returned (.tuple #[.int .i64 ((par n s : Nat) : Int), .int .i64 0]) ∧ w = w' := by
  have hp := Lib.hid (par_int n s (by omega))
  have h1 := Int.emod_nonneg (s : Int) (show (n : Int) ≠ 0 by omega)
  have h2 := Int.emod_lt_of_pos (s : Int) (show (0 : Int) < (n : Int) by omega)
  go_enter Tryz.func64, Tryz.ntmps64
  go_wp2
  go_ret2
  exact ⟨by rw [← hp.out]; rfl, rfl⟩
/-- What no array has. -/
def Not_ (n s : Int) : Prop := n < 3 ∨ (3 ≤ n ∧ 16 < n) ∨ (3 ≤ n ∧ n ≤ 16 ∧ s < 0)
theorem not_or (n s : Int) : Not_ n s ∨ (3 ≤ n ∧ n ≤ 16 ∧ 0 ≤ s) := by unfold Not_; omega
theorem parity_no (n s : Int) (w : World) (h : Not_ n s) :
    Calls Tryz.prog 64 #[.int .i64 n, .int .i64 s] w fun e w' => e = .returned (.tuple #[.int .i64 0, .int .i64 1]) ∧ w = w' := by
  rcases h with h | ⟨h, h2⟩ | ⟨h, h2, h3⟩
  all_goals
    go_enter Tryz.func64, Tryz.ntmps64
    go_wp2
    go_ret2
    exact ⟨rfl, rfl⟩
/-- A call's own list of numbers. -/
def Own (l : List Nat) (w : World) (e : Ending) (w' : World) : Prop :=
  ∃ v, e = .returned (.tuple #[v, .int .i64 0]) ∧ w'.ownsRow w.heap.size 3 1 v l.length (ints l) ∧ Below w.heap.size w w'
def Err_ (w : World) (e : Ending) (w' : World) : Prop := e = .returned (.tuple #[.slice none 0 0, .int .i64 1]) ∧ w = w'
theorem members_no (n s : Int) (w : World) (h : Not_ n s) : Calls Tryz.prog 167 #[.int .i64 n, .int .i64 s] w (Err_ w) := by
  have hp := Lib.hid (parity_no n s · h)
  clear h
  go_enter Tryz.func167, Tryz.ntmps167
  go_wp2_with (go_at_call 64; refine (hp.out _).mono ?_; rintro e w' ⟨rfl, rfl⟩)
  go_ret2
  exact ⟨rfl, rfl⟩
theorem info_int : (Tryz.prog.info? 3).map (fun i => (i.zero, i.size, i.bytes)) = some (some (.int .i64 0), 1, 8) := by kernel_rfl

set_option maxHeartbeats 400000 in
theorem members_ok (n s : Nat) (w : World) (h3 : 3 ≤ n) (h16 : n ≤ 16) (hs : s ≤ 9223372036854775807) (hT : Tab w) :
    Calls Tryz.prog 167 #[.int .i64 n, .int .i64 s] w (Own (memL n (par n s)) w) := by
  obtain ⟨i0, hi, hz0, hz1, hz2⟩ := info_parts info_int
  have hp := Lib.hid (parity_ok n s · h3 h16 hs)
  have hpn := par_lt n s (by omega)
  have hsz := hT.size
  generalize par n s = p at *
  have HT := Lib.hid hT
  clear hT
  go_enter Tryz.func167, Tryz.ntmps167
  go_wp2_with (first
    | (go_at_call 64; refine (hp.out _).mono ?_; rintro e w' ⟨rfl, rfl⟩)
    | (at_make; refine wpList_make_full _ rfl _ _ 24 rfl w.heap.size 3 i0 (.int .i64 0) 1 Tryz.underlying24 hi hz0 hz1 _ _ _ _ n rfl rfl rfl rfl ?_ ?_ (Nat.le_refl _) ?_))
  · rw [hz2]; omega
  · unfold maxLen; omega
  intro w0 hown0 hgrow0
  have hbelow0 : Below w.heap.size w w0 := (Below.refl _ _).grown hgrow0 (Nat.le_refl _) (fun k h => by cases h)
  clear hgrow0
  go_wp2
  clear hi hz0 hz1 hz2
  rw [toList_madeCells_one, ← memTo_zero n p] at hown0
  generalize hgs : w.heap.size = g at *
  have Hgs := Lib.hid hgs
  clear hgs
  go_loopw [23] (fun i wr => ∃ k : Nat, k ≤ n ∧ i = .int .i64 k ∧ wr.ownsRow g 3 1 (.slice (some ⟨g, 0, none⟩) n n) n (ints (memTo n p k)) ∧ Below g w wr) (fun i _ => n - (intOf i).toNat)
  case atStart => exact ⟨0, Nat.zero_le _, rfl, hown0, hbelow0⟩
  case round =>
    obtain ⟨k, hk, rfl, hown, hbel⟩ := hrel
    by_cases hlt : k < n
    · have hc0 := (HT.out.below hsz hbel) k (by omega)
      have hmod : Hid (((p : Int) + (k : Int)) % (n : Int) = (((p + k) % n : Nat) : Int)) := Lib.hid (by simp)
      by_cases hk0 : k = 0
      · subst hk0
        have hset := memTo_set n p 0 (n - 1) h3 hpn (by omega) rfl
        have hst := (hown.stored (n - 1) (.int .i64 (((p + 0) % n : Nat) : Int))).1
        rw [hset] at hst
        have hbel2 := hbel.setCell (p := ⟨g, n - 1, none⟩) (Nat.le_refl _) (.int .i64 (((p + 0) % n : Nat) : Int))
        have hfz := hown.frozenAt (n - 1)
        have hc := hown.cellAt (n - 1) (by omega)
        rw [ints_get _ _ (by rw [memTo_length]; omega)] at hc
        generalize (memTo n p 0).getD (n - 1) 0 = old at hc
        have Hst := Lib.hid hst
        clear hst hown hown0 hbel hbelow0 hset
        go_wp2
        go_roundw
        case rel => exact ⟨1, by omega, by go_num, Hst.out, hbel2⟩
        case measure => simp [intOf]; omega
      · obtain ⟨j, rfl⟩ : ∃ j, k = j + 1 := ⟨k - 1, by omega⟩
        have hc0b : wr.cell? ⟨3, j + 1, none⟩ = some (.int .i64 (j : Int)) := by rw [hc0]; congr 2; omega
        clear hc0 hk0
        have hset := memTo_set n p (j + 1) j h3 hpn hlt (by rw [if_neg (by omega)]; rfl)
        have hst := (hown.stored j (.int .i64 (((p + (j + 1)) % n : Nat) : Int))).1
        rw [hset] at hst
        have hbel2 := hbel.setCell (p := ⟨g, j, none⟩) (Nat.le_refl _) (.int .i64 (((p + (j + 1)) % n : Nat) : Int))
        have hfz := hown.frozenAt j
        have hc := hown.cellAt j (by omega)
        rw [ints_get _ _ (by rw [memTo_length]; omega)] at hc
        generalize (memTo n p (j + 1)).getD j 0 = old at hc
        have Hst := Lib.hid hst
        clear hst hown hown0 hbel hbelow0 hset
        go_wp2
        go_roundw
        case rel => exact ⟨j + 2, by omega, by go_num, Hst.out, hbel2⟩
        case measure => simp [intOf]; omega
    · obtain rfl : k = n := by omega
      go_wp2
      go_ret2
      refine ⟨_, rfl, ?_, by rw [Hgs.out]; exact hbel⟩
      rw [memL_length, Hgs.out, ← memTo_all]
      exact hown
end Go.Proofs.YtplbgjjacomceaaGreatDoor.L
namespace Go.Proofs.YtplbgjjacomceaaGreatDoor.L
open Go.RowKit

def spot (n b : Nat) : Value := .agg #[.int .i64 ((b / (n - 1) : Nat) : Int), .int .i64 ((memAt n (par n (b / (n - 1))) (b % (n - 1)) : Nat) : Int), .int .i64 ((b % (n - 1) : Nat) : Int)]
def noSpot : Value := .agg #[.int .i64 0, .int .i64 0, .int .i64 0]
theorem quo_int (n b : Nat) (h : 3 ≤ n) : (b : Int) / ((n : Int) - 1) = ((b / (n - 1) : Nat) : Int) := by
  have e : (n : Int) - 1 = ((n - 1 : Nat) : Int) := by omega
  rw [e]; simp
theorem rem_int (n b : Nat) (h : 3 ≤ n) : (b : Int) % ((n : Int) - 1) = ((b % (n - 1) : Nat) : Int) := by
  have e : (n : Int) - 1 = ((n - 1 : Nat) : Int) := by omega
  rw [e]; simp

/-- The three numbers of a spot in a new block. -/
theorem spot_cells (w : World) (k : Nat) (x y z : Value) :
    (((((w.alloc (.cells #[.int .i64 0, .int .i64 0, .int .i64 0] 93)).drewN k).setCell ⟨w.heap.size, 0, none⟩ x).setCell ⟨w.heap.size, 1, none⟩ y).setCell ⟨w.heap.size, 2, none⟩ z).cell? ⟨w.heap.size, 0, none⟩ = some x ∧
    (((((w.alloc (.cells #[.int .i64 0, .int .i64 0, .int .i64 0] 93)).drewN k).setCell ⟨w.heap.size, 0, none⟩ x).setCell ⟨w.heap.size, 1, none⟩ y).setCell ⟨w.heap.size, 2, none⟩ z).cell? ⟨w.heap.size, 1, none⟩ = some y ∧
    (((((w.alloc (.cells #[.int .i64 0, .int .i64 0, .int .i64 0] 93)).drewN k).setCell ⟨w.heap.size, 0, none⟩ x).setCell ⟨w.heap.size, 1, none⟩ y).setCell ⟨w.heap.size, 2, none⟩ z).cell? ⟨w.heap.size, 2, none⟩ = some z := by
  have h : ((w.alloc (.cells #[.int .i64 0, .int .i64 0, .int .i64 0] 93)).drewN k).heap[w.heap.size]? = some (.cells #[.int .i64 0, .int .i64 0, .int .i64 0] 93) := heap_alloc_last w (.cells #[.int .i64 0, .int .i64 0, .int .i64 0] 93)
  have h2 := heap_setCell_same _ w.heap.size 0 _ _ x h
  have h3 := heap_setCell_same _ w.heap.size 1 _ _ y h2
  have h4 := heap_setCell_same _ w.heap.size 2 _ _ z h3
  exact ⟨cell_of_row _ _ 0 _ _ _ h4, cell_of_row _ _ 1 _ _ _ h4, cell_of_row _ _ 2 _ _ _ h4⟩
theorem below_drewN {B : Nat} {w w' : World} (h : Below B w w') (k : Nat) : Below B w (w'.drewN k) := h.trans ⟨rfl, rfl, rfl, Nat.le_refl _, fun _ _ => rfl⟩
theorem spot_below {B : Nat} {w0 : World} (w : World) (k : Nat) (x y z : Value) (h : Below B w0 w) (hB : B ≤ w.heap.size) :
    Below B w0 (((((w.alloc (.cells #[.int .i64 0, .int .i64 0, .int .i64 0] 93)).drewN k).setCell ⟨w.heap.size, 0, none⟩ x).setCell ⟨w.heap.size, 1, none⟩ y).setCell ⟨w.heap.size, 2, none⟩ z) :=
  (((below_drewN (h.alloc hB _) k).setCell hB _).setCell hB _).setCell hB _

set_option maxHeartbeats 400000 in
theorem map_ok (n b : Nat) (w : World) (h3 : 3 ≤ n) (h16 : n ≤ 16) (hb : b ≤ 9223372036854775807) :
    Calls Tryz.prog 56 #[.int .i64 n, .int .i64 b] w fun e w' => e = .returned (.tuple #[spot n b, .int .i64 0]) ∧ Below w.heap.size w w' := by
  have hqb : b / (n - 1) ≤ b := Nat.div_le_self _ _
  have hrb : b % (n - 1) < n - 1 := Nat.mod_lt _ (by omega)
  have hq := quo_int n b h3
  have hr := rem_int n b h3
  have hsp : Hid (spot n b = .agg #[.int .i64 ((b / (n - 1) : Nat) : Int), .int .i64 ((memAt n (par n (b / (n - 1))) (b % (n - 1)) : Nat) : Int), .int .i64 ((b % (n - 1) : Nat) : Int)]) := Lib.hid rfl
  rw [hsp.out]
  clear hsp
  generalize b / (n - 1) = q at *
  generalize b % (n - 1) = r at *
  have hp := Lib.hid (parity_ok n q · h3 h16 (by omega))
  have hpn := par_lt n q (by omega)
  generalize par n q = p at *
  have hm : ((p : Int) + 1 + (r : Int)) % (n : Int) = ((memAt n p r : Nat) : Int) := by unfold memAt; simp
  have hml := memAt_lt n p r (by omega)
  generalize memAt n p r = m at *
  go_enter Tryz.func56, Tryz.ntmps56
  go_wp2
  go_quiet (fail)
  go_wp2_with (go_at_call 64; refine (hp.out _).mono ?_; rintro e w' ⟨rfl, rfl⟩)
  obtain ⟨k0, k1, k2⟩ := spot_cells w nq (.int .i64 q) (.int .i64 m) (.int .i64 r)
  go_returns
  exact ⟨rfl, spot_below _ _ _ _ _ (Below.refl _ _) (Nat.le_refl _)⟩

theorem map_no (n b : Int) (w : World) (h : Not_ n b) :
    Calls Tryz.prog 56 #[.int .i64 n, .int .i64 b] w fun e w' => e = .returned (.tuple #[noSpot, .int .i64 1]) ∧ Below w.heap.size w w' := by
  have hsp : Hid (noSpot = .agg #[.int .i64 0, .int .i64 0, .int .i64 0]) := Lib.hid rfl
  rw [hsp.out]
  rcases h with h | ⟨h, h2⟩ | ⟨h, h2, h3⟩
  all_goals
    go_enter Tryz.func56, Tryz.ntmps56
    go_wp2
    go_returns
    exact ⟨rfl, (Below.refl _ _).alloc (Nat.le_refl _) _⟩
/-- What no volume has. -/
def NoCap (n s : Int) : Prop := n < 3 ∨ (3 ≤ n ∧ 16 < n) ∨ (3 ≤ n ∧ n ≤ 16 ∧ (s < 1 ∨ (1 ≤ s ∧ 1024 < s)))
theorem cap_or (n s : Int) : NoCap n s ∨ (3 ≤ n ∧ n ≤ 16 ∧ 1 ≤ s ∧ s ≤ 1024) := by unfold NoCap; omega
theorem cap_no (n s : Int) (w : World) (h : NoCap n s) :
    Calls Tryz.prog 91 #[.int .i64 n, .int .i64 s] w fun e w' => e = .returned (.tuple #[.int .i64 0, .int .i64 1]) ∧ w = w' := by
  rcases h with h | ⟨h, h2⟩ | ⟨h, h2, h3 | ⟨h3, h4⟩⟩
  case inr.inr.inr =>
    have hd : decide (s ≤ 1024) = false := by simp; omega
    go_enter Tryz.func91, Tryz.ntmps91
    go_wp2
    go_ret2
    exact ⟨rfl, rfl⟩
  all_goals
    go_enter Tryz.func91, Tryz.ntmps91
    go_wp2
    go_ret2
    exact ⟨rfl, rfl⟩
theorem cap_ok (n s : Nat) (w : World) (h3 : 3 ≤ n) (h16 : n ≤ 16) (h1 : 1 ≤ s) (h2 : s ≤ 1024) :
    Calls Tryz.prog 91 #[.int .i64 n, .int .i64 s] w fun e w' => e = .returned (.tuple #[.int .i64 ((s * (n - 1) : Nat) : Int), .int .i64 0]) ∧ w = w' := by
  have hmul : (s : Int) * ((n : Int) - 1) = ((s * (n - 1) : Nat) : Int) := by
    have e : (n : Int) - 1 = ((n - 1 : Nat) : Int) := by omega
    rw [e]; simp
  have hmb : s * (n - 1) ≤ 1024 * 15 := Nat.mul_le_mul h2 (by omega)
  generalize s * (n - 1) = z at *
  have hd : decide ((s : Int) ≤ 1024) = true := by simp; omega
  go_enter Tryz.func91, Tryz.ntmps91
  go_wp2
  go_ret2
  exact ⟨rfl, rfl⟩
end Go.Proofs.YtplbgjjacomceaaGreatDoor.L
