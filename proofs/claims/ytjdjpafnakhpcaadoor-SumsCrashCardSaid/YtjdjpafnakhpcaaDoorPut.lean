/-
  The contracts of the calls that put a number into bytes and get it back, of the program and of the definition.
  Conditions: each theorem's own.
-/
import Derived.Test.YtjdjpafnakhpcaaDoorCrc
namespace Go.Proofs.YtjdjpafnakhpcaaDoor
open Go.RowKit

theorem isWidth_yes (n : Int) (w : World) (h1 : 1 ≤ n) (h2 : n ≤ 8) :
    Calls Tryd.prog 98 #[.int .i64 n] w fun e w' => e = .returned (.bool true) ∧ w = w' := by
  have h3 : ¬ 8 < n := by omega
  go_enter Tryd.func98, Tryd.ntmps98
  go_wp2
  go_ret
  exact ⟨rfl, rfl⟩
theorem isWidth_no (n : Int) (w : World) (h : n < 1 ∨ 8 < n) :
    Calls Tryd.prog 98 #[.int .i64 n] w fun e w' => e = .returned (.bool false) ∧ w = w' := by
  rcases h with h | h
  · go_enter Tryd.func98, Tryd.ntmps98
    go_wp2
    go_ret
    exact ⟨rfl, rfl⟩
  · have hd : decide (n ≤ 8) = false := by simp; omega
    go_enter Tryd.func98, Tryd.ntmps98
    go_wp2
    go_ret
    exact ⟨rfl, rfl⟩

def Refused (w : World) (e : Ending) (w' : World) : Prop := e = .returned (.tuple #[.slice none 0 0, .int .i64 1]) ∧ w = w'
def Made (l : List Nat) (w : World) (e : Ending) (w' : World) : Prop :=
  ∃ v, e = .returned (.tuple #[v, .int .i64 0]) ∧ w'.ownsRow w.heap.size 5 1 v l.length (bts l) ∧ Below w.heap.size w w'

set_option maxHeartbeats 400000 in
theorem put_wide (x : Nat) (n : Int) (w : World) (h : n < 1 ∨ 8 < n) :
    Calls Tryd.prog 86 #[.int .u64 x, .int .i64 n] w (Refused w) := by
  go_enter Tryd.func86, Tryd.ntmps86
  go_wp2_with (go_at_call 98; refine (isWidth_no n _ h).mono ?_; rintro e w' ⟨rfl, rfl⟩)
  go_ret2
  exact ⟨rfl, rfl⟩

theorem div_big (x m : Nat) (h : 2 ^ m ≤ x) : ((x : Int) / 2 ^ m != 0) = true := by
  have hp : 0 < 2 ^ m := Nat.two_pow_pos m
  have h1 : 1 ≤ x / 2 ^ m := (Nat.one_le_div_iff hp).2 h
  have h2 : ((x : Int) / 2 ^ m) = ((x / 2 ^ m : Nat) : Int) := by simp
  rw [h2, bne_iff_ne]; omega
theorem div_small (x m : Nat) (h : x < 2 ^ m) : ((x : Int) / 2 ^ m != 0) = false := by
  have h1 : x / 2 ^ m = 0 := Nat.div_eq_of_lt h
  have h2 : ((x : Int) / 2 ^ m) = ((x / 2 ^ m : Nat) : Int) := by simp
  rw [h2, h1]; rfl
set_option maxHeartbeats 400000 in
theorem put_big (x n : Nat) (w : World) (h1 : 1 ≤ n) (h2 : n ≤ 8) (h : 2 ^ (8 * n) ≤ x) :
    Calls Tryd.prog 86 #[.int .u64 x, .int .i64 n] w (Refused w) := by
  have hb := div_big x (8 * n) h
  go_enter Tryd.func86, Tryd.ntmps86
  go_wp2_with (go_at_call 98; refine (isWidth_yes n _ (by omega) (by omega)).mono ?_; rintro e w' ⟨rfl, rfl⟩)
  go_ret2
  exact ⟨rfl, rfl⟩

/-- The bytes of x that stand behind k rounds. -/
def putTo (x n k : Nat) : List Nat := (List.range n).map fun i => if i < k then x / 2 ^ (8 * i) % 256 else 0
def putL (x n : Nat) : List Nat := (List.range n).map fun i => x / 2 ^ (8 * i) % 256
theorem putTo_length (x n k : Nat) : (putTo x n k).length = n := by simp [putTo]
theorem putL_length (x n : Nat) : (putL x n).length = n := by simp [putL]
theorem putTo_zero (x n : Nat) : bts (putTo x n 0) = List.replicate n (.int .u8 0) := by
  apply List.ext_getElem?
  intro i
  by_cases h : i < n
  · simp [bts, putTo, h]
  · simp [bts, putTo, h]
theorem putTo_all (x n : Nat) : putTo x n n = putL x n := by
  apply List.ext_getElem?
  intro i
  by_cases h : i < n
  · simp [putL, putTo, h]
  · simp [putL, putTo, h]
theorem putTo_succ (x n k : Nat) : (bts (putTo x n k)).set k (.int .u8 ((x : Int) / 2 ^ (8 * k) % 256)) = bts (putTo x n (k + 1)) := by
  have e : ((x : Int) / 2 ^ (8 * k) % 256) = ((x / 2 ^ (8 * k) % 256 : Nat) : Int) := by simp
  rw [e]
  apply List.ext_getElem?
  intro i
  rw [List.getElem?_set]
  by_cases h : i < n
  · by_cases hk : k = i
    · subst hk
      simp [bts, putTo, h]
    · by_cases hi : i < k
      · simp [bts, putTo, h, hk, hi, show i < k + 1 by omega]
      · simp [bts, putTo, h, hk, hi, show ¬ i < k + 1 by omega]
  · by_cases hk : k = i
    · simp [bts, putTo, h, hk]
    · simp [bts, putTo, h, hk]

set_option maxHeartbeats 400000 in
theorem put_ok (x n : Nat) (w : World) (h1 : 1 ≤ n) (h2 : n ≤ 8) (h : x < 2 ^ (8 * n)) :
    Calls Tryd.prog 86 #[.int .u64 x, .int .i64 n] w (Made (putL x n) w) := by
  obtain ⟨i0, hi, hz0, hz1, hz2⟩ := info_parts info_u8
  have hb := div_small x (8 * n) h
  clear h
  go_enter Tryd.func86, Tryd.ntmps86
  go_wp2_with (first
    | (go_at_call 98; refine (isWidth_yes n _ (by omega) (by omega)).mono ?_; rintro e w' ⟨rfl, rfl⟩)
    | (at_make; refine wpList_make_full _ rfl _ _ 28 rfl w.heap.size 5 i0 (.int .u8 0) 1 Tryd.underlying28 hi hz0 hz1 _ _ _ _ n rfl rfl rfl rfl ?_ ?_ (Nat.le_refl _) ?_))
  · rw [hz2]; omega
  · unfold maxLen; omega
  intro w0 hown0 hgrow0
  have hbelow0 : Below w.heap.size w w0 := (Below.refl _ _).grown hgrow0 (Nat.le_refl _) (fun k h => by cases h)
  clear hgrow0
  go_wp2
  clear hb hi hz0 hz1 hz2
  rw [toList_madeCells_one, ← putTo_zero x] at hown0
  generalize hgs : w.heap.size = g at *
  have Hgs := Lib.hid hgs
  clear hgs
  go_loopw [21] (fun i wr => ∃ k : Nat, k ≤ n ∧ i = .int .i64 k ∧ wr.ownsRow g 5 1 (.slice (some ⟨g, 0, none⟩) n n) n (bts (putTo x n k)) ∧ Below g w wr) (fun i _ => n - (intOf i).toNat)
  case atStart => exact ⟨0, Nat.zero_le _, rfl, hown0, hbelow0⟩
  case round =>
    obtain ⟨k, hk, rfl, hown, hbel⟩ := hrel
    by_cases hlt : k < n
    · have hst := (hown.stored k (.int .u8 ((x : Int) / 2 ^ (8 * k) % 256))).1
      rw [putTo_succ] at hst
      have hbel2 := hbel.setCell (p := ⟨g, k, none⟩) (Nat.le_refl _) (.int .u8 ((x : Int) / 2 ^ (8 * k) % 256))
      have hfz := hown.frozenAt k
      have hc := hown.cellAt k (by omega)
      rw [bts_get _ _ (by rw [putTo_length]; exact hlt)] at hc
      generalize (putTo x n k).getD k 0 = old at hc
      have Hst := Lib.hid hst
      clear hst hown hown0 hbel hbelow0
      go_wp2
      go_roundw
      case rel => exact ⟨k + 1, by omega, by go_num, Hst.out, hbel2⟩
      case measure => simp [intOf]; omega
    · obtain rfl : k = n := by omega
      go_wp2
      go_ret2
      rw [putTo_all] at hown
      exact ⟨_, rfl, by rw [putL_length, Hgs.out]; exact hown, by rw [Hgs.out]; exact hbel⟩

/-- A number below 2^64, or a byte's sum, in the walk's own form. -/
theorem or_shl (x b k : Nat) (hx : x < 2 ^ (8 * k)) (hb : b < 256) (hk : k < 8) : bits .or .u64 (x : Int) (((b * 2 ^ (8 * k) : Nat) : Int)) = ((x + b * 2 ^ (8 * k) : Nat) : Int) := by
  have hp : 2 ^ (8 * k) ≤ 2 ^ 56 := Nat.pow_le_pow_right (by omega) (by omega)
  have h1 : b * 2 ^ (8 * k) ≤ 255 * 2 ^ (8 * k) := Nat.mul_le_mul_right _ (by omega)
  have e : x ||| b * 2 ^ (8 * k) = x + b * 2 ^ (8 * k) := by
    rw [Nat.or_comm, Nat.mul_comm, ← Nat.two_pow_add_eq_or_of_lt hx, Nat.add_comm]
  rw [u64_or_nat x _ (by omega) (by omega), e]

theorem shl_wrap (b k : Nat) (hb : b < 256) (hk : k < 8) : IntKind.u64.wrap ((b : Int) * 2 ^ (8 * k)) = ((b * 2 ^ (8 * k) : Nat) : Int) := by
  have hp : 2 ^ (8 * k) ≤ 2 ^ 56 := Nat.pow_le_pow_right (by omega) (by omega)
  have h1 : b * 2 ^ (8 * k) ≤ 255 * 2 ^ (8 * k) := Nat.mul_le_mul_right _ (by omega)
  have e : ((b : Int) * 2 ^ (8 * k)) = ((b * 2 ^ (8 * k) : Nat) : Int) := by simp
  rw [e]
  generalize b * 2 ^ (8 * k) = y at *
  simp [IntKind.wrap, IntKind.bits, IntKind.signed]
  omega
/-- The number in bytes, the lowest one first. -/
def getN : List Nat → Nat
  | [] => 0
  | x :: l => x + 256 * getN l
theorem getN_snoc (l : List Nat) (x : Nat) : getN (l ++ [x]) = getN l + x * 2 ^ (8 * l.length) := by
  induction l with
  | nil => simp [getN]
  | cons y l ih =>
    rw [List.cons_append, getN, ih, getN, List.length_cons]
    have e : 2 ^ (8 * (l.length + 1)) = 256 * 2 ^ (8 * l.length) := by rw [show 8 * (l.length + 1) = 8 * l.length + 8 by omega, Nat.pow_add]; omega
    rw [e, Nat.mul_add, Nat.mul_left_comm x 256, Nat.add_assoc]
theorem getN_lt {l : List Nat} (h : Small l) : getN l < 2 ^ (8 * l.length) := by
  induction l with
  | nil => simp [getN]
  | cons y l ih =>
    have h1 := ih (fun x hx => h x (List.mem_cons_of_mem _ hx))
    have h2 : y < 256 := h y (List.mem_cons_self ..)
    have e : 2 ^ (8 * (l.length + 1)) = 256 * 2 ^ (8 * l.length) := by rw [show 8 * (l.length + 1) = 8 * l.length + 8 by omega, Nat.pow_add]; omega
    rw [getN, List.length_cons, e]
    omega
theorem Small.take {l : List Nat} (h : Small l) (k : Nat) : Small (l.take k) := fun x hx => h x (List.mem_of_mem_take hx)
theorem Small.drop {l : List Nat} (h : Small l) (k : Nat) : Small (l.drop k) := fun x hx => h x (List.mem_of_mem_drop hx)
/-- What stands at 'at', k bytes long. -/
def cutAt (l : List Nat) (i k : Nat) : List Nat := (l.drop i).take k
theorem cutAt_succ (l : List Nat) (i k : Nat) (h : i + k < l.length) : getN (cutAt l i (k + 1)) = getN (cutAt l i k) + l.getD (i + k) 0 * 2 ^ (8 * k) := by
  unfold cutAt
  have hl : k < (l.drop i).length := by simp; omega
  rw [List.take_succ_eq_append_getElem hl, getN_snoc]
  have e1 : ((l.drop i).take k).length = k := by simp; omega
  rw [e1]
  have e2 : (l.drop i)[k] = l.getD (i + k) 0 := by simp [List.getD, List.getElem?_eq_getElem h]
  rw [e2]
theorem cutAt_lt {l : List Nat} (h : Small l) (i k : Nat) : getN (cutAt l i k) < 2 ^ (8 * k) := by
  have h1 := getN_lt ((h.drop i).take k)
  have h2 : ((l.drop i).take k).length ≤ k := List.length_take_le _ _
  exact Nat.lt_of_lt_of_le h1 (Nat.pow_le_pow_right (by omega) (by omega))

def Refused0 (w : World) (e : Ending) (w' : World) : Prop := e = .returned (.tuple #[.int .u64 0, .int .i64 1]) ∧ w = w'
def Told (x : Nat) (w : World) (e : Ending) (w' : World) : Prop := e = .returned (.tuple #[.int .u64 x, .int .i64 0]) ∧ w = w'

set_option maxHeartbeats 400000 in
theorem get_wide (A : Option Addr) (len c : Nat) (i n : Int) (w : World) (h : n < 1 ∨ 8 < n) :
    Calls Tryd.prog 97 #[.slice A len c, .int .i64 i, .int .i64 n] w (Refused0 w) := by
  go_enter Tryd.func97, Tryd.ntmps97
  go_wp2_with (go_at_call 98; refine (isWidth_no n _ h).mono ?_; rintro e w' ⟨rfl, rfl⟩)
  go_ret2
  exact ⟨rfl, rfl⟩
set_option maxHeartbeats 400000 in
theorem get_out (A : Option Addr) (len c : Nat) (i n : Int) (w : World) (h1 : 1 ≤ n) (h2 : n ≤ 8) (hlen : len ≤ maxLen) (h : i < 0 ∨ (0 ≤ i ∧ i ≤ 9223372036854775807 ∧ (len : Int) - i < n)) :
    Calls Tryd.prog 97 #[.slice A len c, .int .i64 i, .int .i64 n] w (Refused0 w) := by
  unfold maxLen at hlen
  rcases h with h | ⟨ha, hb, hc⟩
  · go_enter Tryd.func97, Tryd.ntmps97
    go_wp2_with (go_at_call 98; refine (isWidth_yes n _ h1 h2).mono ?_; rintro e w' ⟨rfl, rfl⟩)
    go_ret2
    exact ⟨rfl, rfl⟩
  · have hd : decide (i < 0) = false := by simp; omega
    go_enter Tryd.func97, Tryd.ntmps97
    go_wp2_with (go_at_call 98; refine (isWidth_yes n _ h1 h2).mono ?_; rintro e w' ⟨rfl, rfl⟩)
    go_ret2
    exact ⟨rfl, rfl⟩

set_option maxHeartbeats 400000 in
theorem get_ok (A : Option Addr) (len c B : Nat) (l : List Nat) (i n : Nat) (w : World) (h1 : 1 ≤ n) (h2 : n ≤ 8) (hl : Small l) (hr : Reads w B A len (bts l)) (hlen : len ≤ maxLen) (h : i + n ≤ len) :
    Calls Tryd.prog 97 #[.slice A len c, .int .i64 i, .int .i64 n] w (Told (getN (cutAt l i n)) w) := by
  unfold maxLen at hlen
  have hll := hr.len
  have hd : decide ((len : Int) - (i : Int) < (n : Int)) = false := by simp; omega
  have hd0 : decide ((i : Int) < 0) = false := by simp
  go_enter Tryd.func97, Tryd.ntmps97
  go_wp2_with (go_at_call 98; refine (isWidth_yes n _ (by omega) (by omega)).mono ?_; rintro e w' ⟨rfl, rfl⟩)
  go_loop [8, 26] (fun s8 s26 => ∃ k : Nat, k ≤ n ∧ s26 = .int .i64 k ∧ s8 = .int .u64 (getN (cutAt l i k))) (fun _ k => n - (intOf k).toNat)
  case atStart => exact ⟨0, Nat.zero_le _, rfl, by simp [cutAt, getN]⟩
  case round =>
    obtain ⟨k, hk, rfl, rfl⟩ := hrel
    by_cases hlt : k < n
    · obtain ⟨ad, rfl, hb, hc⟩ := hr.byte (k := i + k) (by omega)
      have hsn := Lib.hid (cutAt_succ l i k (by omega))
      have hx := cutAt_lt hl i k
      have hy := hl.get (i + k)
      have hor := Lib.hid (or_shl _ _ k hx hy (by omega))
      generalize l.getD (i + k) 0 = b at *
      generalize getN (cutAt l i k) = x at *
      have hwr := Lib.hid (shl_wrap b k hy (by omega))
      go_wp2
      rw [hwr.out, hor.out]
      go_round
      case rel => exact ⟨k + 1, by omega, by go_num, by rw [hsn.out]⟩
      case measure => simp [intOf]; omega
    · obtain rfl : k = n := by omega
      go_wp2
      go_ret2
      exact ⟨rfl, rfl⟩
end Go.Proofs.YtjdjpafnakhpcaaDoor
