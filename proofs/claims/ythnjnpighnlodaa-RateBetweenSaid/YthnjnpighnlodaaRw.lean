/-
  Words for memory that rate's walks share: a slice that reads as a list (nil let in), floats as numbers, the worst place.
  Conditions: none beyond each lemma's own.
-/
import Derived.Test.YthnjnpighnlodaaRc
namespace Go.Proofs.Ythnjnpighnlodaa
open Go.RowKit

theorem block_of_add (a : Addr) (n : Nat) : (a.add n).block = a.block := by unfold Addr.add; split <;> rfl
theorem add_of_add (a : Addr) (i j : Nat) : (a.add i).add j = a.add (i + j) := by
  unfold Addr.add
  by_cases hi : i = 0 <;> by_cases hj : j = 0 <;> simp [hi, hj, Nat.add_assoc]

/-- The slice '.slice A n _' holds the cells xs (one cell each), and lies below block B. -/
def Reads (w : World) (B : Nat) (A : Option Addr) (n : Nat) (xs : List Value) : Prop :=
  xs.length = n ∧ (0 < n → ∃ ad, A = some ad ∧ ad.block < B ∧ ∀ j u, xs[j]? = some u → w.cell? (ad.add j) = some u)

section
variable {w w' : World} {B B' n : Nat} {A : Option Addr} {xs : List Value}
theorem Reads.none_ : Reads w B A 0 [] := ⟨rfl, fun h => absurd h (by omega)⟩
theorem Reads.at_ {k : Nat} (h : Reads w B A n xs) (hk : k < n) : ∃ ad u, A = some ad ∧ ad.block < B ∧ xs[k]? = some u ∧ w.cell? (ad.add k) = some u := by
  obtain ⟨ad, e, hb, hc⟩ := h.2 (by omega)
  have hl : k < xs.length := by have := h.1; omega
  exact ⟨ad, xs[k], e, hb, List.getElem?_eq_getElem hl, hc k _ (List.getElem?_eq_getElem hl)⟩
theorem Reads.keep (h : Reads w B A n xs) (hk : ∀ p : Addr, p.block < B → w'.cell? p = w.cell? p) : Reads w' B A n xs :=
  ⟨h.1, fun hn => by
    obtain ⟨ad, e, hb, hc⟩ := h.2 hn
    exact ⟨ad, e, hb, fun j u hu => (hk _ (by rw [block_of_add]; exact hb)).trans (hc j u hu)⟩⟩
theorem Reads.more (h : Reads w B A n xs) (hB : B ≤ B') : Reads w B' A n xs :=
  ⟨h.1, fun hn => by
    obtain ⟨ad, e, hb, hc⟩ := h.2 hn
    exact ⟨ad, e, by omega, hc⟩⟩
theorem Reads.below (h : Reads w B A n xs) (hb : Below B w w') : Reads w' B A n xs := h.keep fun _ hp => hb.cell hp
theorem Reads.drewN (h : Reads w B A n xs) (k : Nat) : Reads (w.drewN k) B A n xs := h
theorem Reads.alloc (h : Reads w B A n xs) (hB : B ≤ w.heap.size) (o : Obj) : Reads (w.alloc o) B A n xs := h.keep fun p hp => World.cell?_alloc_lt w o p (by omega)
theorem Reads.setCell (h : Reads w B A n xs) {p : Addr} (hB : B ≤ p.block) (u : Value) : Reads (w.setCell p u) B A n xs :=
  h.keep fun q hq => World.cell?_setCell_other w p q u (fun e => by subst e; omega)
theorem Reads.grown (h : Reads w B A n xs) {row : Option Nat} (hg : w.grownBy w' row) (hB : B ≤ w.heap.size) (hr : ∀ g, row = some g → B ≤ g) : Reads w' B A n xs :=
  h.keep fun p hp => World.cell?_of_block (hg.block p.block (by omega) (fun e => by have := hr _ e.symm; omega))
theorem Reads.of_own {base : Nat} {e : TypeId} {c : Nat} (h : w.ownsRow base e 1 (.slice A n c) n xs) : Reads w w.heap.size A n xs := by
  refine ⟨by simpa using h.1, fun hn => ?_⟩
  obtain ⟨g, cap, hv, _, hlt⟩ := h.form hn
  have hA : A = some ⟨g, 0, none⟩ := by injection hv
  subst hA
  exact ⟨_, rfl, hlt, h.cells (g := g) rfl⟩
end


/-- Floats as values. -/
def fls (l : List Nat) : List Value := l.map fun (x : Nat) => Value.float .f64 x
def Words (l : List Nat) : Prop := ∀ x ∈ l, x < 18446744073709551616
theorem fls_length (l : List Nat) : (fls l).length = l.length := by simp [fls]
theorem fls_get (l : List Nat) (k : Nat) (h : k < l.length) : (fls l)[k]? = some (.float .f64 (l.getD k 0)) := by
  simp [fls, List.getElem?_eq_getElem h]
theorem Words.get {l : List Nat} (h : Words l) (k : Nat) : l.getD k 0 < 18446744073709551616 := by
  by_cases hk : k < l.length
  · have e : l.getD k 0 = l[k] := by simp [List.getD, List.getElem?_eq_getElem hk]
    rw [e]; exact h _ (List.getElem_mem hk)
  · have e : l.getD k 0 = 0 := by simp [List.getD, List.getElem?_eq_none (Nat.le_of_not_lt hk)]
    rw [e]; decide
theorem Reads.fl {w : World} {B n : Nat} {A : Option Addr} {l : List Nat} {k : Nat} (h : Reads w B A n (fls l)) (hk : k < n) :
    ∃ ad, A = some ad ∧ ad.block < B ∧ w.cell? (ad.add k) = some (.float .f64 (l.getD k 0)) := by
  obtain ⟨ad, u, e, hb, hx, hc⟩ := h.at_ hk
  rw [fls_get l k (by rw [← fls_length l, h.1]; exact hk)] at hx
  exact ⟨ad, e, hb, by rw [hc, ← hx]⟩
theorem Reads.fllen {w : World} {B n : Nat} {A : Option Addr} {l : List Nat} (h : Reads w B A n (fls l)) : l.length = n := by rw [← h.1, fls_length]

/-- The first place of the greatest of the first k. -/
def wst (l : List Nat) : Nat → Nat
  | 0 => 0
  | k + 1 => if cmpT (l.getD k 0) (l.getD (wst l k) 0) > 0 then k else wst l k
theorem wst_lt (l : List Nat) (k n : Nat) (h : 0 < n) (hk : k ≤ n) : wst l k < n := by
  induction k with
  | zero => exact h
  | succ k ih =>
    unfold wst
    split
    · omega
    · exact ih (by omega)
theorem cmpT_pos {a b : Nat} : cmpT a b > 0 ↔ T b < T a := by
  unfold cmpT
  by_cases h1 : T a < T b
  · rw [if_pos h1]; omega
  · rw [if_neg h1]
    by_cases h2 : T b < T a
    · rw [if_pos h2]; omega
    · rw [if_neg h2]; omega
theorem cmpT_neg {a b : Nat} : cmpT a b < 0 ↔ T a < T b := by
  unfold cmpT
  by_cases h1 : T a < T b
  · rw [if_pos h1]; omega
  · rw [if_neg h1]
    by_cases h2 : T b < T a
    · rw [if_pos h2]; omega
    · rw [if_neg h2]; omega
theorem cmpT_zero {a b : Nat} : cmpT a b = 0 ↔ T a = T b := by
  unfold cmpT
  by_cases h1 : T a < T b
  · rw [if_pos h1]; omega
  · rw [if_neg h1]
    by_cases h2 : T b < T a
    · rw [if_pos h2]; omega
    · rw [if_neg h2]; omega
theorem wst_most (l : List Nat) (k i : Nat) (h : i < k) : T (l.getD i 0) ≤ T (l.getD (wst l k) 0) := by
  induction k with
  | zero => omega
  | succ k ih =>
    unfold wst
    by_cases hc : cmpT (l.getD k 0) (l.getD (wst l k) 0) > 0
    · rw [if_pos hc]
      have := cmpT_pos.1 hc
      rcases Nat.lt_or_ge i k with hi | hi
      · have := ih hi; omega
      · obtain rfl : i = k := by omega
        exact Int.le_refl _
    · rw [if_neg hc]
      have hn : ¬ T (l.getD (wst l k) 0) < T (l.getD k 0) := fun e => hc (cmpT_pos.2 e)
      rcases Nat.lt_or_ge i k with hi | hi
      · exact ih hi
      · obtain rfl : i = k := by omega
        omega
theorem wst_first (l : List Nat) (k i : Nat) (h : i < wst l k) (hk : i < k) : T (l.getD i 0) < T (l.getD (wst l k) 0) := by
  induction k with
  | zero => omega
  | succ k ih =>
    unfold wst at h ⊢
    by_cases hc : cmpT (l.getD k 0) (l.getD (wst l k) 0) > 0
    · rw [if_pos hc] at h ⊢
      have := cmpT_pos.1 hc
      have := wst_most l k i h
      omega
    · rw [if_neg hc] at h ⊢
      have hw : wst l k < k + 1 := wst_lt l k (k + 1) (by omega) (by omega)
      rcases Nat.lt_or_ge i k with hi | hi
      · exact ih h hi
      · omega

set_option maxHeartbeats 400000 in
theorem worst_any (A : Option Addr) (n c L : Nat) (l : List Nat) (w : World) (hr : Reads w L A n (fls l)) (hn : n ≤ 140737488351232) :
    Calls Try.prog 22 #[.slice A n c] w fun e w' => e = .returned (.tuple #[.int .i64 (wst l n), .bool (decide (0 < n))]) ∧ w = w' := by
  have HC := Lib.hid compare_any
  go_enter Try.func22, Try.ntmps22
  go_wp2
  have hfin : Hid (0 < n → wst l n < n) := Lib.hid fun h => wst_lt l n n h (Nat.le_refl _)
  have hlt0 : Hid (∀ k, k < n → wst l k < n) := Lib.hid fun k h => wst_lt l k n (by omega) (by omega)
  have hstep : Hid (∀ k, wst l (k + 1) = if cmpT (l.getD k 0) (l.getD (wst l k) 0) > 0 then k else wst l k) := Lib.hid fun k => rfl
  go_loopw [4, 9] (fun s4 s9 wr => ∃ k p : Nat, k ≤ n ∧ s9 = .int .i64 k ∧ s4 = .int .i64 p ∧ p = wst l k ∧ w = wr) (fun _ i _ => n - (intOf i).toNat)
  case atStart => exact ⟨0, 0, Nat.zero_le _, rfl, rfl, rfl, rfl⟩
  case round =>
    obtain ⟨k, p, hk, rfl, rfl, hp, rfl⟩ := hrel
    have Hp := Lib.hid hp
    by_cases hlt : k < n
    · have hpn : p < n := by rw [hp]; exact hlt0.out k hlt
      obtain ⟨ad, rfl, hb1, hc1⟩ := hr.fl hlt
      obtain ⟨ad2, e2, hb2, hc2⟩ := hr.fl hpn
      injection e2 with e2
      subst e2
      have hs := hstep.out k
      rw [← hp] at hs
      clear hp hr hb1 hb2
      generalize l.getD k 0 = x at *
      generalize l.getD p 0 = y at *
      by_cases hc : cmpT x y > 0
      · rw [if_pos hc] at hs
        have Hs := Lib.hid hs
        clear hs
        go_wp2_with (go_at_call 20; refine (HC.out _ _ _).mono ?_; rintro e w' ⟨rfl, rfl⟩)
        go_roundw
        case rel => exact ⟨k + 1, k, by omega, by go_num, rfl, Hs.out.symm, trivial⟩
        case measure => simp [intOf]; omega
      · rw [if_neg hc] at hs
        have Hs := Lib.hid hs
        clear hs
        go_wp2_with (go_at_call 20; refine (HC.out _ _ _).mono ?_; rintro e w' ⟨rfl, rfl⟩)
        go_roundw
        case rel => exact ⟨k + 1, p, by omega, by go_num, rfl, Hs.out.symm, trivial⟩
        case measure => simp [intOf]; omega
    · obtain rfl : k = n := by omega
      go_wp2
      go_ret2
      exact ⟨by rw [← Hp.out]; rfl, rfl⟩
end Go.Proofs.Ythnjnpighnlodaa
