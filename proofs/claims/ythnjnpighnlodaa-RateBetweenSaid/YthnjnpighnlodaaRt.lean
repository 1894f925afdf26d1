/-
  The contracts of a row's top, and of which row stands ahead.
  Conditions: each theorem's own.
-/
import Derived.Test.YthnjnpighnlodaaRs
import Derived.Handy
import Derived.Deep.WholeRow
namespace Go.Proofs.Ythnjnpighnlodaa
open Go.RowKit

theorem top_cells (w : World) (x : Nat) (b : Bool) :
    (w.alloc (.cells #[.float .f64 0, .bool false] 50)).cell? ⟨w.heap.size, 0, none⟩ = some (.float .f64 0) ∧
    (w.alloc (.cells #[.float .f64 0, .bool false] 50)).frozen? ⟨w.heap.size, 0, none⟩ = false ∧
    ((w.alloc (.cells #[.float .f64 0, .bool false] 50)).setCell ⟨w.heap.size, 0, none⟩ (.float .f64 x)).cell? ⟨w.heap.size, 1, none⟩ = some (.bool false) ∧
    ((w.alloc (.cells #[.float .f64 0, .bool false] 50)).setCell ⟨w.heap.size, 0, none⟩ (.float .f64 x)).frozen? ⟨w.heap.size, 1, none⟩ = false ∧
    (((w.alloc (.cells #[.float .f64 0, .bool false] 50)).setCell ⟨w.heap.size, 0, none⟩ (.float .f64 x)).setCell ⟨w.heap.size, 1, none⟩ (.bool b)).cell? ⟨w.heap.size, 0, none⟩ = some (.float .f64 x) ∧
    (((w.alloc (.cells #[.float .f64 0, .bool false] 50)).setCell ⟨w.heap.size, 0, none⟩ (.float .f64 x)).setCell ⟨w.heap.size, 1, none⟩ (.bool b)).cell? ⟨w.heap.size, 1, none⟩ = some (.bool b) := by
  have h := heap_alloc_last w (.cells #[.float .f64 0, .bool false] 50)
  have h2 := heap_setCell_same _ w.heap.size 0 _ _ (.float .f64 x) h
  have h3 := heap_setCell_same _ w.heap.size 1 _ _ (.bool b) h2
  exact ⟨cell_of_row _ _ 0 _ _ _ h, frozen_of_row _ _ 0 _ _ h, cell_of_row _ _ 1 _ _ _ h2, frozen_of_row _ _ 1 _ _ h2, cell_of_row _ _ 0 _ _ _ h3, cell_of_row _ _ 1 _ _ _ h3⟩
theorem topOf_any (A : Option Addr) (n c L : Nat) (l : List Nat) (w : World) (hr : Reads w L A n (fls l)) (hL : L ≤ w.heap.size) (hn : n ≤ 140737488351232) :
    Calls Try.prog 33 #[.slice A n c] w fun e w' => e = .returned (.agg #[.float .f64 (if 0 < n then l.getD (wst l n) 0 else 0), .bool (decide (0 < n))]) ∧ Below w.heap.size w w' := by
  by_cases h0 : 0 < n
  · have HW : Hid (∀ w, Reads w L A n (fls l) → Calls Try.prog 22 #[.slice A n c] w fun e w' => e = .returned (.tuple #[.int .i64 (wst l n), .bool true]) ∧ w = w') := Lib.hid (fun w h => (decide_eq_true h0) ▸ worst_any A n c L l w h hn)
    have hp := wst_lt l n n h0 (Nat.le_refl _)
    have hra : ∀ o, Reads (w.alloc o) L A n (fls l) := fun o => hr.alloc hL o
    have hc : ∃ ad, A = some ad ∧ ∀ o, (w.alloc o).cell? (ad.add (wst l n)) = some (.float .f64 (l.getD (wst l n) 0)) := by
      obtain ⟨ad, rfl, hb, hc1⟩ := hr.fl hp
      exact ⟨ad, rfl, fun o => by rw [World.cell?_alloc_lt w o _ (by rw [block_of_add]; omega)]; exact hc1⟩
    obtain ⟨ad, rfl, hc1⟩ := hc
    have Hra := Lib.hid hra
    have hd : decide (0 < n) = true := decide_eq_true h0
    rw [if_pos h0, hd]
    clear hr hra hd
    generalize l.getD (wst l n) 0 = x at *
    obtain ⟨k0, f0, k1, f1, k2, k3⟩ := top_cells w x true
    have s0 : (store ⟨w.heap.size, 0, none⟩ (.float .f64 x)).run Try.prog (w.alloc (.cells #[.float .f64 0, .bool false] 50)) = .ok () ((w.alloc (.cells #[.float .f64 0, .bool false] 50)).setCell ⟨w.heap.size, 0, none⟩ (.float .f64 x)) := by rw [run_store _ _ _ _ _ rfl, k0]; simp only [f0]; rfl
    go_enter Try.func33, Try.ntmps33
    go_wp2_with (go_at_call 22; refine (HW.out _ (Hra.out _)).mono ?_; rintro e w' ⟨rfl, rfl⟩)
    go_returns
    exact ⟨rfl, (Below.refl _ _).alloc (Nat.le_refl _) _⟩
  · have HW : Hid (∀ w, Reads w L A n (fls l) → Calls Try.prog 22 #[.slice A n c] w fun e w' => e = .returned (.tuple #[.int .i64 (wst l n), .bool false]) ∧ w = w') := Lib.hid (fun w h => (decide_eq_false h0) ▸ worst_any A n c L l w h hn)
    have Hra : Hid (∀ o, Reads (w.alloc o) L A n (fls l)) := Lib.hid fun o => hr.alloc hL o
    have hd : decide (0 < n) = false := decide_eq_false h0
    rw [if_neg h0, hd]
    clear hr hd
    obtain ⟨k0, f0, k1, f1, k2, k3⟩ := top_cells w 0 false
    have s0 : (store ⟨w.heap.size, 0, none⟩ (.float .f64 0)).run Try.prog (w.alloc (.cells #[.float .f64 0, .bool false] 50)) = .ok () ((w.alloc (.cells #[.float .f64 0, .bool false] 50)).setCell ⟨w.heap.size, 0, none⟩ (.float .f64 0)) := by rw [run_store _ _ _ _ _ rfl, k0]; simp only [f0]; rfl
    go_enter Try.func33, Try.ntmps33
    go_wp2_with (go_at_call 22; refine (HW.out _ (Hra.out _)).mono ?_; rintro e w' ⟨rfl, rfl⟩)
    go_returns
    exact ⟨rfl, (Below.refl _ _).alloc (Nat.le_refl _) _⟩
theorem above_any (x y : Nat) (a b : Bool) (w : World) :
    Calls Try.prog 34 #[.agg #[.float .f64 x, .bool a], .agg #[.float .f64 y, .bool b]] w fun e w' => e = .returned (.bool (a && (!b || decide (cmpT x y > 0)))) ∧ Below w.heap.size w w' := by
  have HC := Lib.hid compare_any
  cases a <;> cases b
  all_goals
    go_enter Try.func34, Try.ntmps34
    go_wp2_with (go_at_call 20; refine (HC.out _ _ _).mono ?_; rintro e w' ⟨rfl, rfl⟩)
    go_returns
    exact ⟨rfl, ((Below.refl _ _).alloc (Nat.le_refl _) _).alloc (by simp) _⟩

/-- A row of rates, as a slice. -/
structure Row where
  A : Option Addr
  n : Nat
  c : Nat
  l : List Nat
def Row.val (r : Row) : Value := .slice r.A r.n r.c
def Row.top (r : Row) : Nat := if 0 < r.n then r.l.getD (wst r.l r.n) 0 else 0
def Row.there (r : Row) : Bool := decide (0 < r.n)
def RowsAre (w : World) (L : Nat) (A : Option Addr) (n : Nat) (rs : List Row) : Prop :=
  Reads w L A n (rs.map Row.val) ∧ ∀ r ∈ rs, Reads w L r.A r.n (fls r.l) ∧ Words r.l ∧ r.n ≤ 140737488351232
theorem RowsAre.below {w w' : World} {L n : Nat} {A : Option Addr} {rs : List Row} (h : RowsAre w L A n rs) (hb : Below L w w') : RowsAre w' L A n rs :=
  ⟨h.1.below hb, fun r hr => ⟨(h.2 r hr).1.below hb, (h.2 r hr).2⟩⟩
theorem RowsAre.len {w : World} {L n : Nat} {A : Option Addr} {rs : List Row} (h : RowsAre w L A n rs) : rs.length = n := by have := h.1.1; simpa using this
theorem RowsAre.row {w : World} {L n : Nat} {A : Option Addr} {rs : List Row} {k : Nat} (h : RowsAre w L A n rs) (hk : k < n) :
    ∃ ad r, A = some ad ∧ ad.block < L ∧ rs[k]? = some r ∧ w.cell? (ad.add k) = some (.slice r.A r.n r.c) ∧ Reads w L r.A r.n (fls r.l) ∧ Words r.l ∧ r.n ≤ 140737488351232 := by
  obtain ⟨ad, u, e, hb, hx, hc⟩ := h.1.at_ hk
  have hl := h.len
  have hkr : k < rs.length := by omega
  refine ⟨ad, rs[k], e, hb, List.getElem?_eq_getElem hkr, ?_, h.2 _ (List.getElem_mem hkr)⟩
  rw [hc, ← hx, List.getElem?_map, List.getElem?_eq_getElem hkr]
  rfl
end Go.Proofs.Ythnjnpighnlodaa
