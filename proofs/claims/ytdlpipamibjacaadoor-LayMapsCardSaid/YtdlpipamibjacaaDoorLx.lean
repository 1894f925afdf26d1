/-
  The contracts of Map and Back, of the program and of the definition.
  Conditions: each theorem's own.
-/
import Derived.Test.YtdlpipamibjacaaDoorLm
import Derived.Handy
import Derived.Deep.WholeRow
namespace Go.Proofs.YtdlpipamibjacaaDoor.L
open Go.RowKit

def spot (n b : Nat) : Value := .agg #[.int .i64 ((b / (n - 1) : Nat) : Int), .int .i64 ((memAt n (par n (b / (n - 1))) (b % (n - 1)) : Nat) : Int), .int .i64 ((b % (n - 1) : Nat) : Int)]
def noSpot : Value := .agg #[.int .i64 0, .int .i64 0, .int .i64 0]
theorem quo_int (n b : Nat) (h : 3 ≤ n) : (b : Int) / ((n : Int) - 1) = ((b / (n - 1) : Nat) : Int) := by
  have e : (n : Int) - 1 = ((n - 1 : Nat) : Int) := by omega
  rw [e]; simp
theorem rem_int (n b : Nat) (h : 3 ≤ n) : (b : Int) % ((n : Int) - 1) = ((b % (n - 1) : Nat) : Int) := by
  have e : (n : Int) - 1 = ((n - 1 : Nat) : Int) := by omega
  rw [e]; simp

/-- The three numbers of a spot in a new block. -/
theorem spot_cells (w : World) (k : Nat) (x y z : Value) :
    (((((w.alloc (.cells #[.int .i64 0, .int .i64 0, .int .i64 0] 26)).drewN k).setCell ⟨w.heap.size, 0, none⟩ x).setCell ⟨w.heap.size, 1, none⟩ y).setCell ⟨w.heap.size, 2, none⟩ z).cell? ⟨w.heap.size, 0, none⟩ = some x ∧
    (((((w.alloc (.cells #[.int .i64 0, .int .i64 0, .int .i64 0] 26)).drewN k).setCell ⟨w.heap.size, 0, none⟩ x).setCell ⟨w.heap.size, 1, none⟩ y).setCell ⟨w.heap.size, 2, none⟩ z).cell? ⟨w.heap.size, 1, none⟩ = some y ∧
    (((((w.alloc (.cells #[.int .i64 0, .int .i64 0, .int .i64 0] 26)).drewN k).setCell ⟨w.heap.size, 0, none⟩ x).setCell ⟨w.heap.size, 1, none⟩ y).setCell ⟨w.heap.size, 2, none⟩ z).cell? ⟨w.heap.size, 2, none⟩ = some z := by
  have h : ((w.alloc (.cells #[.int .i64 0, .int .i64 0, .int .i64 0] 26)).drewN k).heap[w.heap.size]? = some (.cells #[.int .i64 0, .int .i64 0, .int .i64 0] 26) := heap_alloc_last w (.cells #[.int .i64 0, .int .i64 0, .int .i64 0] 26)
  have h2 := heap_setCell_same _ w.heap.size 0 _ _ x h
  have h3 := heap_setCell_same _ w.heap.size 1 _ _ y h2
  have h4 := heap_setCell_same _ w.heap.size 2 _ _ z h3
  exact ⟨cell_of_row _ _ 0 _ _ _ h4, cell_of_row _ _ 1 _ _ _ h4, cell_of_row _ _ 2 _ _ _ h4⟩
theorem below_drewN {B : Nat} {w w' : World} (h : Below B w w') (k : Nat) : Below B w (w'.drewN k) := h.trans ⟨rfl, rfl, rfl, Nat.le_refl _, fun _ _ => rfl⟩
theorem spot_below {B : Nat} {w0 : World} (w : World) (k : Nat) (x y z : Value) (h : Below B w0 w) (hB : B ≤ w.heap.size) :
    Below B w0 (((((w.alloc (.cells #[.int .i64 0, .int .i64 0, .int .i64 0] 26)).drewN k).setCell ⟨w.heap.size, 0, none⟩ x).setCell ⟨w.heap.size, 1, none⟩ y).setCell ⟨w.heap.size, 2, none⟩ z) :=
  (((below_drewN (h.alloc hB _) k).setCell hB _).setCell hB _).setCell hB _

set_option maxHeartbeats 400000 in
theorem map_ok (n b : Nat) (w : World) (h3 : 3 ≤ n) (h16 : n ≤ 16) (hb : b ≤ 9223372036854775807) :
    Calls Tryd.prog 19 #[.int .i64 n, .int .i64 b] w fun e w' => e = .returned (.tuple #[spot n b, .int .i64 0]) ∧ Below w.heap.size w w' := by
  have hqb : b / (n - 1) ≤ b := Nat.div_le_self _ _
  have hrb : b % (n - 1) < n - 1 := Nat.mod_lt _ (by omega)
  have hq := quo_int n b h3
  have hr := rem_int n b h3
  have hsp : Hid (spot n b = .agg #[.int .i64 ((b / (n - 1) : Nat) : Int), .int .i64 ((memAt n (par n (b / (n - 1))) (b % (n - 1)) : Nat) : Int), .int .i64 ((b % (n - 1) : Nat) : Int)]) := Lib.hid rfl
  rw [hsp.out]
  clear hsp
  generalize b / (n - 1) = q at *
  generalize b % (n - 1) = r at *
  have hp := Lib.hid (parity_ok n q · h3 h16 (by omega))
  have hpn := par_lt n q (by omega)
  generalize par n q = p at *
  have hm : ((p : Int) + 1 + (r : Int)) % (n : Int) = ((memAt n p r : Nat) : Int) := by unfold memAt; simp
  have hml := memAt_lt n p r (by omega)
  generalize memAt n p r = m at *
  go_enter Tryd.func19, Tryd.ntmps19
  go_wp2
  go_quiet (fail)
  go_wp2_with (go_at_call 17; refine (hp.out _).mono ?_; rintro e w' ⟨rfl, rfl⟩)
  obtain ⟨k0, k1, k2⟩ := spot_cells w nq (.int .i64 q) (.int .i64 m) (.int .i64 r)
  go_returns
  exact ⟨rfl, spot_below _ _ _ _ _ (Below.refl _ _) (Nat.le_refl _)⟩

theorem map_no (n b : Int) (w : World) (h : Not_ n b) :
    Calls Tryd.prog 19 #[.int .i64 n, .int .i64 b] w fun e w' => e = .returned (.tuple #[noSpot, .int .i64 1]) ∧ Below w.heap.size w w' := by
  have hsp : Hid (noSpot = .agg #[.int .i64 0, .int .i64 0, .int .i64 0]) := Lib.hid rfl
  rw [hsp.out]
  rcases h with h | ⟨h, h2⟩ | ⟨h, h2, h3⟩
  all_goals
    go_enter Tryd.func19, Tryd.ntmps19
    go_wp2
    go_returns
    exact ⟨rfl, (Below.refl _ _).alloc (Nat.le_refl _) _⟩
theorem refMap_no (n b : Int) (w : World) (h : Not_ n b) :
    Calls Tryd.prog 20 #[.int .i64 n, .int .i64 b] w fun e w' => e = .returned (.tuple #[noSpot, .int .i64 1]) ∧ Below w.heap.size w w' := by
  have hsp : Hid (noSpot = .agg #[.int .i64 0, .int .i64 0, .int .i64 0]) := Lib.hid rfl
  rw [hsp.out]
  rcases h with h | ⟨h, h2⟩ | ⟨h, h2, h3⟩
  all_goals
    go_enter Tryd.func20, Tryd.ntmps20
    go_wp2
    go_returns
    exact ⟨rfl, (Below.refl _ _).alloc (Nat.le_refl _) _⟩
/-- A block of three cells, its first reading and what three stores leave. -/
theorem row3 (W : World) (g : Nat) (a b c x y z : Value) (e : TypeId) (h : W.heap[g]? = some (.cells #[a, b, c] e)) :
    W.cell? ⟨g, 0, none⟩ = some a ∧ W.frozen? ⟨g, 0, none⟩ = false ∧
    (W.setCell ⟨g, 0, none⟩ x).cell? ⟨g, 1, none⟩ = some b ∧ (W.setCell ⟨g, 0, none⟩ x).frozen? ⟨g, 1, none⟩ = false ∧
    ((W.setCell ⟨g, 0, none⟩ x).setCell ⟨g, 1, none⟩ y).cell? ⟨g, 2, none⟩ = some c ∧ ((W.setCell ⟨g, 0, none⟩ x).setCell ⟨g, 1, none⟩ y).frozen? ⟨g, 2, none⟩ = false ∧
    (((W.setCell ⟨g, 0, none⟩ x).setCell ⟨g, 1, none⟩ y).setCell ⟨g, 2, none⟩ z).cell? ⟨g, 0, none⟩ = some x ∧
    (((W.setCell ⟨g, 0, none⟩ x).setCell ⟨g, 1, none⟩ y).setCell ⟨g, 2, none⟩ z).cell? ⟨g, 1, none⟩ = some y ∧
    (((W.setCell ⟨g, 0, none⟩ x).setCell ⟨g, 1, none⟩ y).setCell ⟨g, 2, none⟩ z).cell? ⟨g, 2, none⟩ = some z ∧
    (W.setCell ⟨g, 0, none⟩ x).cell? ⟨g, 0, none⟩ = some x ∧ ((W.setCell ⟨g, 0, none⟩ x).setCell ⟨g, 1, none⟩ y).cell? ⟨g, 1, none⟩ = some y := by
  have h2 := heap_setCell_same _ g 0 _ _ x h
  have h3 := heap_setCell_same _ g 1 _ _ y h2
  have h4 := heap_setCell_same _ g 2 _ _ z h3
  exact ⟨cell_of_row _ _ 0 _ _ _ h, frozen_of_row _ _ 0 _ _ h, cell_of_row _ _ 1 _ _ _ h2, frozen_of_row _ _ 1 _ _ h2, cell_of_row _ _ 2 _ _ _ h3, frozen_of_row _ _ 2 _ _ h3,
    cell_of_row _ _ 0 _ _ _ h4, cell_of_row _ _ 1 _ _ _ h4, cell_of_row _ _ 2 _ _ _ h4, cell_of_row _ _ 0 _ _ _ h2, cell_of_row _ _ 1 _ _ _ h3⟩

theorem may_yes (n : Int) (w : World) (h3 : 3 ≤ n) (h16 : n ≤ 16) :
    Calls Tryd.prog 44 #[.int .i64 n] w fun e w' => e = .returned (.bool true) ∧ w = w' := by
  go_enter Tryd.func44, Tryd.ntmps44
  go_wp2
  go_ret
  exact ⟨rfl, rfl⟩
set_option maxRecDepth 20000 in
set_option maxHeartbeats 800000 in
theorem refMap_ok (n b : Nat) (w : World) (h3 : 3 ≤ n) (h16 : n ≤ 16) (hb : b ≤ 9223372036854775807) :
    Calls Tryd.prog 20 #[.int .i64 n, .int .i64 b] w fun e w' => e = .returned (.tuple #[spot n b, .int .i64 0]) ∧ Below w.heap.size w w' := by
  have hqb : b / (n - 1) ≤ b := Nat.div_le_self _ _
  have hrb : b % (n - 1) < n - 1 := Nat.mod_lt _ (by omega)
  have hq := quo_int n b h3
  have hdm := Nat.div_add_mod b (n - 1)
  have hsp : Hid (spot n b = .agg #[.int .i64 ((b / (n - 1) : Nat) : Int), .int .i64 ((memAt n (par n (b / (n - 1))) (b % (n - 1)) : Nat) : Int), .int .i64 ((b % (n - 1) : Nat) : Int)]) := Lib.hid rfl
  rw [hsp.out]
  clear hsp
  generalize b / (n - 1) = q at *
  generalize b % (n - 1) = r at *
  have hmul : (q : Int) * ((n : Int) - 1) = (b : Int) - (r : Int) := by
    have e : (n : Int) - 1 = ((n - 1 : Nat) : Int) := by omega
    rw [e, Int.mul_comm, ← Int.natCast_mul]
    omega
  have hk : (b : Int) - ((b : Int) - (r : Int)) = (r : Int) := by omega
  have hrB : r ≤ b := by omega
  clear hdm
  have hp := Lib.hid (refMembers_ok n q · h3 h16 (by omega))
  have hg := Lib.hid (memL_get n (par n q) r (by omega))
  have hl := Lib.hid (memL_length n (par n q))
  generalize memAt n (par n q) r = m at *
  generalize memL n (par n q) = l at *
  go_enter Tryd.func20, Tryd.ntmps20
  go_wp2_with (first
    | (go_at_call 44; refine (may_yes n _ (by omega) (by omega)).mono ?_; rintro e w' ⟨rfl, rfl⟩)
    | (go_at_call 25; refine (hp.out _).mono ?_; rintro e w1 ⟨v1, rfl, hown1, hb1⟩))
  have hblk : w1.heap[w.heap.size]? = some (.cells #[.int .i64 0, .int .i64 0, .int .i64 0] 26) := by
    rw [hb1.block _ (by simp)]
    exact heap_alloc_last w (.cells #[.int .i64 0, .int .i64 0, .int .i64 0] 26)
  rw [hl.out] at hown1
  obtain ⟨A1, c1, rfl, hr1, _, _⟩ := own_shape hown1
  have hrn : r < n := by omega
  obtain ⟨ad, rfl, hlt, hc⟩ := hr1.num (k := r) (by omega)
  rw [hg.out] at hc
  have hsz : w.heap.size ≤ w1.heap.size := by have := hb1.size; simp at this; omega
  have hbw : Below w.heap.size w w1 := ((Below.refl _ _).alloc (Nat.le_refl _) _).trans (hb1.mono (by simp))
  obtain ⟨k0, f0, k1, f1, k2, f2, z0, z1, z2, y0, y1⟩ := row3 w1 w.heap.size _ _ _ (.int .i64 q) (.int .i64 m) (.int .i64 r) _ hblk
  clear hown1 hb1 hblk hrb hq hmul hk hr1
  go_wp2
  go_simp
  go_wp2
  refine bodyPost_ret (by simp [results, Tryd.results20, go_sem, y0, y1, z2]; try rfl) rfl ?_
  exact ⟨rfl, ((hbw.setCell (p := ⟨w.heap.size, 0, none⟩) (Nat.le_refl _) _).setCell (p := ⟨w.heap.size, 1, none⟩) (Nat.le_refl _) _).setCell (p := ⟨w.heap.size, 2, none⟩) (Nat.le_refl _) _⟩
end Go.Proofs.YtdlpipamibjacaaDoor.L
