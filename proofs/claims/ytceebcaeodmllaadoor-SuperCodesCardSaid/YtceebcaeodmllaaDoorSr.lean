/-
  The contracts of Right, of the program and of the definition: may it be said?
  Conditions: each theorem's own.
-/
import Derived.Test.YtceebcaeodmllaaDoorRefPut
import Derived.Handy
import Derived.Deep.WholeRow
import Derived.Deep.RegionHeld3
namespace Go.Proofs.YtceebcaeodmllaaDoor.S
open Go.RowKit

/-- What a disk says of the array. -/
structure Sup where
  gen : Int
  mem : Int
  disk : Int
  str : Int
  logs : Int
  spare : Int
  mark : Int
  cur : Int
def Sup.cells (s : Sup) : Array Value := #[.int .i64 s.gen, .int .i64 s.mem, .int .i64 s.disk, .int .i64 s.str, .int .i64 s.logs, .int .i64 s.spare, .int .i64 s.mark, .int .i64 s.cur]
def Sup.val (s : Sup) : Value := .agg s.cells
def Sup.most (s : Sup) : Int := if s.spare = -1 then 0 else s.str
/-- All numbers are int's. -/
def Sup.fits (s : Sup) : Prop := ∀ x ∈ [s.gen, s.mem, s.disk, s.str, s.logs, s.spare, s.mark, s.cur], -9223372036854775808 ≤ x ∧ x ≤ 9223372036854775807
def Sup.right (s : Sup) : Bool :=
  decide (1 ≤ s.gen ∧ s.gen ≤ 4611686018427387904) && decide (3 ≤ s.mem ∧ s.mem ≤ 16) && decide (0 ≤ s.disk ∧ s.disk ≤ s.mem) && decide (1 ≤ s.str ∧ s.str ≤ 1024) &&
  decide (1 ≤ s.logs ∧ s.logs ≤ 8) && decide (-1 ≤ s.spare ∧ s.spare ≤ s.mem - 1) && decide (0 ≤ s.mark ∧ s.mark ≤ s.most) && decide (0 ≤ s.cur ∧ s.cur ≤ s.str - 1)

theorem within_any (x l m : Int) (w : World) :
    Calls Tryd.prog 25 #[.int .i64 x, .int .i64 l, .int .i64 m] w fun e w' => e = .returned (.bool (decide (l ≤ x ∧ x ≤ m))) ∧ w = w' := by
  by_cases h1 : l ≤ x
  · by_cases h2 : x ≤ m
    · have hc : decide (l ≤ x ∧ x ≤ m) = true := decide_eq_true ⟨h1, h2⟩
      rw [hc]
      clear hc
      have d1 : decide (x ≥ l) = true := decide_eq_true h1
      have d2 : decide (x ≤ m) = true := decide_eq_true h2
      go_enter Tryd.func25, Tryd.ntmps25
      go_wp2
      go_ret
      exact ⟨rfl, rfl⟩
    · have hc : decide (l ≤ x ∧ x ≤ m) = false := decide_eq_false (fun h => h2 h.2)
      rw [hc]
      clear hc
      have d1 : decide (x ≥ l) = true := decide_eq_true h1
      have d2 : decide (x ≤ m) = false := decide_eq_false h2
      go_enter Tryd.func25, Tryd.ntmps25
      go_wp2
      go_ret
      exact ⟨rfl, rfl⟩
  · have hc : decide (l ≤ x ∧ x ≤ m) = false := decide_eq_false (fun h => h1 h.1)
    rw [hc]
    clear hc
    have d1 : decide (x ≥ l) = false := decide_eq_false h1
    go_enter Tryd.func25, Tryd.ntmps25
    go_wp2
    go_ret
    exact ⟨rfl, rfl⟩
theorem within_yes (x l m : Int) (h : l ≤ x ∧ x ≤ m) (w : World) :
    Calls Tryd.prog 25 #[.int .i64 x, .int .i64 l, .int .i64 m] w fun e w' => e = .returned (.bool true) ∧ w = w' := by
  have := within_any x l m w
  rwa [decide_eq_true h] at this
theorem within_not (x l m : Int) (h : ¬ (l ≤ x ∧ x ≤ m)) (w : World) :
    Calls Tryd.prog 25 #[.int .i64 x, .int .i64 l, .int .i64 m] w fun e w' => e = .returned (.bool false) ∧ w = w' := by
  have := within_any x l m w
  rwa [decide_eq_false h] at this
theorem mostMark_any (s : Sup) (w : World) :
    Calls Tryd.prog 26 #[s.val] w fun e w' => e = .returned (.int .i64 s.most) ∧ Below w.heap.size w w' := by
  obtain ⟨x0, x1, x2, x3, x4, x5, x6, x7⟩ := s
  by_cases h : x5 = -1
  · subst h
    go_enter Tryd.func26, Tryd.ntmps26
    simp only [Sup.val, Sup.cells]
    go_wp2
    go_ret
    exact ⟨rfl, (Below.refl _ _).alloc (Nat.le_refl _) _⟩
  · have hc : Hid (Sup.most ⟨x0, x1, x2, x3, x4, x5, x6, x7⟩ = x3) := Lib.hid (if_neg h)
    have hd : (x5 == -1) = false := beq_eq_false_iff_ne.2 h
    go_enter Tryd.func26, Tryd.ntmps26
    simp only [Sup.val, Sup.cells]
    go_wp2
    go_ret
    exact ⟨by rw [hc.out]; rfl, (Below.refl _ _).alloc (Nat.le_refl _) _⟩

/-- A block of eight cells, read. -/
theorem row8 {W : World} {g : Nat} {s : Sup} {e : TypeId} (h : W.heap[g]? = some (.cells s.cells e)) :
    W.cell? ⟨g, 0, none⟩ = some (.int .i64 s.gen) ∧ W.cell? ⟨g, 1, none⟩ = some (.int .i64 s.mem) ∧ W.cell? ⟨g, 2, none⟩ = some (.int .i64 s.disk) ∧ W.cell? ⟨g, 3, none⟩ = some (.int .i64 s.str) ∧
    W.cell? ⟨g, 4, none⟩ = some (.int .i64 s.logs) ∧ W.cell? ⟨g, 5, none⟩ = some (.int .i64 s.spare) ∧ W.cell? ⟨g, 6, none⟩ = some (.int .i64 s.mark) ∧ W.cell? ⟨g, 7, none⟩ = some (.int .i64 s.cur) :=
  ⟨cell_of_row _ _ 0 _ _ _ h, cell_of_row _ _ 1 _ _ _ h, cell_of_row _ _ 2 _ _ _ h, cell_of_row _ _ 3 _ _ _ h, cell_of_row _ _ 4 _ _ _ h, cell_of_row _ _ 5 _ _ _ h, cell_of_row _ _ 6 _ _ _ h, cell_of_row _ _ 7 _ _ _ h⟩
end Go.Proofs.YtceebcaeodmllaaDoor.S
