/-
  The program's calls and the definition's, side by side: for every argument both return the same.
  Conditions: the table of places, where Members and Back read it.
-/
import Derived.Test.YtdlpipamibjacaaDoorLf
namespace Go.Proofs.YtdlpipamibjacaaDoor.L
open Go.RowKit

/-- Two calls return one value and turn nothing. -/
def Quiet (f : FuncId) (args : Array Value) (v : Value) : Prop := ∀ w, Calls Tryd.prog f args w fun e w' => e = .returned v ∧ w = w'
def Keeps (f : FuncId) (args : Array Value) (v : Value) : Prop := ∀ w, Calls Tryd.prog f args w fun e w' => e = .returned v ∧ Below w.heap.size w w'
theorem nat_of {n : Int} (h : 0 ≤ n) : ∃ m : Nat, n = (m : Int) := ⟨n.toNat, by omega⟩

theorem cap_both (n s : Int) : ∃ a e : Int, Quiet 15 #[.int .i64 n, .int .i64 s] (.tuple #[.int .i64 a, .int .i64 e]) ∧ Quiet 16 #[.int .i64 n, .int .i64 s] (.tuple #[.int .i64 a, .int .i64 e]) := by
  rcases cap_or n s with h | ⟨h1, h2, h3, h4⟩
  · exact ⟨0, 1, fun w => cap_no n s w h, fun w => refCap_no n s w h⟩
  · obtain ⟨n, rfl⟩ := nat_of (n := n) (by omega)
    obtain ⟨s, rfl⟩ := nat_of (n := s) (by omega)
    exact ⟨_, 0, fun w => cap_ok n s w (by omega) (by omega) (by omega) (by omega), fun w => refCap_ok n s w (by omega) (by omega) (by omega) (by omega)⟩
theorem parity_both (n s : Int) (hs : s ≤ 9223372036854775807) : ∃ a e : Int, Quiet 17 #[.int .i64 n, .int .i64 s] (.tuple #[.int .i64 a, .int .i64 e]) ∧ Quiet 18 #[.int .i64 n, .int .i64 s] (.tuple #[.int .i64 a, .int .i64 e]) := by
  rcases not_or n s with h | ⟨h1, h2, h3⟩
  · exact ⟨0, 1, fun w => parity_no n s w h, fun w => refParity_no n s w h⟩
  · obtain ⟨n, rfl⟩ := nat_of (n := n) (by omega)
    obtain ⟨s, rfl⟩ := nat_of (n := s) (by omega)
    exact ⟨_, 0, fun w => parity_ok n s w (by omega) (by omega) (by omega), fun w => refParity_ok n s w (by omega) (by omega) (by omega)⟩
theorem map_both (n s : Int) (hs : s ≤ 9223372036854775807) : ∃ a b c e : Int, Keeps 19 #[.int .i64 n, .int .i64 s] (.tuple #[.agg #[.int .i64 a, .int .i64 b, .int .i64 c], .int .i64 e]) ∧ Keeps 20 #[.int .i64 n, .int .i64 s] (.tuple #[.agg #[.int .i64 a, .int .i64 b, .int .i64 c], .int .i64 e]) := by
  rcases not_or n s with h | ⟨h1, h2, h3⟩
  · exact ⟨0, 0, 0, 1, fun w => map_no n s w h, fun w => refMap_no n s w h⟩
  · obtain ⟨n, rfl⟩ := nat_of (n := n) (by omega)
    obtain ⟨s, rfl⟩ := nat_of (n := s) (by omega)
    exact ⟨_, _, _, 0, fun w => map_ok n s w (by omega) (by omega) (by omega), fun w => refMap_ok n s w (by omega) (by omega) (by omega)⟩
theorem backV_shape (n s m : Nat) : ∃ (a : Int) (b : Bool), backV n s m = .tuple #[.int .i64 a, .bool b, .int .i64 0] := by
  unfold backV
  split
  · exact ⟨_, _, rfl⟩
  · exact ⟨_, _, rfl⟩
theorem back_both (n s m : Int) : ∃ (a : Int) (b : Bool) (e : Int), (∀ w, Tab w → Calls Tryd.prog 22 #[.int .i64 n, .int .i64 s, .int .i64 m] w fun e' w' => e' = .returned (.tuple #[.int .i64 a, .bool b, .int .i64 e]) ∧ w = w') ∧ Keeps 23 #[.int .i64 n, .int .i64 s, .int .i64 m] (.tuple #[.int .i64 a, .bool b, .int .i64 e]) := by
  rcases back_or n s m with h | ⟨h1, h2, h3, h4, h5, h6⟩
  · exact ⟨0, false, 1, fun w _ => back_no n s m w h, fun w => (refBack_no n s m w h).mono fun e w' ⟨h1, h2⟩ => ⟨h1, h2 ▸ Below.refl _ _⟩⟩
  · obtain ⟨n, rfl⟩ := nat_of (n := n) (by omega)
    obtain ⟨s, rfl⟩ := nat_of (n := s) (by omega)
    obtain ⟨m, rfl⟩ := nat_of (n := m) (by omega)
    obtain ⟨a, b, hv⟩ := backV_shape n s m
    refine ⟨a, b, 0, fun w hT => ?_, fun w => ?_⟩
    · have := back_ok n s m w (by omega) (by omega) (by omega) (by omega) hT
      rwa [hv] at this
    · have := refBack_ok n s m w (by omega) (by omega) (by omega) (by omega)
      rwa [hv] at this
/-- A list of numbers, in memory, and an error's number. -/
def Lists (f : FuncId) (args : Array Value) (l : List Nat) (e : Int) (w : World) : Prop :=
  Calls Tryd.prog f args w fun e' w' => ∃ A c, e' = .returned (.tuple #[.slice A l.length c, .int .i64 e]) ∧ Reads w' w'.heap.size A l.length (ints l) ∧ Below w.heap.size w w'
theorem members_both (n s : Int) (hs : s ≤ 9223372036854775807) : ∃ (l : List Nat) (e : Int), l.length ≤ 16 ∧ (∀ w, Tab w → Lists 24 #[.int .i64 n, .int .i64 s] l e w) ∧ (∀ w, Lists 25 #[.int .i64 n, .int .i64 s] l e w) := by
  rcases not_or n s with h | ⟨h1, h2, h3⟩
  · refine ⟨[], 1, by decide, fun w _ => (members_no n s w h).mono ?_, fun w => (refMembers_no n s w h).mono ?_⟩
    · rintro e w' ⟨rfl, rfl⟩
      exact ⟨none, 0, rfl, Reads.none_, Below.refl _ _⟩
    · rintro e w' ⟨rfl, rfl⟩
      exact ⟨none, 0, rfl, Reads.none_, Below.refl _ _⟩
  · obtain ⟨n, rfl⟩ := nat_of (n := n) (by omega)
    obtain ⟨s, rfl⟩ := nat_of (n := s) (by omega)
    refine ⟨memL n (par n s), 0, by rw [memL_length]; omega, fun w hT => (members_ok n s w (by omega) (by omega) (by omega) hT).mono ?_, fun w => (refMembers_ok n s w (by omega) (by omega) (by omega)).mono ?_⟩
    · rintro e w' ⟨v, rfl, hown, hb⟩
      obtain ⟨A, c, rfl, hr, _, _⟩ := own_shape hown
      exact ⟨A, c, rfl, hr, hb⟩
    · rintro e w' ⟨v, rfl, hown, hb⟩
      obtain ⟨A, c, rfl, hr, _, _⟩ := own_shape hown
      exact ⟨A, c, rfl, hr, hb⟩
end Go.Proofs.YtdlpipamibjacaaDoor.L
