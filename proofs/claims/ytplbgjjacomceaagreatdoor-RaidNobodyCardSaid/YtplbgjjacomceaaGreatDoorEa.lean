/-
  Law 08's mod; Create on a new shelf, whatever is asked.
  Conditions: each theorem's own.
-/
import Derived.Test.YtplbgjjacomceaaGreatDoorGl
namespace Go.Proofs.YtplbgjjacomceaaGreatDoor.U
open Go.RowKit Go.Maps

/-- A number's rest, not below 0. -/
theorem mod8_any (a : Int) (n : Nat) (hn : 0 < n) (hn2 : n ≤ 1000) (w : World) : Calls Tryz.prog 24 #[.int .i64 a, .int .i64 n] w fun e w' => e = .returned (.int .i64 (((a % n).toNat : Nat) : Int)) ∧ w = w' := by
  have hlt : (a.tmod n).natAbs < n := by
    rw [Int.natAbs_tmod]
    exact Nat.mod_lt _ hn
  have hem : ((a % n).toNat : Int) = if a.tmod n < 0 then a.tmod n + n else a.tmod n := by
    have h0 : 0 ≤ a % (n : Int) := Int.emod_nonneg _ (by omega)
    rw [Int.toNat_of_nonneg h0, Int.tmod_eq_emod]
    have h1 : a % (n : Int) < n := Int.emod_lt_of_pos _ (by omega)
    split <;> omega
  rw [hem]
  have hn0 : ((n : Int) == 0) = false := by simp; omega
  have hn1 : ((n : Int) == -1) = false := by simp
  by_cases h : a.tmod n < 0
  · rw [if_pos h]
    have h1 : decide (a.tmod n < 0) = true := by simpa using h
    have h2 : wrap64 (a.tmod n + n) = a.tmod n + n := by
      generalize a.tmod n = t at *
      exact IntWalk.wrap64_in _ ⟨by omega, by omega⟩
    go_enter Tryz.func24, Tryz.ntmps24
    go_wp2
    go_ret
    exact ⟨by rw [← h2]; rfl, rfl⟩
  · rw [if_neg h]
    have h1 : decide (a.tmod n < 0) = false := by simpa using h
    go_enter Tryz.func24, Tryz.ntmps24
    go_wp2
    go_ret
    exact ⟨rfl, rfl⟩
/-- Create on a new shelf of 40 sectors. -/
theorem create_any {B : Nat} {W w : World} {p n : Nat} {F : Nat → Prop} (h : Sh.At B W w p (Sh.newSf n 40) F) (hT : Tabs W) (hTB : max 1 2 + 1 ≤ B) (hWi : Go.Proofs.YtplbgjjacomceaaGreatDoor.S.Wid W) (hWB : 0 + 1 ≤ B) (hn1 : 1 ≤ n) (hn : n ≤ 17) (M St L : Int) :
    Calls Tryz.prog 40 #[.pointer (some ⟨p, 0, none⟩), .int .i64 M, .int .i64 St, .int .i64 L] w fun e w' => (Below B W w' ∧ B ≤ w'.heap.size) ∧
      ((∃ v, e = .returned (.tuple #[.pointer (some ⟨v, 0, none⟩), .int .i64 0]) ∧ goodC n M St L ∧ 2 + 2 * L + St ≤ 37) ∨ (e = .returned (.tuple #[.pointer none, .int .i64 1]) ∧ ¬ (goodC n M St L ∧ 2 + 2 * L + St ≤ 37))) := by
  by_cases hg : goodC n M St L ∧ 2 + 2 * L + St ≤ 37
  · obtain ⟨hg1, hg2⟩ := hg
    unfold goodC at hg1
    obtain ⟨m, rfl⟩ : ∃ m : Nat, M = (m : Int) := ⟨M.toNat, by omega⟩
    obtain ⟨st, rfl⟩ : ∃ m : Nat, St = (m : Int) := ⟨St.toNat, by omega⟩
    obtain ⟨l, rfl⟩ : ∃ m : Nat, L = (m : Int) := ⟨L.toNat, by omega⟩
    refine (create_new h hT hTB hWi hWB m st l (by omega) (by omega) (by omega) (by omega) (by omega) (by omega) (by omega) (by rw [blk40']; omega)).mono ?_
    rintro e w' ⟨J, F', o, S, rfl, rfl, rfl, _, _, _, V, _, _⟩
    exact ⟨⟨V.bel, V.size⟩, .inl ⟨_, rfl, by unfold goodC; omega, by omega⟩⟩
  · have hb : (blk 40 : Int) = 37 := by rw [blk40']; rfl
    refine (create_no h hn1 hn M St L (by rw [hb]; exact hg)).mono ?_
    rintro e w' ⟨rfl, hbl⟩
    exact ⟨⟨h.bel.trans (hbl.mono h.size), Nat.le_trans h.size hbl.size⟩, .inr ⟨rfl, hg⟩⟩
end Go.Proofs.YtplbgjjacomceaaGreatDoor.U
