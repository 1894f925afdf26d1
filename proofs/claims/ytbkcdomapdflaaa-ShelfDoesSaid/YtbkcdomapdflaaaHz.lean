/-
  The contract of the statements' Sector: 128 bytes that begin and end as a byte says.
  Conditions: none.
-/
import Derived.Test.YtbkcdomapdflaaaHx
namespace Go.Proofs.Ytbkcdomapdflaaa.Sh
open Go.RowKit Go.Maps

def secOf (b : Nat) : Bs := (noughts.set 0 b).set 127 (b ^^^ 85)
theorem secOf_len (b : Nat) : (secOf b).length = 128 := by simp [secOf, noughts]
theorem secOf_sec {b : Nat} (h : b < 256) : Sec (secOf b) := by
  refine ⟨secOf_len b, fun x hx => ?_⟩
  rcases List.mem_or_eq_of_mem_set hx with hx | rfl
  · rcases List.mem_or_eq_of_mem_set hx with hx | rfl
    · rw [List.eq_of_mem_replicate hx]; decide
    · exact h
  · exact Nat.xor_lt_two_pow (n := 8) h (by decide)
theorem bts_set (l : List Nat) (i x : Nat) : bts (l.set i x) = (bts l).set i (.int .u8 (x : Int)) := by simp [bts, List.map_set]
theorem noughts_own {w : World} {base g : Nat} (h : w.ownsRow base 5 1 (.slice (some ⟨g, 0, none⟩) 128 128) 128 (madeCells (Value.int .u8 0).cells (128 * 1)).toList) : w.ownsRow base 5 1 (.slice (some ⟨g, 0, none⟩) 128 128) 128 (bts noughts) := by
  have e : (madeCells (Value.int .u8 0).cells (128 * 1)).toList = bts noughts := by
    rw [bts_noughts]
    exact toList_madeCells_one _ _
  rw [e] at h
  exact h
set_option maxRecDepth 20000 in
theorem sector_any (w : World) (b : Nat) (hb : b < 256) :
    Calls Try.prog 9 #[.int .u8 b] w fun e w' => e = .returned (.slice (some ⟨w.heap.size, 0, none⟩) 128 128) ∧
      w'.ownsRow w.heap.size 5 1 (.slice (some ⟨w.heap.size, 0, none⟩) 128 128) 128 (bts (secOf b)) ∧ Below w.heap.size w w' := by
  obtain ⟨i1, ki, kz0, kz1, kz2⟩ := info_parts info_u8
  have hxor : bits .xor .u8 (b : Int) 85 = ((b ^^^ 85 : Nat) : Int) := u8_xor_nat b 85 hb (by decide)
  go_enter Try.func9, Try.ntmps9
  go_wp2_with (at_make; refine wpList_make_full _ rfl _ _ 36 rfl w.heap.size 5 i1 _ 1 Try.underlying36 ki kz0 kz1 _ _ _ _ 128 rfl rfl rfl rfl (by rw [kz2]; omega) (by unfold maxLen; omega) (Nat.le_refl _) ?_; intro w2 hown2 hgrow2; have ho := noughts_own hown2; have k0 := cell_at ho (j := 0) (u := .int .u8 0) rfl; have k1 := cell_at ho (j := 127) (u := .int .u8 0) rfl; have f0 := ho.frozenAt 0; have f1 := ho.frozenAt 127)
  go_ret
  have h2 := (ho.stored 0 (.int .u8 (b : Int))).1.stored 127 (.int .u8 ((b ^^^ 85 : Nat) : Int))
  refine ⟨rfl, ?_, ?_⟩
  · unfold secOf
    rw [bts_set, bts_set]
    exact h2.1
  · exact (((Below.refl _ w).grown hgrow2 (Nat.le_refl _) (fun _ h => by cases h)).setCell (Nat.le_refl _) _).setCell (Nat.le_refl _) _
end Go.Proofs.Ytbkcdomapdflaaa.Sh
