/-
  The sum of a block's bytes: the contracts of the program's number and Sum.
  Conditions: the two tables hold what the program's text lays.
-/
import Derived.Test.YtjdjpafnakhpcaaDoorUa
namespace Go.Proofs.YtjdjpafnakhpcaaDoor.U
open Go.RowKit Go.Maps

/-- A number as four bytes hold it. -/
def w32 (z : Int) : Nat := (z % 4294967296).toNat
theorem w32_lt (z : Int) : w32 z < 4294967296 := by unfold w32; omega
theorem w32_cast (z : Int) : ((w32 z : Nat) : Int) = z % 4294967296 := by unfold w32; omega
/-- The sum of bytes, of a block of a disk. -/
def sumL (disk block : Int) (l : List Nat) : Nat := Nums.sum (Nums.sum (Nums.sum 0 (putL (w32 disk) 4)) (putL (w32 block) 4)) l
theorem drawn {B : Nat} {w w' : World} (h : Below B w w') (k : Nat) : Below B w (w'.drewN k) := ⟨h.os, h.tape, h.output, h.size, h.block⟩
theorem putL_small (x n : Nat) : Small (putL x n) := by
  intro y hy
  unfold putL at hy
  obtain ⟨k, _, rfl⟩ := List.mem_map.1 hy
  exact Nat.mod_lt _ (by decide)
theorem number_any (x : Nat) (hx : x < 4294967296) (w : World) :
    Calls Tryd.prog 55 #[.int .u32 x] w fun e w' => ∃ A c, e = .returned (.slice A 4 c) ∧ Reads w' w'.heap.size A 4 (bts (putL x 4)) ∧ Below w.heap.size w w' := by
  have hp := Lib.hid (put_ok x 4 · (by decide) (by decide) (by omega))
  go_enter Tryd.func55, Tryd.ntmps55
  go_wp2_with (go_at_call 86; refine (hp.out _).mono ?_; rintro e w' ⟨v, rfl, hown, hb⟩)
  obtain ⟨A, c, rfl⟩ : ∃ A c, v = .slice A 4 c := by
    rcases hown.2 with ⟨_, h⟩ | ⟨g, cap, cur, rfl, _⟩
    · rw [putL_length] at h; cases h
    · rw [putL_length]; exact ⟨_, _, rfl⟩
  rw [putL_length] at hown
  have hr := Reads.of_own hown
  clear hown
  go_wp2
  go_ret
  exact ⟨A, c, rfl, hr, hb⟩
set_option maxHeartbeats 800000 in
theorem sum_any (disk block : Int) (A : Option Addr) (n c : Nat) (l : List Nat) (w : World) (hl : Small l)
    (hr : Reads w w.heap.size A n (bts l)) (hn : n ≤ maxLen) (hT : Tabs w) :
    Calls Tryd.prog 23 #[.int .i64 disk, .int .i64 block, .slice A n c] w fun e w' => e = .returned (.int .u32 ((sumL disk block l : Nat) : Int)) ∧ Below w.heap.size w w' := by
  have e1 := (w32_cast disk).symm
  have e2 := (w32_cast block).symm
  have l1 := w32_lt disk
  have l2 := w32_lt block
  have HX := Lib.hid (show sumL disk block l = Nums.sum (Nums.sum (Nums.sum 0 (putL (w32 disk) 4)) (putL (w32 block) 4)) l from rfl)
  generalize sumL disk block l = res at *
  generalize w32 disk = d at *
  generalize w32 block = k at *
  go_enter Tryd.func23, Tryd.ntmps23
  go_wp2_with fail
  refine (number_any d l1 w).mono ?_
  rintro e w1 ⟨A1, c1, rfl, r1, b1⟩
  have T1 := hT.below hT.size b1
  go_wp2_with fail
  refine (crc_any A1 4 c1 w1.heap.size (putL d 4) 0 w1 (by decide) (putL_small d 4) r1 (by decide) T1).mono ?_
  rintro e w2 ⟨rfl, k1, rfl⟩
  have T2 : Tabs (w1.drewN k1) := T1.drewN k1
  have b2 : Below w.heap.size w (w1.drewN k1) := drawn b1 k1
  have g1 := Nums.sum_lt (putL_small d 4) (s := 0) (by decide)
  generalize Nums.sum 0 (putL d 4) = s1 at *
  generalize w1.drewN k1 = w3 at *
  clear r1 b1 T1
  go_wp2_with fail
  refine (number_any k l2 w3).mono ?_
  rintro e w4 ⟨A2, c2, rfl, r2, b4⟩
  have T4 := T2.below T2.size b4
  have b5 := b2.trans (b4.mono b2.size)
  go_wp2_with fail
  refine (crc_any A2 4 c2 w4.heap.size (putL k 4) s1 w4 g1 (putL_small k 4) r2 (by decide) T4).mono ?_
  rintro e w5 ⟨rfl, k2, rfl⟩
  have T5 : Tabs (w4.drewN k2) := T4.drewN k2
  have b6 : Below w.heap.size w (w4.drewN k2) := drawn b5 k2
  have g2 := Nums.sum_lt (putL_small k 4) g1
  generalize Nums.sum s1 (putL k 4) = s2 at *
  generalize w4.drewN k2 = w6 at *
  clear r2 b4 T4 b5 b2 T2
  have r6 := (hr.below b6).more b6.size
  go_wp2_with fail
  refine (crc_any A n c w6.heap.size l s2 w6 g2 hl r6 hn T5).mono ?_
  rintro e w7 ⟨rfl, k3, rfl⟩
  have b7 : Below w.heap.size w (w6.drewN k3) := drawn b6 k3
  rw [← HX.out]
  go_wp2
  go_ret
  exact ⟨rfl, b7⟩
end Go.Proofs.YtjdjpafnakhpcaaDoor.U
