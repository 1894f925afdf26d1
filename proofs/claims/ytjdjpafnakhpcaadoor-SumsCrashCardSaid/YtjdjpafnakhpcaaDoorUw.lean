/-
  Plain facts on what a write and a flush that can be done leave: the values of sectors, the power, and what waits.
  Conditions: each lemma's own.
-/
import Derived.Test.YtjdjpafnakhpcaaDoorUh
namespace Go.Proofs.YtjdjpafnakhpcaaDoor.U
open Go.RowKit Go.Maps

/-- What a sector of a disk has. -/
def V (S : Sh.Sf) (d n : Nat) : Sh.Bs := (S.disks.getD d default).val n
/-- The block is read: the disk's count goes on by two, if it can be read. -/
def Looked (S : Sh.Sf) (d : Nat) : Sh.Sf := if Sh.why S d = 0 then S.doRead.doRead else S
theorem looked_disks (S : Sh.Sf) (d : Nat) : (Looked S d).disks = S.disks := by unfold Looked; split <;> rfl
theorem looked_sectors (S : Sh.Sf) (d : Nat) : (Looked S d).sectors = S.sectors := by unfold Looked; split <;> rfl
theorem looked_why (S : Sh.Sf) (d e : Nat) : Sh.why (Looked S d) e = Sh.why S e := by unfold Looked; split <;> rfl
theorem looked_off (S : Sh.Sf) (d : Nat) : (Looked S d).off = S.off ∧ (Looked S d).left = S.left := by unfold Looked; split <;> exact ⟨rfl, rfl⟩
theorem looked_V (S : Sh.Sf) (d e n : Nat) : V (Looked S d) e n = V S e n := by unfold V; rw [looked_disks]
theorem fl_length (S : Sh.Sf) (d : Nat) : (Fl S d).disks.length = S.disks.length := by
  unfold Fl
  split
  · show (S.disks.set d _).length = _; rw [List.length_set]
  · rfl
theorem wr_sectors (S : Sh.Sf) (d n : Nat) (b : Sh.Bs) : (Wr S d n b).sectors = S.sectors := by unfold Wr; split <;> rfl
theorem fl_sectors (S : Sh.Sf) (d : Nat) : (Fl S d).sectors = S.sectors := by unfold Fl; split <;> rfl
theorem fl_waits {S : Sh.Sf} {d m : Nat} (hL : ∀ k ∈ S.disks, k.waits.length < m) : ∀ k ∈ (Fl S d).disks, k.waits.length < m := by
  unfold Fl
  split
  · intro k hk
    have hk : k ∈ S.disks.set d ((S.disks.getD d default).settle (fun _ => true)) := hk
    by_cases hd : d < S.disks.length
    · rcases List.mem_or_eq_of_mem_set hk with hk | rfl
      · exact hL k hk
      · show ([] : List (Nat × Sh.Bs)).length < m
        have := hL _ (Sh.getD_mem (l := S.disks) (d := d) hd)
        simp; omega
    · rw [List.set_eq_of_length_le (by omega)] at hk
      exact hL k hk
  · exact hL
theorem wr_getD (S : Sh.Sf) (d n : Nat) (b : Sh.Bs) (hd : d < S.disks.length) (hw : Sh.why S d = 0) (e : Nat) :
    (Wr S d n b).disks.getD e default = if e = d then (S.disks.getD d default).write n b else S.disks.getD e default := by
  unfold Wr
  rw [if_pos hw]
  exact Sh.getD_set _ _ _ _ hd
theorem fl_getD (S : Sh.Sf) (d : Nat) (hd : d < S.disks.length) (hw : Sh.why S d = 0) (e : Nat) :
    (Fl S d).disks.getD e default = if e = d then (S.disks.getD d default).settle (fun _ => true) else S.disks.getD e default := by
  unfold Fl
  rw [if_pos hw]
  exact Sh.getD_set _ _ _ _ hd
theorem val_write (k : Sh.Dk) (n m : Nat) (b : Sh.Bs) : (k.write n b).val m = if n = m then b else k.val m := by
  show Sh.latest (k.waits ++ [(n, b)]) m (k.sure.getD m []) = _
  rw [Sh.latest_snoc]
  rfl
theorem val_settle (k : Sh.Dk) (m : Nat) (hm : m < k.sure.length) : (k.settle (fun _ => true)).val m = k.val m := by
  show Sh.latest [] m ((Sh.stl (fun _ => true) k.waits 0 k.sure).getD m []) = Sh.latest k.waits m (k.sure.getD m [])
  have := Sh.stl_true m k.waits 0 k.sure hm
  rw [List.getD, this]
  rfl
/-- The power is on and stays so, and the disk is not dead. -/
structure Calm (S : Sh.Sf) (d : Nat) : Prop where
  lt : d < S.disks.length
  on : S.off = false
  left : S.left = 0
  alive : (S.disks.getD d default).dead = false
  len : (S.disks.getD d default).sure.length = S.sectors
section
variable {S : Sh.Sf} {d : Nat}
theorem Calm.why (h : Calm S d) : Sh.why S d = 0 := by
  unfold Sh.why
  rw [h.on, h.alive]
  rfl
theorem Calm.wr (h : Calm S d) (n : Nat) (b : Sh.Bs) : Calm (Wr S d n b) d := by
  have hg := wr_getD S d n b h.lt h.why d
  rw [if_pos rfl] at hg
  refine ⟨by rw [wr_length]; exact h.lt, ?_, ?_, by rw [hg]; exact h.alive, by rw [hg, wr_sectors]; exact h.len⟩
  · unfold Wr
    rw [if_pos h.why]
    show Sh.offAt S.left S.off = false
    rw [h.left, h.on]
    rfl
  · unfold Wr
    rw [if_pos h.why]
    show S.left - 1 = 0
    rw [h.left]
theorem Calm.fl (h : Calm S d) : Calm (Fl S d) d := by
  have hg := fl_getD S d h.lt h.why d
  rw [if_pos rfl] at hg
  refine ⟨by rw [fl_length]; exact h.lt, ?_, ?_, by rw [hg]; exact h.alive, by rw [hg, fl_sectors]; exact (Sh.stl_length _ _ _ _).trans h.len⟩
  · unfold Fl
    rw [if_pos h.why]
    show Sh.offAt S.left S.off = false
    rw [h.left, h.on]
    rfl
  · unfold Fl
    rw [if_pos h.why]
    show S.left - 1 = 0
    rw [h.left]
theorem Calm.looked (h : Calm S d) (e : Nat) : Calm (Looked S e) d := by
  refine ⟨by rw [looked_disks]; exact h.lt, (looked_off S e).1.trans h.on, (looked_off S e).2.trans h.left, by rw [looked_disks]; exact h.alive, by rw [looked_disks, looked_sectors]; exact h.len⟩
theorem Calm.V_wr (h : Calm S d) (n m : Nat) (b : Sh.Bs) : V (Wr S d n b) d m = if n = m then b else V S d m := by
  unfold V
  rw [wr_getD S d n b h.lt h.why d, if_pos rfl, val_write]
theorem Calm.V_fl (h : Calm S d) (m : Nat) (hm : m < S.sectors) : V (Fl S d) d m = V S d m := by
  unfold V
  rw [fl_getD S d h.lt h.why d, if_pos rfl, val_settle _ _ (by rw [h.len]; exact hm)]
theorem Calm.waits_fl (h : Calm S d) : ((Fl S d).disks.getD d default).waits = [] := by
  rw [fl_getD S d h.lt h.why d, if_pos rfl]
  rfl
end
end Go.Proofs.YtjdjpafnakhpcaaDoor.U
