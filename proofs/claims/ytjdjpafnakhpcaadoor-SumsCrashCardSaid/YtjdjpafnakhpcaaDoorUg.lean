/-
  The contract of writeSure: a sector is written, and all is flushed.
  Conditions: each theorem's own.
-/
import Derived.Test.YtjdjpafnakhpcaaDoorUf
namespace Go.Proofs.YtjdjpafnakhpcaaDoor.U
open Go.RowKit Go.Maps

section
variable {B : Nat} {W w w' : World} {a p d : Nat} {o : Int} {S S' : Sh.Sf} {F : Nat → Prop}
theorem wr_length (S : Sh.Sf) (d n : Nat) (b : Sh.Bs) : (Wr S d n b).disks.length = S.disks.length := by
  unfold Wr
  split
  · show (S.disks.set d _).length = _; rw [List.length_set]
  · rfl
theorem wr_waits {S : Sh.Sf} {d n : Nat} {b : Sh.Bs} {m : Nat} (hL : ∀ k ∈ S.disks, k.waits.length + 1 < m) : ∀ k ∈ (Wr S d n b).disks, k.waits.length < m := by
  unfold Wr
  split
  · intro k hk
    have hk : k ∈ S.disks.set d ((S.disks.getD d default).write n b) := hk
    by_cases hd : d < S.disks.length
    · rcases List.mem_or_eq_of_mem_set hk with hk | rfl
      · have := hL k hk; omega
      · have := hL _ (Sh.getD_mem (l := S.disks) (d := d) hd)
        have e : ((S.disks.getD d default).write n b).waits.length = (S.disks.getD d default).waits.length + 1 := by unfold Sh.Dk.write; exact List.length_append
        omega
    · rw [List.set_eq_of_length_le (by omega)] at hk
      have := hL k hk; omega
  · intro k hk; have := hL k hk; omega
theorem sure_any (h : Dv B W w a p d o S F) (hd : d < S.disks.length) (n : Nat) (hn : n < S.sectors) (b : Sh.Bs) {A : Option Addr} {c : Nat} (hb : Sh.Sec b) (hr : Sh.Reads w w.heap.size A 128 (Sh.bts b)) (hA : ∀ x, A = some x → ¬ F x.block) (hL1 : ∀ k ∈ S.disks, k.waits.length + 1 < 1099511627776) :
    Calls Tryd.prog 90 #[.pointer (some ⟨a, 0, none⟩), .int .i64 n, .slice A 128 c] w fun e w' => e = .returned (.int .i64 (Sh.why (Wr S d n b) d)) ∧ Goes B W w w' a p d (shut (Sh.why (Wr S d n b) d) o) (Fl (Wr S d n b) d) F := by
  have hL : ∀ k ∈ S.disks, k.waits.length < 1099511627776 := fun k hk => by have := hL1 k hk; omega
  have hrd : Sh.Reads w.drew w.drew.heap.size A 128 (Sh.bts b) := hr
  have j0 := fun (W' : World) (h : DevIs W' a p d o) => h.c0
  have j1 := fun (W' : World) (h : DevIs W' a p d o) => h.c1
  have HD := Lib.hid (h.grown (w' := w.drew) ⟨rfl, rfl, rfl, Nat.le_refl _, fun _ _ => rfl⟩)
  have HWR := Lib.hid (wr_of (c := c) w.drew p d n b HD.out.on.shelf hd hn hL hb hrd hA)
  have hW1 := Lib.hid (wr_waits (S := S) (d := d) (n := n) (b := b) hL1)
  have hd1 : d < (Wr S d n b).disks.length := by rw [wr_length]; exact hd
  have hno := Lib.hid (show Sh.why S d ≠ 0 → Wr S d n b = S ∧ Fl S d = S from fun h => ⟨by unfold Wr; rw [if_neg h], by unfold Fl; rw [if_neg h]⟩)
  have HFD := Lib.hid (fun (w1 : World) (F1 : Nat → Prop) (D : Dv B W w1 a p d o (Wr S d n b) F1) => flush_dev D hd1 hW1.out)
  clear h hW1 hd1 hr hrd
  generalize Wr S d n b = S1 at *
  generalize hy : Sh.why S d = y at *
  generalize hf2 : Fl S1 d = S2 at *
  generalize hy1 : Sh.why S1 d = y1 at *
  have Hy := Lib.hid hy
  have Hy1 := Lib.hid hy1
  have Hf2 := Lib.hid hf2
  clear hy hy1 hf2
  go_enter Tryd.func90, Tryd.ntmps90
  go_wp2_with fail
  refine wp_region_held_drew (S := fun (W' : World) => DevIs W' a p d o) (by kernel_rfl) (HD.out.dev) (fun hHeld => ?_)
  refine wpAnyH_take (i := 0) (oi := ⟨some 8, _, _, _, _, _⟩) (v := ?_) rfl (by kernel_rfl) (by kernel_rfl) (by kernel_rfl) (fun _ _ _ h => h) (Or.inl ⟨by rfl, ?_⟩) (by assumption) ?_
  rotate_left
  · (intro w hSw; (try dsimp only at hSw); go_simp; first | done | with_reducible rfl)
  try simp only [Act.put, List.setIfInBounds_toArray, List.set_cons_zero, List.set_cons_succ]
  refine wpAnyH_take (i := 1) (oi := ⟨some 9, _, _, _, _, _⟩) (v := ?_) rfl (by kernel_rfl) (by kernel_rfl) (by kernel_rfl) (fun _ _ _ h => h) (Or.inl ⟨by rfl, ?_⟩) (by assumption) ?_
  rotate_left
  · (intro w hSw; (try dsimp only at hSw); go_simp; first | done | with_reducible rfl)
  try simp only [Act.put, List.setIfInBounds_toArray, List.set_cons_zero, List.set_cons_succ]
  refine wpAnyH_take (i := 2) (oi := ⟨some 10, _, _, _, _, _⟩) (v := ?_) rfl (by kernel_rfl) (by kernel_rfl) (by kernel_rfl) (fun _ _ _ h => h) (Or.inl ⟨by rfl, ?_⟩) (by assumption) ?_
  rotate_left
  · (intro w hSw; (try dsimp only at hSw); go_simp; first | done | with_reducible rfl)
  try simp only [Act.put, List.setIfInBounds_toArray, List.set_cons_zero, List.set_cons_succ]
  refine wpAnyH_take (i := 3) (oi := ⟨some 11, _, _, _, _, _⟩) (v := ?_) rfl (by kernel_rfl) (by kernel_rfl) (by kernel_rfl) (fun _ _ _ h => h) (Or.inl ⟨by rfl, ?_⟩) (by assumption) ?_
  rotate_left
  · (intro w hSw; (try dsimp only at hSw); go_simp; first | done | with_reducible rfl)
  try simp only [Act.put, List.setIfInBounds_toArray, List.set_cons_zero, List.set_cons_succ]
  refine wpAnyH_take (i := 4) (oi := ⟨some 12, _, _, _, _, _⟩) (v := ?_) rfl (by kernel_rfl) (by kernel_rfl) (by kernel_rfl) (fun _ _ _ h => h) (Or.inl ⟨by rfl, ?_⟩) (by assumption) ?_
  rotate_left
  · (intro w hSw; (try dsimp only at hSw); go_simp; first | done | with_reducible rfl)
  try simp only [Act.put, List.setIfInBounds_toArray, List.set_cons_zero, List.set_cons_succ]
  refine wpAnyH_take (i := 5) (oi := ⟨some 13, _, _, _, _, _⟩) (v := ?_) rfl (by kernel_rfl) (by kernel_rfl) (by kernel_rfl) (fun _ _ _ h => h) (Or.inl ⟨by rfl, ?_⟩) (by assumption) ?_
  rotate_left
  · (intro w hSw; (try dsimp only at hSw); go_simp; first | done | with_reducible rfl)
  try simp only [Act.put, List.setIfInBounds_toArray, List.set_cons_zero, List.set_cons_succ]
  refine wpAnyH_take (i := 6) (oi := ⟨some 14, _, _, _, _, _⟩) (v := ?_) rfl (by kernel_rfl) (by kernel_rfl) (by kernel_rfl) (fun _ _ _ h => h) (Or.inl ⟨by rfl, ?_⟩) (by assumption) ?_
  rotate_left
  · (intro w hSw; (try dsimp only at hSw); go_simp; first | done | with_reducible rfl)
  try simp only [Act.put, List.setIfInBounds_toArray, List.set_cons_zero, List.set_cons_succ]
  refine wpAnyH_take (i := 7) (oi := ⟨some 15, _, _, _, _, _⟩) (v := ?_) rfl (by kernel_rfl) (by kernel_rfl) (by kernel_rfl) (fun _ _ _ h => h) (Or.inl ⟨by rfl, ?_⟩) (by assumption) ?_
  rotate_left
  · (intro w hSw; (try dsimp only at hSw); go_simp; first | done | with_reducible rfl)
  try simp only [Act.put, List.setIfInBounds_toArray, List.set_cons_zero, List.set_cons_succ]
  refine wpAnyH_take (i := 8) (oi := ⟨some 16, _, _, _, _, _⟩) (v := ?_) rfl (by kernel_rfl) (by kernel_rfl) (by kernel_rfl) (fun _ _ _ h => h) (Or.inl ⟨by rfl, ?_⟩) (by assumption) ?_
  rotate_left
  · (intro w hSw; (try dsimp only at hSw); go_simp; first | done | with_reducible rfl)
  try simp only [Act.put, List.setIfInBounds_toArray, List.set_cons_zero, List.set_cons_succ]
  refine wpAnyH_take (i := 9) (oi := ⟨some 17, _, _, _, _, _⟩) (v := ?_) rfl (by kernel_rfl) (by kernel_rfl) (by kernel_rfl) (fun _ _ _ h => h) (Or.inl ⟨by rfl, ?_⟩) (by assumption) ?_
  rotate_left
  · (intro w hSw; (try dsimp only at hSw); go_simp; first | done | with_reducible rfl)
  try simp only [Act.put, List.setIfInBounds_toArray, List.set_cons_zero, List.set_cons_succ]
  refine wpAnyH_take (i := 10) (oi := ⟨some 18, _, _, _, _, _⟩) (v := ?_) rfl (by kernel_rfl) (by kernel_rfl) (by kernel_rfl) (fun _ _ _ h => h) (Or.inl ⟨by rfl, ?_⟩) (by assumption) ?_
  rotate_left
  · (intro w hSw; (try dsimp only at hSw); go_simp; first | done | with_reducible rfl)
  try simp only [Act.put, List.setIfInBounds_toArray, List.set_cons_zero, List.set_cons_succ]
  refine wpAnyH_take (i := 11) (oi := ⟨some 19, _, _, _, _, _⟩) (v := ?_) rfl (by kernel_rfl) (by kernel_rfl) (by kernel_rfl) (fun _ _ _ h => h) (Or.inl ⟨by rfl, ?_⟩) (by assumption) ?_
  rotate_left
  · (intro w hSw; (try dsimp only at hSw); go_simp; first | done | with_reducible rfl)
  try simp only [Act.put, List.setIfInBounds_toArray, List.set_cons_zero, List.set_cons_succ]
  refine wpAnyH_ready (rs := [12]) (by kernel_rfl) (by simp) ?_
  refine AllReadyH.cons (o := ⟨some 20, _, _, _, _, _⟩) rfl (fun K hK => ?_) AllReadyH.nil
  go_simp
  refine HWR.out.mono ?_
  rintro e w1 ⟨rfl, hl⟩
  refine hK.out _ _ ((by obtain ⟨F', D1, _⟩ := HD.out.left hl; exact D1.dev)) (fun hHeld => ?_)
  clear hK K
  try simp only [Act.put, List.setIfInBounds_toArray, List.set_cons_zero, List.set_cons_succ]
  refine wpAnyH_take (i := 13) (oi := ⟨some 7, _, _, _, _, _⟩) (v := ?_) rfl (by kernel_rfl) (by kernel_rfl) (by kernel_rfl) (fun _ _ _ h => h) (Or.inl ⟨by rfl, ?_⟩) (by assumption) ?_
  rotate_left
  · (intro w hSw; (try dsimp only at hSw); go_simp; first | done | with_reducible rfl)
  try simp only [Act.put, List.setIfInBounds_toArray, List.set_cons_zero, List.set_cons_succ]
  refine wpAnyH_done (by kernel_rfl) ?_ _
  obtain ⟨F', D1, M1⟩ := HD.out.goes hl
  have M2 := Lib.hid ((moves_drew (F := F) (a := a) (w := w)).trans M1)
  clear M1
  by_cases hy : y = 0
  · subst hy
    have H1 := Lib.hid D1
    go_wp2_with fail
    refine (HFD.out _ _ H1.out).mono ?_
    rintro e w2 ⟨rfl, F2, D2, M3⟩
    have M4 := Lib.hid (M2.out.trans M3)
    clear M3
    go_wp2
    go_ret
    exact ⟨rfl, F2, D2, M4.out⟩
  · have D3 := Lib.hid (show Dv B W w1 a p d (shut y1 o) S2 F' from by
      have e := hno.out hy
      have e1 : S2 = S := by rw [← Hf2.out, e.1, e.2]
      have e2 : y1 = y := by rw [← Hy1.out, e.1, Hy.out]
      rw [e1, e2, show shut y o = o from if_neg hy, ← e.1]
      exact D1)
    obtain rfl : y1 = y := by rw [← Hy1.out, (hno.out hy).1, Hy.out]
    have hq : (y1 == 0) = false := by rw [beq_eq_false_iff_ne]; exact hy
    clear D1 HFD hno
    go_wp2
    go_ret
    exact ⟨rfl, F', D3.out, M2.out⟩
end
end Go.Proofs.YtjdjpafnakhpcaaDoor.U
