/-
  A call of the shelf and the same call of the definition's: they tell the same, and leave the same.
  Conditions: fewer than 2^42 writes wait on each disk.
-/
import Derived.Test.YtbkcdomapdflaaaKk
import Derived.Test.YtbkcdomapdflaaaIi
namespace Go.Proofs.Ytbkcdomapdflaaa.Sh
open Go.RowKit Go.Maps

structure Grows (S S' : Sf) : Prop where
  len : S'.disks.length = S.disks.length
  sec : S'.sectors = S.sectors
  waits : ∀ m, (∀ k ∈ S.disks, k.waits.length ≤ m) → ∀ k ∈ S'.disks, k.waits.length ≤ m + 1
theorem grows_self (S : Sf) : Grows S S := ⟨rfl, rfl, fun _ h k hk => Nat.le_succ_of_le (h k hk)⟩
theorem grows_set {S S' : Sf} {d : Nat} {k' : Dk} (hd : d < S.disks.length) (h1 : S'.disks = S.disks.set d k') (h2 : S'.sectors = S.sectors) (hk : k'.waits.length ≤ (S.disks.getD d default).waits.length + 1) : Grows S S' := by
  refine ⟨by rw [h1, List.length_set], h2, fun m h k hm => ?_⟩
  rw [h1] at hm
  rcases List.mem_or_eq_of_mem_set hm with hm | rfl
  · exact Nat.le_succ_of_le (h k hm)
  · have := h _ (getD_mem hd)
    omega
def Few (S : Sf) : Prop := ∀ k ∈ S.disks, k.waits.length < 4398046511104
theorem why_pos {S : Sf} {d : Nat} (h : why S d ≠ 0) : why S d ≠ 0 := h
/-- Both calls tell y, and leave S'. -/
structure Same (f g : Nat) (S S' : Sf) (a : List Value) (y : Value) : Prop where
  sh : ∀ (w : World) (p : Nat) (F : Nat → Prop), Shelf w p S F → Calls Try.prog f (Value.pointer (some ⟨p, 0, none⟩) :: a).toArray w fun e w' => e = .returned y ∧ Left F w p S' w'
  rf : ∀ (w : World) (q : Nat) (F : Nat → Prop), Ref w q S F → Calls Try.prog g (Value.pointer (some ⟨q, 0, none⟩) :: a).toArray w fun e w' => e = .returned y ∧ RLeft F w q S' w'
  grows : Grows S S'
theorem flush_pair (S : Sf) (d : Int) (hL : Few S) : ∃ y S', Same 10 31 S S' [.int .i64 d] (.int .i64 y) := by
  by_cases hs : hasD S d
  · obtain ⟨h1, h2⟩ := hs
    obtain ⟨d, rfl⟩ : ∃ m : Nat, d = (m : Int) := ⟨d.toNat, by omega⟩
    by_cases hw : why S d = 0
    · refine ⟨0, S.doFlush d, fun w p F h => flush_done w p d h (by omega) hw (hL _ (getD_mem (by omega))), fun w q F h => ?_, grows_set (d := d) (by omega) rfl rfl (Nat.zero_le _)⟩
      obtain ⟨D, gs, Ls, st, l, h⟩ := h
      exact rflush_done h d (by omega) hw (Nat.le_of_lt (hL _ (getD_mem (by omega))))
    · refine ⟨why S d, S, fun w p F h => ?_, fun w q F h => ?_, grows_self S⟩
      · refine (flush_why w p d h (by omega) hw).mono ?_
        rintro e w' ⟨rfl, rfl⟩
        exact ⟨rfl, left_here h⟩
      · have h' := h
        obtain ⟨D, gs, Ls, st, l, h⟩ := h
        refine (rflush_why h d (by omega) rfl hw).mono ?_
        rintro e w' ⟨rfl, rfl⟩
        exact ⟨rfl, rleft_here h'⟩
  · refine ⟨1, S, fun w p F h => ?_, fun w q F h => ?_, grows_self S⟩
    · refine (flush_refused w p d h hs).mono ?_
      rintro e w' ⟨rfl, rfl⟩
      exact ⟨rfl, left_here h⟩
    · have h' := h
      obtain ⟨D, gs, Ls, st, l, h⟩ := h
      refine (rflush_no h d hs).mono ?_
      rintro e w' ⟨rfl, rfl⟩
      exact ⟨rfl, rleft_here h'⟩
theorem kill_pair (S : Sf) (d : Int) : ∃ y S', Same 11 32 S S' [.int .i64 d] (.int .i64 y) := by
  by_cases hs : hasD S d
  · obtain ⟨h1, h2⟩ := hs
    obtain ⟨d, rfl⟩ : ∃ m : Nat, d = (m : Int) := ⟨d.toNat, by omega⟩
    refine ⟨0, S.doKill d, fun w p F h => kill_done w p d h (by omega), fun w q F h => ?_, grows_set (d := d) (by omega) rfl rfl (Nat.le_succ _)⟩
    obtain ⟨D, gs, Ls, st, l, h⟩ := h
    exact rkill_done h d (by omega)
  · refine ⟨1, S, fun w p F h => ?_, fun w q F h => ?_, grows_self S⟩
    · refine (kill_no w p d h hs).mono ?_
      rintro e w' ⟨rfl, rfl⟩
      exact ⟨rfl, left_here h⟩
    · have h' := h
      obtain ⟨D, gs, Ls, st, l, h⟩ := h
      refine (rkill_no h d hs).mono ?_
      rintro e w' ⟨rfl, rfl⟩
      exact ⟨rfl, rleft_here h'⟩
theorem corrupt_pair (S : Sf) (d n i : Int) (x : Nat) (hx : x < 256) (hL : Few S) : ∃ y S', Same 33 34 S S' [.int .i64 d, .int .i64 n, .int .i64 i, .int .u8 x] (.int .i64 y) := by
  by_cases hs : hasS S d n ∧ 0 ≤ i ∧ i < 128
  · obtain ⟨⟨h1, h2, h3, h4⟩, h5, h6⟩ := hs
    obtain ⟨d, rfl⟩ : ∃ m : Nat, d = (m : Int) := ⟨d.toNat, by omega⟩
    obtain ⟨n, rfl⟩ : ∃ m : Nat, n = (m : Int) := ⟨n.toNat, by omega⟩
    obtain ⟨i, rfl⟩ : ∃ m : Nat, i = (m : Int) := ⟨i.toNat, by omega⟩
    rcases hl : lastOf (S.disks.getD d default).waits n with _ | j
    · refine ⟨0, S.doCorrupt d n i x, fun w p F h => corrupt_done w p d n i x hx h (by omega) (by omega) (by omega) hl, fun w q F h => ?_, grows_set (d := d) (by omega) rfl rfl (Nat.le_succ _)⟩
      obtain ⟨D, gs, Ls, st, l, h⟩ := h
      refine (rcorrupt_any h d n i x (by omega) (by omega) (by omega) hx (Nat.le_of_lt (hL _ (getD_mem (by omega))))).mono ?_
      rintro e w' (⟨ha, _⟩ | ⟨_, hb, hc⟩)
      · rw [hl] at ha; cases ha
      · exact ⟨hb, hc⟩
    · refine ⟨9, S, fun w p F h => ?_, fun w q F h => ?_, grows_self S⟩
      · refine (corrupt_waits w p d n i x h (by omega) (by omega) (by omega) (by rw [hl]; rfl)).mono ?_
        rintro e w' ⟨rfl, rfl⟩
        exact ⟨rfl, left_here h⟩
      · have h' := h
        obtain ⟨D, gs, Ls, st, l, h⟩ := h
        refine (rcorrupt_any h d n i x (by omega) (by omega) (by omega) hx (Nat.le_of_lt (hL _ (getD_mem (by omega))))).mono ?_
        rintro e w' (⟨_, rfl, rfl⟩ | ⟨ha, _⟩)
        · exact ⟨rfl, rleft_here h'⟩
        · rw [hl] at ha; cases ha
  · have hno : ¬ hasS S d n ∨ i < 0 ∨ 127 < i := by
      by_cases h : hasS S d n
      · right
        by_cases h0 : i < 0
        · exact .inl h0
        · exact .inr (by have : ¬ (0 ≤ i ∧ i < 128) := fun e => hs ⟨h, e⟩; omega)
      · exact .inl h
    refine ⟨1, S, fun w p F h => ?_, fun w q F h => ?_, grows_self S⟩
    · refine (corrupt_refused w p d n i x h hno).mono ?_
      rintro e w' ⟨rfl, rfl⟩
      exact ⟨rfl, left_here h⟩
    · have h' := h
      obtain ⟨D, gs, Ls, st, l, h⟩ := h
      refine (rcorrupt_refused h d n i x hno).mono ?_
      rintro e w' ⟨rfl, rfl⟩
      exact ⟨rfl, rleft_here h'⟩
theorem stop_pair (S : Sf) (n : Int) (b0 : -9223372036854775808 ≤ n) (b1 : n ≤ 9223372036854775807) : Same 35 36 S (S.doStop n) [.int .i64 n] (.tuple #[]) := by
  refine ⟨fun w p F h => ?_, fun w q F h => ?_, ?_⟩
  · refine (stop_any w p n b0 b1 h).mono ?_
    rintro e w' ⟨rfl, h1, h2⟩
    exact ⟨rfl, F, h1, h2, fun _ h => .inl h⟩
  · obtain ⟨D, gs, Ls, st, l, h⟩ := h
    refine (rstop_any h n b0 b1).mono ?_
    rintro e w' ⟨rfl, h1, h2⟩
    exact ⟨rfl, F, h1, h2, fun _ h => .inl h⟩
  · unfold Sf.doStop
    split
    · exact grows_self S
    · exact ⟨rfl, rfl, fun _ h k hk => Nat.le_succ_of_le (h k hk)⟩
theorem grows_crash (S : Sf) (ks : List (List Int)) : Grows S (S.crash ks) := ⟨crash_length S ks, rfl, fun _ _ k hk => by obtain ⟨_, _, _, h⟩ := crash_mem hk; rw [h]; exact Nat.zero_le _⟩
/-- What a Write is asked for: bytes in a slice, and their text. -/
theorem write_pair (S : Sf) (d n : Int) (b : Bs) (hb : Small b) (hL : Few S) : ∃ y S', Grows S S' ∧
    (∀ (w : World) (p : Nat) (F : Nat → Prop) (A : Option Addr) (c : Nat), Shelf w p S F → Reads w w.heap.size A b.length (bts b) → (∀ a, 0 < b.length → A = some a → ¬ F a.block) → Calls Try.prog 8 #[.pointer (some ⟨p, 0, none⟩), .int .i64 d, .int .i64 n, .slice A b.length c] w fun e w' => e = .returned (.int .i64 y) ∧ Left F w p S' w') ∧
    (∀ (w : World) (q : Nat) (F : Nat → Prop), Ref w q S F → Calls Try.prog 30 #[.pointer (some ⟨q, 0, none⟩), .int .i64 d, .int .i64 n, .string (strL b)] w fun e w' => e = .returned (.int .i64 y) ∧ RLeft F w q S' w') := by
  by_cases hs : hasS S d n ∧ b.length = 128
  · obtain ⟨⟨h1, h2, h3, h4⟩, h5⟩ := hs
    obtain ⟨d, rfl⟩ : ∃ m : Nat, d = (m : Int) := ⟨d.toNat, by omega⟩
    obtain ⟨n, rfl⟩ : ∃ m : Nat, n = (m : Int) := ⟨n.toNat, by omega⟩
    have hsz : (strL b).size = 128 := by rw [strL_size, h5]
    by_cases hw : why S d = 0
    · refine ⟨0, S.doWrite d n b, grows_set (d := d) (by omega) rfl rfl (by simp [Dk.write]), fun w p F A c h hr hA => ?_, fun w q F h => ?_⟩
      · rw [h5] at hr hA ⊢
        exact write_done w p d n b h (by omega) (by omega) hw (hL _ (getD_mem (by omega))) ⟨h5, hb⟩ hr (fun a => hA a (by decide))
      · obtain ⟨D, gs, Ls, st, l, h⟩ := h
        exact rwrite_done h d n b (by omega) (by omega) ⟨h5, hb⟩ hsz hw (hL _ (getD_mem (by omega)))
    · refine ⟨why S d, S, grows_self S, fun w p F A c h hr hA => ?_, fun w q F h => ?_⟩
      · rw [h5] at hr ⊢
        refine (write_why w p d n h (by omega) (by omega) hw).mono ?_
        rintro e w' ⟨rfl, rfl⟩
        exact ⟨rfl, left_here h⟩
      · have h' := h
        obtain ⟨D, gs, Ls, st, l, h⟩ := h
        refine (rwrite_why h d n (strL b) (by omega) (by omega) hsz rfl hw).mono ?_
        rintro e w' ⟨rfl, rfl⟩
        exact ⟨rfl, rleft_here h'⟩
  · have hno : ¬ hasS S d n ∨ b.length ≠ 128 := by
      by_cases h : hasS S d n
      · exact .inr (fun e => hs ⟨h, e⟩)
      · exact .inl h
    refine ⟨1, S, grows_self S, fun w p F A c h hr hA => ?_, fun w q F h => ?_⟩
    · refine (write_refused w p d n h hno).mono ?_
      rintro e w' ⟨rfl, rfl⟩
      exact ⟨rfl, left_here h⟩
    · have h' := h
      obtain ⟨D, gs, Ls, st, l, h⟩ := h
      refine (rwrite_refused h d n (strL b) (hno.imp id (fun e => by rw [strL_size]; exact e))).mono ?_
      rintro e w' ⟨rfl, rfl⟩
      exact ⟨rfl, rleft_here h'⟩
/-- What a Read tells: the bytes v (none, if it is refused), and their text. -/
theorem read_pair (S : Sf) (d n : Int) (hL : Few S) (hS : ∃ w p F, Shelf w p S F) : ∃ v y S', Grows S S' ∧ v.length ≤ 128 ∧ Small v ∧
    (∀ (w : World) (p : Nat) (F : Nat → Prop), Shelf w p S F → Calls Try.prog 17 #[.pointer (some ⟨p, 0, none⟩), .int .i64 d, .int .i64 n] w fun e w' => ∃ A c, e = .returned (.tuple #[.slice A v.length c, .int .i64 y]) ∧ Left F w p S' w' ∧ Reads w' w'.heap.size A v.length (bts v) ∧ (∀ a, 0 < v.length → A = some a → w.heap.size ≤ a.block ∧ ∀ j, j < v.length → w'.frozen? (a.add j) = false) ∧ Shelf w' p S' F) ∧
    (∀ (w : World) (q : Nat) (F : Nat → Prop), Ref w q S F → Calls Try.prog 28 #[.pointer (some ⟨q, 0, none⟩), .int .i64 d, .int .i64 n] w fun e w' => e = .returned (.tuple #[.string (strL v), .int .i64 y]) ∧ RLeft F w q S' w') := by
  have e0 : strL [] = ⟨#[]⟩ := rfl
  by_cases hs : hasS S d n
  · obtain ⟨h1, h2, h3, h4⟩ := hs
    obtain ⟨d, rfl⟩ : ∃ m : Nat, d = (m : Int) := ⟨d.toNat, by omega⟩
    obtain ⟨n, rfl⟩ : ∃ m : Nat, n = (m : Int) := ⟨n.toNat, by omega⟩
    by_cases hw : why S d = 0
    · obtain ⟨w0, p0, F0, D0, gs0, h0⟩ := hS
      have hsec := (h0.diskOf (d := d) (by omega)).val (n := n) (by omega)
      have hl := hsec.1
      refine ⟨(S.disks.getD d default).val n, 0, S.doRead, ⟨rfl, rfl, fun _ h k hk => Nat.le_succ_of_le (h k hk)⟩, Nat.le_of_eq hl, hsec.2, fun w p F h => ?_, fun w q F h => ?_⟩
      · rw [hl]
        refine (read_done w p d n h (by omega) (by omega) hw).mono ?_
        rintro e w' ⟨A, c, rfl, hb, hsh, hO⟩
        exact ⟨A, c, rfl, ⟨F, hsh, hO, fun _ h => .inl h⟩, hb.1, fun a _ ha => hb.2 a ha, hsh⟩
      · obtain ⟨D, gs, Ls, st, l, h⟩ := h
        refine (rread_done h d n (by omega) (by omega) hw rfl (Nat.le_of_lt (hL _ (getD_mem (by omega))))).mono ?_
        rintro e w' ⟨rfl, w1, hb, hr, hO⟩
        have hF : ∀ b, F b → b < w1.heap.size := hr.ltF
        have hO2 : Only F w w' := (hO.mono fun b hb => by rw [hb]; exact hr.inF.1).trans (F' := fun _ => False) ⟨hb.os, hb.tape, hb.output, hb.size, fun k hk _ => hb.block k hk⟩ (fun _ e => e.elim)
        exact ⟨rfl, F, ⟨_, _, _, _, _, hr.only (w' := w') (G := fun _ => False) ⟨hb.os, hb.tape, hb.output, hb.size, fun k hk _ => hb.block k hk⟩ (fun _ _ e => e)⟩, hO2, fun _ h => .inl h⟩
    · refine ⟨[], why S d, S, grows_self S, by decide, (fun x hx => by cases hx), fun w p F h => ?_, fun w q F h => ?_⟩
      · refine (read_why w p d n h (by omega) (by omega) hw).mono ?_
        rintro e w' ⟨rfl, rfl⟩
        exact ⟨none, 0, rfl, left_here h, Reads.none_, fun a h0 => absurd h0 (by decide), h⟩
      · have h' := h
        obtain ⟨D, gs, Ls, st, l, h⟩ := h
        refine (rread_why h d n (by omega) (by omega) rfl hw).mono ?_
        rintro e w' ⟨rfl, rfl⟩
        exact ⟨rfl, rleft_here h'⟩
  · refine ⟨[], 1, S, grows_self S, by decide, (fun x hx => by cases hx), fun w p F h => ?_, fun w q F h => ?_⟩
    · refine (read_refused w p d n h hs).mono ?_
      rintro e w' ⟨rfl, rfl⟩
      exact ⟨none, 0, rfl, left_here h, Reads.none_, fun a h0 => absurd h0 (by decide), h⟩
    · have h' := h
      obtain ⟨D, gs, Ls, st, l, h⟩ := h
      refine (rread_refused h d n hs).mono ?_
      rintro e w' ⟨rfl, rfl⟩
      exact ⟨rfl, rleft_here h'⟩
end Go.Proofs.Ytbkcdomapdflaaa.Sh
