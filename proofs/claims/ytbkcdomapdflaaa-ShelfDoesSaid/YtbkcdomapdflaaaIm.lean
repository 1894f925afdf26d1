/-
  The contract of the statements' one: a call that came by value is done, and what it makes of each disk.
  Conditions: the shelf lies in memory; its power is on.
-/
import Derived.Test.YtbkcdomapdflaaaIl
namespace Go.Proofs.Ytbkcdomapdflaaa.Sh
open Go.RowKit Go.Maps

/-- What a call makes of the disk that it is asked of. -/
def stepK (sec : Nat) (k : Dk) (kind n i : Int) (x : Nat) : Dk :=
  if kind = 2 then (if 0 ≤ n ∧ n < sec ∧ k.dead = false then k.write n.toNat (secOf x) else k)
  else if kind = 3 then (if k.dead = false then k.settle (fun _ => true) else k)
  else if kind = 4 then { k with dead := true }
  else if kind = 5 then (if 0 ≤ n ∧ n < sec ∧ 0 ≤ i ∧ i < 128 ∧ lastOf k.waits n = none then k.turn n.toNat i.toNat x else k)
  else k
/-- What a call makes of a shelf. -/
structure Stepped (S : Sf) (kind d n i : Int) (x : Nat) (S' : Sf) : Prop where
  off : S'.off = false
  left : S'.left = 0
  sec : S'.sectors = S.sectors
  disks : S'.disks = if 0 ≤ d ∧ d < S.disks.length then S.disks.set d.toNat (stepK S.sectors (S.disks.getD d.toNat default) kind n i x) else S.disks
section
variable {w w' : World} {p : Nat} {S : Sf} {F : Nat → Prop}
theorem set_self (l : List Dk) (d : Nat) : l.set d (l.getD d default) = l := by
  apply List.ext_getElem?
  intro i
  rw [List.getElem?_set]
  by_cases h : d = i
  · subst h
    by_cases h2 : d < l.length
    · rw [if_pos rfl, if_pos h2, List.getElem?_eq_getElem h2, List.getD, List.getElem?_eq_getElem h2]; rfl
    · rw [if_pos rfl, if_neg h2, List.getElem?_eq_none (by omega)]
  · rw [if_neg h]
theorem stays {d n i : Int} {x : Nat} {kind : Int} (ho : S.off = false) (hl : S.left = 0) (h : 0 ≤ d → d < S.disks.length → stepK S.sectors (S.disks.getD d.toNat default) kind n i x = S.disks.getD d.toNat default) : Stepped S kind d n i x S :=
  ⟨ho, hl, rfl, by
    split
    · rename_i hd
      rw [h hd.1 hd.2, set_self]
    · rfl⟩
theorem why_on (ho : S.off = false) (d : Nat) : why S d = if (S.disks.getD d default).dead = true then 4 else 0 := by unfold why; rw [ho]; rfl
theorem offAt_on (ho : S.off = false) (hl : S.left = 0) : offAt S.left S.off = false := by unfold offAt; rw [if_pos hl]; exact ho
theorem step_read (ho : S.off = false) (hl : S.left = 0) (d n i : Int) (x : Nat) (S' : Sf) (h : S' = S ∨ S' = S.doRead) : Stepped S 1 d n i x S' := by
  have hs : Stepped S 1 d n i x S := stays ho hl (fun _ _ => by unfold stepK; rw [if_neg (by decide), if_neg (by decide), if_neg (by decide), if_neg (by decide)])
  rcases h with rfl | rfl
  · exact hs
  · exact ⟨hs.off, hs.left, hs.sec, hs.disks⟩
theorem step_wrote (ho : S.off = false) (hl : S.left = 0) (d n i : Int) (x : Nat) (y : Int) (S' : Sf) (h : Wrote S d n (secOf x) y S') (hno : S' = S → ¬ (0 ≤ d ∧ d < S.disks.length ∧ 0 ≤ n ∧ n < S.sectors ∧ (S.disks.getD d.toNat default).dead = false)) : Stepped S 2 d n i x S' := by
  rcases h with ⟨rfl, _⟩ | ⟨d, n, rfl, rfl, hd, hn, hw, _, rfl⟩
  · exact stays ho hl (fun h1 h2 => by
      unfold stepK
      rw [if_pos rfl, if_neg (fun h3 => hno rfl ⟨h1, h2, h3⟩)])
  · have hdead : (S.disks.getD d default).dead = false := by
      rw [why_on ho] at hw
      cases hq : (S.disks.getD d default).dead
      · rfl
      · rw [hq] at hw; exact absurd hw (by decide)
    refine ⟨offAt_on ho hl, by show S.left - 1 = 0; rw [hl], rfl, ?_⟩
    rw [if_pos ⟨by omega, by omega⟩]
    show S.disks.set d _ = S.disks.set ((d : Int).toNat) _
    rw [Int.toNat_natCast]
    unfold stepK
    rw [if_pos rfl, if_pos ⟨by omega, by omega, hdead⟩, Int.toNat_natCast]
theorem step_flushed (ho : S.off = false) (hl : S.left = 0) (d n i : Int) (x : Nat) (y : Int) (S' : Sf) (h : Flushed S d y S') (hno : S' = S → ¬ (0 ≤ d ∧ d < S.disks.length ∧ (S.disks.getD d.toNat default).dead = false)) : Stepped S 3 d n i x S' := by
  rcases h with ⟨rfl, _⟩ | ⟨d, rfl, hd, hw, _, rfl⟩
  · exact stays ho hl (fun h1 h2 => by
      unfold stepK
      rw [if_neg (by decide), if_pos rfl, if_neg (fun h3 => hno rfl ⟨h1, h2, h3⟩)])
  · have hdead : (S.disks.getD d default).dead = false := by
      rw [why_on ho] at hw
      cases hq : (S.disks.getD d default).dead
      · rfl
      · rw [hq] at hw; exact absurd hw (by decide)
    refine ⟨offAt_on ho hl, by show S.left - 1 = 0; rw [hl], rfl, ?_⟩
    rw [if_pos ⟨by omega, by omega⟩]
    show S.disks.set d _ = S.disks.set ((d : Int).toNat) _
    rw [Int.toNat_natCast]
    unfold stepK
    rw [if_neg (by decide), if_pos rfl, if_pos hdead]
end
/-! ### Read, Write, Flush, Kill, Corrupt, whatever is asked -/
section
variable {S : Sf} {F : Nat → Prop}
theorem read_of (w : World) (p : Nat) (d n : Int) (h : Shelf w p S F) (ho : S.off = false) (hl : S.left = 0) (i : Int) (x : Nat) :
    Calls Try.prog 17 #[.pointer (some ⟨p, 0, none⟩), .int .i64 d, .int .i64 n] w fun e w' => ∃ A m c y S', e = .returned (.tuple #[.slice A m c, .int .i64 y]) ∧ Left F w p S' w' ∧ Stepped S 1 d n i x S' := by
  by_cases hs : hasS S d n
  · obtain ⟨h1, h2, h3, h4⟩ := hs
    obtain ⟨d, rfl⟩ : ∃ m : Nat, d = (m : Int) := ⟨d.toNat, by omega⟩
    obtain ⟨n, rfl⟩ : ∃ m : Nat, n = (m : Int) := ⟨n.toNat, by omega⟩
    rcases why_cases S d with hw | ⟨hw, _⟩
    · refine (read_done w p d n h (by omega) (by omega) hw).mono ?_
      rintro e w' ⟨A, c, rfl, _, hsh, hO⟩
      exact ⟨A, 128, c, 0, _, rfl, ⟨F, hsh, hO, fun _ h => .inl h⟩, step_read ho hl _ _ _ _ _ (.inr rfl)⟩
    · refine (read_why w p d n h (by omega) (by omega) hw).mono ?_
      rintro e w' ⟨rfl, rfl⟩
      exact ⟨none, 0, 0, _, S, rfl, left_here h, step_read ho hl _ _ _ _ _ (.inl rfl)⟩
  · refine (read_refused w p d n h hs).mono ?_
    rintro e w' ⟨rfl, rfl⟩
    exact ⟨none, 0, 0, 1, S, rfl, left_here h, step_read ho hl _ _ _ _ _ (.inl rfl)⟩
theorem write_st (w : World) (p : Nat) (d n : Int) (x : Nat) {A : Option Addr} {c : Nat} (h : Shelf w p S F) (hL : ∀ k ∈ S.disks, k.waits.length < 4398046511104) (hx : x < 256) (hr : Reads w w.heap.size A 128 (bts (secOf x))) (hA : ∀ a, A = some a → ¬ F a.block) (ho : S.off = false) (hl : S.left = 0) (i : Int) :
    Calls Try.prog 8 #[.pointer (some ⟨p, 0, none⟩), .int .i64 d, .int .i64 n, .slice A 128 c] w fun e w' => ∃ y S', e = .returned (.int .i64 y) ∧ Left F w p S' w' ∧ Stepped S 2 d n i x S' := by
  by_cases hs : hasS S d n
  · obtain ⟨h1, h2, h3, h4⟩ := hs
    obtain ⟨d, rfl⟩ : ∃ m : Nat, d = (m : Int) := ⟨d.toNat, by omega⟩
    obtain ⟨n, rfl⟩ : ∃ m : Nat, n = (m : Int) := ⟨n.toNat, by omega⟩
    rcases why_cases S d with hw | ⟨hw, hd⟩
    · refine (write_done w p d n (secOf x) h (by omega) (by omega) hw (hL _ (getD_mem (by omega))) (secOf_sec hx) hr hA).mono ?_
      rintro e w' ⟨rfl, hlf⟩
      have hwr : Wrote S d n (secOf x) 0 (S.doWrite d n (secOf x)) := .inr ⟨d, n, rfl, rfl, by omega, by omega, hw, rfl, rfl⟩
      exact ⟨0, _, rfl, hlf, step_wrote ho hl _ _ _ _ _ _ hwr (fun e => by
        have this : ((S.doWrite d n (secOf x)).disks.getD d default).waits.length = (S.disks.getD d default).waits.length := congrArg (fun s => (Sf.disks s |>.getD d default).waits.length) e
        have e2 : ((S.doWrite d n (secOf x)).disks.getD d default).waits.length = (S.disks.getD d default).waits.length + 1 := by
          show ((S.disks.set d _).getD d default).waits.length = _
          rw [getD_set _ _ _ _ (by omega), if_pos rfl]
          simp [Dk.write]
        omega)⟩
    · refine (write_why w p d n h (by omega) (by omega) hw).mono ?_
      rintro e w' ⟨rfl, rfl⟩
      refine ⟨_, S, rfl, left_here h, step_wrote ho hl _ _ _ _ _ _ (.inl ⟨rfl, hw, .inr (hd.elim .inl fun h => .inr ⟨d, rfl, by omega, h⟩)⟩) (fun _ h5 => ?_)⟩
      rcases hd with hd | hd
      · rw [ho] at hd; cases hd
      · rw [Int.toNat_natCast] at h5; rw [h5.2.2.2.2] at hd; cases hd
  · refine (write_refused w p d n h (.inl hs)).mono ?_
    rintro e w' ⟨rfl, rfl⟩
    exact ⟨1, S, rfl, left_here h, step_wrote ho hl _ _ _ _ _ _ (.inl ⟨rfl, by decide, .inl rfl⟩) (fun _ h5 => hs ⟨h5.1, h5.2.1, h5.2.2.1, h5.2.2.2.1⟩)⟩
theorem flush_st (w : World) (p : Nat) (d n i : Int) (x : Nat) (h : Shelf w p S F) (hL : ∀ k ∈ S.disks, k.waits.length < 4398046511104) (ho : S.off = false) (hl : S.left = 0) :
    Calls Try.prog 10 #[.pointer (some ⟨p, 0, none⟩), .int .i64 d] w fun e w' => ∃ y S', e = .returned (.int .i64 y) ∧ Left F w p S' w' ∧ Stepped S 3 d n i x S' := by
  by_cases hs : hasD S d
  · obtain ⟨h1, h2⟩ := hs
    obtain ⟨d, rfl⟩ : ∃ m : Nat, d = (m : Int) := ⟨d.toNat, by omega⟩
    rcases why_cases S d with hw | ⟨hw, hd⟩
    · refine (flush_done w p d h (by omega) hw (hL _ (getD_mem (by omega)))).mono ?_
      rintro e w' ⟨rfl, hlf⟩
      have hdead : (S.disks.getD d default).dead = false := by
        rw [why_on ho] at hw
        cases hq : (S.disks.getD d default).dead
        · rfl
        · rw [hq] at hw; exact absurd hw (by decide)
      refine ⟨0, _, rfl, hlf, ⟨offAt_on ho hl, by show S.left - 1 = 0; rw [hl], rfl, ?_⟩⟩
      rw [if_pos ⟨by omega, by omega⟩]
      show S.disks.set d _ = S.disks.set ((d : Int).toNat) _
      rw [Int.toNat_natCast]
      unfold stepK
      rw [if_neg (by decide), if_pos rfl, if_pos hdead]
    · refine (flush_why w p d h (by omega) hw).mono ?_
      rintro e w' ⟨rfl, rfl⟩
      refine ⟨_, S, rfl, left_here h, stays ho hl (fun _ _ => ?_)⟩
      rcases hd with hd | hd
      · rw [ho] at hd; cases hd
      · unfold stepK
        rw [Int.toNat_natCast, if_neg (by decide), if_pos rfl, if_neg (by rw [hd]; decide)]
  · refine (flush_refused w p d h hs).mono ?_
    rintro e w' ⟨rfl, rfl⟩
    exact ⟨1, S, rfl, left_here h, stays ho hl (fun h1 h2 => absurd ⟨h1, h2⟩ hs)⟩
theorem kill_st (w : World) (p : Nat) (d n i : Int) (x : Nat) (h : Shelf w p S F) (ho : S.off = false) (hl : S.left = 0) :
    Calls Try.prog 11 #[.pointer (some ⟨p, 0, none⟩), .int .i64 d] w fun e w' => ∃ y S', e = .returned (.int .i64 y) ∧ Left F w p S' w' ∧ Stepped S 4 d n i x S' := by
  by_cases hs : hasD S d
  · obtain ⟨h1, h2⟩ := hs
    obtain ⟨d, rfl⟩ : ∃ m : Nat, d = (m : Int) := ⟨d.toNat, by omega⟩
    refine (kill_done w p d h (by omega)).mono ?_
    rintro e w' ⟨rfl, hlf⟩
    refine ⟨0, _, rfl, hlf, ⟨ho, hl, rfl, ?_⟩⟩
    rw [if_pos ⟨by omega, by omega⟩]
    show S.disks.set d _ = S.disks.set ((d : Int).toNat) _
    rw [Int.toNat_natCast]
    unfold stepK
    rw [if_neg (by decide), if_neg (by decide), if_pos rfl]
  · refine (kill_no w p d h hs).mono ?_
    rintro e w' ⟨rfl, rfl⟩
    exact ⟨1, S, rfl, left_here h, stays ho hl (fun h1 h2 => absurd ⟨h1, h2⟩ hs)⟩
theorem corrupt_st (w : World) (p : Nat) (d n i : Int) (x : Nat) (hx : x < 256) (h : Shelf w p S F) (ho : S.off = false) (hl : S.left = 0) :
    Calls Try.prog 33 #[.pointer (some ⟨p, 0, none⟩), .int .i64 d, .int .i64 n, .int .i64 i, .int .u8 x] w fun e w' => ∃ y S', e = .returned (.int .i64 y) ∧ Left F w p S' w' ∧ Stepped S 5 d n i x S' := by
  by_cases hs : hasS S d n ∧ 0 ≤ i ∧ i < 128
  · obtain ⟨⟨h1, h2, h3, h4⟩, h5, h6⟩ := hs
    obtain ⟨d, rfl⟩ : ∃ m : Nat, d = (m : Int) := ⟨d.toNat, by omega⟩
    obtain ⟨n, rfl⟩ : ∃ m : Nat, n = (m : Int) := ⟨n.toNat, by omega⟩
    obtain ⟨i, rfl⟩ : ∃ m : Nat, i = (m : Int) := ⟨i.toNat, by omega⟩
    cases hw : lastOf (S.disks.getD d default).waits n
    · refine (corrupt_done w p d n i x hx h (by omega) (by omega) (by omega) hw).mono ?_
      rintro e w' ⟨rfl, hlf⟩
      refine ⟨0, _, rfl, hlf, ⟨ho, hl, rfl, ?_⟩⟩
      rw [if_pos ⟨by omega, by omega⟩]
      show S.disks.set d _ = S.disks.set ((d : Int).toNat) _
      rw [Int.toNat_natCast]
      unfold stepK
      rw [if_neg (by decide), if_neg (by decide), if_neg (by decide), if_pos rfl, if_pos ⟨by omega, by omega, by omega, by omega, hw⟩, Int.toNat_natCast, Int.toNat_natCast]
    · refine (corrupt_waits w p d n i x h (by omega) (by omega) (by omega) (by rw [hw]; rfl)).mono ?_
      rintro e w' ⟨rfl, rfl⟩
      refine ⟨9, S, rfl, left_here h, stays ho hl (fun _ _ => ?_)⟩
      unfold stepK
      rw [Int.toNat_natCast, if_neg (by decide), if_neg (by decide), if_neg (by decide), if_pos rfl, if_neg (by rw [hw]; rintro ⟨_, _, _, _, h⟩; cases h)]
  · have hx2 : ¬ hasS S d n ∨ i < 0 ∨ 127 < i := by
      by_cases h7 : hasS S d n
      · right
        have : ¬ (0 ≤ i ∧ i < 128) := fun h8 => hs ⟨h7, h8⟩
        omega
      · exact .inl h7
    refine (corrupt_refused w p d n i x h hx2).mono ?_
    rintro e w' ⟨rfl, rfl⟩
    refine ⟨1, S, rfl, left_here h, stays ho hl (fun h1 h2 => ?_)⟩
    unfold stepK
    rw [if_neg (by decide), if_neg (by decide), if_neg (by decide), if_pos rfl, if_neg (fun h3 => hs ⟨⟨h1, h2, h3.1, h3.2.1⟩, h3.2.2.1, h3.2.2.2.1⟩)]
end
theorem only_alloc (w : World) (o : Obj) (F : Nat → Prop) : Only F w (w.alloc o) := (Only.refl F w).alloc o
theorem left_box {w w' : World} {p : Nat} {S' : Sf} {F : Nat → Prop} (o : Obj) (h : Left F (w.alloc o) p S' w') : Left F w p S' w' := by
  obtain ⟨F', hs, hm⟩ := h
  have h0 : Moves F w F (w.alloc o) := ⟨only_alloc w o F, fun _ h => .inl h⟩
  exact ⟨F', hs, h0.trans hm⟩
end Go.Proofs.Ytbkcdomapdflaaa.Sh
