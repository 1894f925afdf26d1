/-
  The contract of the statements' one: a call that came by value is done, and what it makes of each disk.
  Conditions: the shelf lies in memory; its power is on.
-/
import Derived.Test.YtbfipiojdddcbaaIl
namespace Go.Proofs.Ytbfipiojdddcbaa.Sh
open Go.RowKit Go.Maps

/-- What a call makes of the disk that it is asked of. -/
def stepK (sec : Nat) (k : Dk) (kind n i : Int) (x : Nat) : Dk :=
  if kind = 2 then (if 0 ≤ n ∧ n < sec ∧ k.dead = false then k.write n.toNat (secOf x) else k)
  else if kind = 3 then (if k.dead = false then k.settle (fun _ => true) else k)
  else if kind = 4 then { k with dead := true }
  else if kind = 5 then (if 0 ≤ n ∧ n < sec ∧ 0 ≤ i ∧ i < 128 ∧ lastOf k.waits n = none then k.turn n.toNat i.toNat x else k)
  else k
/-- What a call makes of a shelf. -/
structure Stepped (S : Sf) (kind d n i : Int) (x : Nat) (S' : Sf) : Prop where
  off : S'.off = false
  left : S'.left = 0
  sec : S'.sectors = S.sectors
  disks : S'.disks = if 0 ≤ d ∧ d < S.disks.length then S.disks.set d.toNat (stepK S.sectors (S.disks.getD d.toNat default) kind n i x) else S.disks
section
variable {w w' : World} {p : Nat} {S : Sf} {F : Nat → Prop}
theorem set_self (l : List Dk) (d : Nat) : l.set d (l.getD d default) = l := by
  apply List.ext_getElem?
  intro i
  rw [List.getElem?_set]
  by_cases h : d = i
  · subst h
    by_cases h2 : d < l.length
    · rw [if_pos rfl, if_pos h2, List.getElem?_eq_getElem h2, List.getD, List.getElem?_eq_getElem h2]; rfl
    · rw [if_pos rfl, if_neg h2, List.getElem?_eq_none (by omega)]
  · rw [if_neg h]
theorem stays {d n i : Int} {x : Nat} {kind : Int} (ho : S.off = false) (hl : S.left = 0) (h : 0 ≤ d → d < S.disks.length → stepK S.sectors (S.disks.getD d.toNat default) kind n i x = S.disks.getD d.toNat default) : Stepped S kind d n i x S :=
  ⟨ho, hl, rfl, by
    split
    · rename_i hd
      rw [h hd.1 hd.2, set_self]
    · rfl⟩
theorem why_on (ho : S.off = false) (d : Nat) : why S d = if (S.disks.getD d default).dead = true then 4 else 0 := by unfold why; rw [ho]; rfl
theorem offAt_on (ho : S.off = false) (hl : S.left = 0) : offAt S.left S.off = false := by unfold offAt; rw [if_pos hl]; exact ho
theorem step_read (ho : S.off = false) (hl : S.left = 0) (d n i : Int) (x : Nat) (S' : Sf) (h : S' = S ∨ S' = S.doRead) : Stepped S 1 d n i x S' := by
  have hs : Stepped S 1 d n i x S := stays ho hl (fun _ _ => by unfold stepK; rw [if_neg (by decide), if_neg (by decide), if_neg (by decide), if_neg (by decide)])
  rcases h with rfl | rfl
  · exact hs
  · exact ⟨hs.off, hs.left, hs.sec, hs.disks⟩
theorem step_wrote (ho : S.off = false) (hl : S.left = 0) (d n i : Int) (x : Nat) (y : Int) (S' : Sf) (h : Wrote S d n (secOf x) y S') (hno : S' = S → ¬ (0 ≤ d ∧ d < S.disks.length ∧ 0 ≤ n ∧ n < S.sectors ∧ (S.disks.getD d.toNat default).dead = false)) : Stepped S 2 d n i x S' := by
  rcases h with ⟨rfl, _⟩ | ⟨d, n, rfl, rfl, hd, hn, hw, _, rfl⟩
  · exact stays ho hl (fun h1 h2 => by
      unfold stepK
      rw [if_pos rfl, if_neg (fun h3 => hno rfl ⟨h1, h2, h3⟩)])
  · have hdead : (S.disks.getD d default).dead = false := by
      rw [why_on ho] at hw
      cases hq : (S.disks.getD d default).dead
      · rfl
      · rw [hq] at hw; exact absurd hw (by decide)
    refine ⟨offAt_on ho hl, by show S.left - 1 = 0; rw [hl], rfl, ?_⟩
    rw [if_pos ⟨by omega, by omega⟩]
    show S.disks.set d _ = S.disks.set ((d : Int).toNat) _
    rw [Int.toNat_natCast]
    unfold stepK
    rw [if_pos rfl, if_pos ⟨by omega, by omega, hdead⟩, Int.toNat_natCast]
theorem step_flushed (ho : S.off = false) (hl : S.left = 0) (d n i : Int) (x : Nat) (y : Int) (S' : Sf) (h : Flushed S d y S') (hno : S' = S → ¬ (0 ≤ d ∧ d < S.disks.length ∧ (S.disks.getD d.toNat default).dead = false)) : Stepped S 3 d n i x S' := by
  rcases h with ⟨rfl, _⟩ | ⟨d, rfl, hd, hw, _, rfl⟩
  · exact stays ho hl (fun h1 h2 => by
      unfold stepK
      rw [if_neg (by decide), if_pos rfl, if_neg (fun h3 => hno rfl ⟨h1, h2, h3⟩)])
  · have hdead : (S.disks.getD d default).dead = false := by
      rw [why_on ho] at hw
      cases hq : (S.disks.getD d default).dead
      · rfl
      · rw [hq] at hw; exact absurd hw (by decide)
    refine ⟨offAt_on ho hl, by show S.left - 1 = 0; rw [hl], rfl, ?_⟩
    rw [if_pos ⟨by omega, by omega⟩]
    show S.disks.set d _ = S.disks.set ((d : Int).toNat) _
    rw [Int.toNat_natCast]
    unfold stepK
    rw [if_neg (by decide), if_pos rfl, if_pos hdead]
end
/-! ### Read, Write, Flush, Kill, Corrupt, whatever is asked -/
section
variable {S : Sf} {F : Nat → Prop}
theorem read_of (w : World) (p : Nat) (d n : Int) (h : Shelf w p S F) (ho : S.off = false) (hl : S.left = 0) (i : Int) (x : Nat) :
    Calls Try.prog 21 #[.pointer (some ⟨p, 0, none⟩), .int .i64 d, .int .i64 n] w fun e w' => ∃ A m c y S', e = .returned (.tuple #[.slice A m c, .int .i64 y]) ∧ Left F w p S' w' ∧ Stepped S 1 d n i x S' := by
  by_cases hs : hasS S d n
  · obtain ⟨h1, h2, h3, h4⟩ := hs
    obtain ⟨d, rfl⟩ : ∃ m : Nat, d = (m : Int) := ⟨d.toNat, by omega⟩
    obtain ⟨n, rfl⟩ : ∃ m : Nat, n = (m : Int) := ⟨n.toNat, by omega⟩
    rcases why_cases S d with hw | ⟨hw, _⟩
    · refine (read_done w p d n h (by omega) (by omega) hw).mono ?_
      rintro e w' ⟨A, c, rfl, _, hsh, hO⟩
      exact ⟨A, 128, c, 0, _, rfl, ⟨F, hsh, hO, fun _ h => .inl h⟩, step_read ho hl _ _ _ _ _ (.inr rfl)⟩
    · refine (read_why w p d n h (by omega) (by omega) hw).mono ?_
      rintro e w' ⟨rfl, rfl⟩
      exact ⟨none, 0, 0, _, S, rfl, left_here h, step_read ho hl _ _ _ _ _ (.inl rfl)⟩
  · refine (read_refused w p d n h hs).mono ?_
    rintro e w' ⟨rfl, rfl⟩
    exact ⟨none, 0, 0, 1, S, rfl, left_here h, step_read ho hl _ _ _ _ _ (.inl rfl)⟩
theorem write_st (w : World) (p : Nat) (d n : Int) (x : Nat) {A : Option Addr} {c : Nat} (h : Shelf w p S F) (hL : ∀ k ∈ S.disks, k.waits.length < 1099511627776) (hx : x < 256) (hr : Reads w w.heap.size A 128 (bts (secOf x))) (hA : ∀ a, A = some a → ¬ F a.block) (ho : S.off = false) (hl : S.left = 0) (i : Int) :
    Calls Try.prog 14 #[.pointer (some ⟨p, 0, none⟩), .int .i64 d, .int .i64 n, .slice A 128 c] w fun e w' => ∃ y S', e = .returned (.int .i64 y) ∧ Left F w p S' w' ∧ Stepped S 2 d n i x S' := by
  by_cases hs : hasS S d n
  · obtain ⟨h1, h2, h3, h4⟩ := hs
    obtain ⟨d, rfl⟩ : ∃ m : Nat, d = (m : Int) := ⟨d.toNat, by omega⟩
    obtain ⟨n, rfl⟩ : ∃ m : Nat, n = (m : Int) := ⟨n.toNat, by omega⟩
    rcases why_cases S d with hw | ⟨hw, hd⟩
    · refine (write_done w p d n (secOf x) h (by omega) (by omega) hw (hL _ (getD_mem (by omega))) (secOf_sec hx) hr hA).mono ?_
      rintro e w' ⟨rfl, hlf⟩
      have hwr : Wrote S d n (secOf x) 0 (S.doWrite d n (secOf x)) := .inr ⟨d, n, rfl, rfl, by omega, by omega, hw, rfl, rfl⟩
      exact ⟨0, _, rfl, hlf, step_wrote ho hl _ _ _ _ _ _ hwr (fun e => by
        have this : ((S.doWrite d n (secOf x)).disks.getD d default).waits.length = (S.disks.getD d default).waits.length := congrArg (fun s => (Sf.disks s |>.getD d default).waits.length) e
        have e2 : ((S.doWrite d n (secOf x)).disks.getD d default).waits.length = (S.disks.getD d default).waits.length + 1 := by
          show ((S.disks.set d _).getD d default).waits.length = _
          rw [getD_set _ _ _ _ (by omega), if_pos rfl]
          simp [Dk.write]
        omega)⟩
    · refine (write_why w p d n h (by omega) (by omega) hw).mono ?_
      rintro e w' ⟨rfl, rfl⟩
      refine ⟨_, S, rfl, left_here h, step_wrote ho hl _ _ _ _ _ _ (.inl ⟨rfl, hw, .inr (hd.elim .inl fun h => .inr ⟨d, rfl, by omega, h⟩)⟩) (fun _ h5 => ?_)⟩
      rcases hd with hd | hd
      · rw [ho] at hd; cases hd
      · rw [Int.toNat_natCast] at h5; rw [h5.2.2.2.2] at hd; cases hd
  · refine (write_refused w p d n h (.inl hs)).mono ?_
    rintro e w' ⟨rfl, rfl⟩
    exact ⟨1, S, rfl, left_here h, step_wrote ho hl _ _ _ _ _ _ (.inl ⟨rfl, by decide, .inl rfl⟩) (fun _ h5 => hs ⟨h5.1, h5.2.1, h5.2.2.1, h5.2.2.2.1⟩)⟩
theorem flush_st (w : World) (p : Nat) (d n i : Int) (x : Nat) (h : Shelf w p S F) (hL : ∀ k ∈ S.disks, k.waits.length < 1099511627776) (ho : S.off = false) (hl : S.left = 0) :
    Calls Try.prog 16 #[.pointer (some ⟨p, 0, none⟩), .int .i64 d] w fun e w' => ∃ y S', e = .returned (.int .i64 y) ∧ Left F w p S' w' ∧ Stepped S 3 d n i x S' := by
  by_cases hs : hasD S d
  · obtain ⟨h1, h2⟩ := hs
    obtain ⟨d, rfl⟩ : ∃ m : Nat, d = (m : Int) := ⟨d.toNat, by omega⟩
    rcases why_cases S d with hw | ⟨hw, hd⟩
    · refine (flush_done w p d h (by omega) hw (hL _ (getD_mem (by omega)))).mono ?_
      rintro e w' ⟨rfl, hlf⟩
      have hdead : (S.disks.getD d default).dead = false := by
        rw [why_on ho] at hw
        cases hq : (S.disks.getD d default).dead
        · rfl
        · rw [hq] at hw; exact absurd hw (by decide)
      refine ⟨0, _, rfl, hlf, ⟨offAt_on ho hl, by show S.left - 1 = 0; rw [hl], rfl, ?_⟩⟩
      rw [if_pos ⟨by omega, by omega⟩]
      show S.disks.set d _ = S.disks.set ((d : Int).toNat) _
      rw [Int.toNat_natCast]
      unfold stepK
      rw [if_neg (by decide), if_pos rfl, if_pos hdead]
    · refine (flush_why w p d h (by omega) hw).mono ?_
      rintro e w' ⟨rfl, rfl⟩
      refine ⟨_, S, rfl, left_here h, stays ho hl (fun _ _ => ?_)⟩
      rcases hd with hd | hd
      · rw [ho] at hd; cases hd
      · unfold stepK
        rw [Int.toNat_natCast, if_neg (by decide), if_pos rfl, if_neg (by rw [hd]; decide)]
  · refine (flush_refused w p d h hs).mono ?_
    rintro e w' ⟨rfl, rfl⟩
    exact ⟨1, S, rfl, left_here h, stays ho hl (fun h1 h2 => absurd ⟨h1, h2⟩ hs)⟩
theorem kill_st (w : World) (p : Nat) (d n i : Int) (x : Nat) (h : Shelf w p S F) (ho : S.off = false) (hl : S.left = 0) :
    Calls Try.prog 17 #[.pointer (some ⟨p, 0, none⟩), .int .i64 d] w fun e w' => ∃ y S', e = .returned (.int .i64 y) ∧ Left F w p S' w' ∧ Stepped S 4 d n i x S' := by
  by_cases hs : hasD S d
  · obtain ⟨h1, h2⟩ := hs
    obtain ⟨d, rfl⟩ : ∃ m : Nat, d = (m : Int) := ⟨d.toNat, by omega⟩
    refine (kill_done w p d h (by omega)).mono ?_
    rintro e w' ⟨rfl, hlf⟩
    refine ⟨0, _, rfl, hlf, ⟨ho, hl, rfl, ?_⟩⟩
    rw [if_pos ⟨by omega, by omega⟩]
    show S.disks.set d _ = S.disks.set ((d : Int).toNat) _
    rw [Int.toNat_natCast]
    unfold stepK
    rw [if_neg (by decide), if_neg (by decide), if_pos rfl]
  · refine (kill_no w p d h hs).mono ?_
    rintro e w' ⟨rfl, rfl⟩
    exact ⟨1, S, rfl, left_here h, stays ho hl (fun h1 h2 => absurd ⟨h1, h2⟩ hs)⟩
theorem corrupt_st (w : World) (p : Nat) (d n i : Int) (x : Nat) (hx : x < 256) (h : Shelf w p S F) (ho : S.off = false) (hl : S.left = 0) :
    Calls Try.prog 27 #[.pointer (some ⟨p, 0, none⟩), .int .i64 d, .int .i64 n, .int .i64 i, .int .u8 x] w fun e w' => ∃ y S', e = .returned (.int .i64 y) ∧ Left F w p S' w' ∧ Stepped S 5 d n i x S' := by
  by_cases hs : hasS S d n ∧ 0 ≤ i ∧ i < 128
  · obtain ⟨⟨h1, h2, h3, h4⟩, h5, h6⟩ := hs
    obtain ⟨d, rfl⟩ : ∃ m : Nat, d = (m : Int) := ⟨d.toNat, by omega⟩
    obtain ⟨n, rfl⟩ : ∃ m : Nat, n = (m : Int) := ⟨n.toNat, by omega⟩
    obtain ⟨i, rfl⟩ : ∃ m : Nat, i = (m : Int) := ⟨i.toNat, by omega⟩
    cases hw : lastOf (S.disks.getD d default).waits n
    · refine (corrupt_done w p d n i x hx h (by omega) (by omega) (by omega) hw).mono ?_
      rintro e w' ⟨rfl, hlf⟩
      refine ⟨0, _, rfl, hlf, ⟨ho, hl, rfl, ?_⟩⟩
      rw [if_pos ⟨by omega, by omega⟩]
      show S.disks.set d _ = S.disks.set ((d : Int).toNat) _
      rw [Int.toNat_natCast]
      unfold stepK
      rw [if_neg (by decide), if_neg (by decide), if_neg (by decide), if_pos rfl, if_pos ⟨by omega, by omega, by omega, by omega, hw⟩, Int.toNat_natCast, Int.toNat_natCast]
    · refine (corrupt_waits w p d n i x h (by omega) (by omega) (by omega) (by rw [hw]; rfl)).mono ?_
      rintro e w' ⟨rfl, rfl⟩
      refine ⟨9, S, rfl, left_here h, stays ho hl (fun _ _ => ?_)⟩
      unfold stepK
      rw [Int.toNat_natCast, if_neg (by decide), if_neg (by decide), if_neg (by decide), if_pos rfl, if_neg (by rw [hw]; rintro ⟨_, _, _, _, h⟩; cases h)]
  · have hx2 : ¬ hasS S d n ∨ i < 0 ∨ 127 < i := by
      by_cases h7 : hasS S d n
      · right
        have : ¬ (0 ≤ i ∧ i < 128) := fun h8 => hs ⟨h7, h8⟩
        omega
      · exact .inl h7
    refine (corrupt_refused w p d n i x h hx2).mono ?_
    rintro e w' ⟨rfl, rfl⟩
    refine ⟨1, S, rfl, left_here h, stays ho hl (fun h1 h2 => ?_)⟩
    unfold stepK
    rw [if_neg (by decide), if_neg (by decide), if_neg (by decide), if_pos rfl, if_neg (fun h3 => hs ⟨⟨h1, h2, h3.1, h3.2.1⟩, h3.2.2.1, h3.2.2.2.1⟩)]
end
theorem only_alloc (w : World) (o : Obj) (F : Nat → Prop) : Only F w (w.alloc o) := (Only.refl F w).alloc o
theorem left_box {w w' : World} {p : Nat} {S' : Sf} {F : Nat → Prop} (o : Obj) (h : Left F (w.alloc o) p S' w') : Left F w p S' w' := by
  obtain ⟨F', hs, hm⟩ := h
  have h0 : Moves F w F (w.alloc o) := ⟨only_alloc w o F, fun _ h => .inl h⟩
  exact ⟨F', hs, h0.trans hm⟩
set_option maxRecDepth 20000 in
set_option maxHeartbeats 4000000 in
theorem one_any (w : World) (p : Nat) (kind d n i : Int) (x : Nat) (hx : x < 256) (A : Option Addr) (m c : Nat) {S : Sf} {F : Nat → Prop} (h : Shelf w p S F) (hL : ∀ k ∈ S.disks, k.waits.length < 1099511627776) (ho : S.off = false) (hl : S.left = 0) (hk : kind = 1 ∨ kind = 2 ∨ kind = 3 ∨ kind = 4 ∨ kind = 5) :
    Calls Try.prog 24 #[.pointer (some ⟨p, 0, none⟩), .agg #[.int .i64 kind, .int .i64 d, .int .i64 n, .int .i64 i, .int .u8 (x : Int), .slice A m c]] w fun e w' => e = .returned (.tuple #[]) ∧ ∃ S', Left F w p S' w' ∧ Stepped S kind d n i x S' := by
  have hbox : (w.alloc (.cells #[.int .i64 kind, .int .i64 d, .int .i64 n, .int .i64 i, .int .u8 (x : Int), .slice A m c] 33)).heap[w.heap.size]? = some (.cells #[.int .i64 kind, .int .i64 d, .int .i64 n, .int .i64 i, .int .u8 (x : Int), .slice A m c] 33 (0, 0)) := heap_alloc_new _ _
  have h0 : Shelf (w.alloc (.cells #[.int .i64 kind, .int .i64 d, .int .i64 n, .int .i64 i, .int .u8 (x : Int), .slice A m c] 33)) p S F := h.only (only_alloc w _ (fun _ => False)) (fun _ _ e => e)
  have hF : ∀ b, F b → b < w.heap.size := fun b hb => h.ltF hb
  have hsz : w.heap.size < (w.alloc (.cells #[.int .i64 kind, .int .i64 d, .int .i64 n, .int .i64 i, .int .u8 (x : Int), .slice A m c] 33)).heap.size := by simp
  have k0 := cell_of_row _ _ 0 _ _ _ hbox
  have k1 := cell_of_row _ _ 1 _ _ _ hbox
  have k2 := cell_of_row _ _ 2 _ _ _ hbox
  have k3 := cell_of_row _ _ 3 _ _ _ hbox
  have k4 := cell_of_row _ _ 4 _ _ _ hbox
  simp only [List.getElem?_toArray, List.getElem?_cons_zero, List.getElem?_cons_succ] at k0 k1 k2 k3 k4
  rcases hk with rfl | rfl | rfl | rfl | rfl
  · go_enter Try.func24, Try.ntmps24
    go_wp2_with fail
    refine (read_of _ p d n h0 ho hl i x).mono ?_
    rintro e w1 ⟨A', m', c', y, S', rfl, hlf, hst⟩
    go_wp2_with fail
    go_end0
    exact ⟨rfl, S', left_box _ hlf, hst⟩
  · go_enter Try.func24, Try.ntmps24
    go_wp2_with fail
    have hlb := fun S' w' (hlf : Left F (w.alloc (.cells #[.int .i64 2, .int .i64 d, .int .i64 n, .int .i64 i, .int .u8 (x : Int), .slice A m c] 33)) p S' w') => left_box _ hlf
    generalize w.alloc (.cells #[.int .i64 2, .int .i64 d, .int .i64 n, .int .i64 i, .int .u8 (x : Int), .slice A m c] 33) = W0 at *
    have j1 := fun (W' : World) (h : W'.heap[w.heap.size]? = some (.cells #[.int .i64 2, .int .i64 d, .int .i64 n, .int .i64 i, .int .u8 (x : Int), .slice A m c] 33 (0, 0))) => show W'.cell? ⟨w.heap.size, 1, none⟩ = some (.int .i64 d) from cell_of_row _ _ 1 _ _ _ h
    have j2 := fun (W' : World) (h : W'.heap[w.heap.size]? = some (.cells #[.int .i64 2, .int .i64 d, .int .i64 n, .int .i64 i, .int .u8 (x : Int), .slice A m c] 33 (0, 0))) => show W'.cell? ⟨w.heap.size, 2, none⟩ = some (.int .i64 n) from cell_of_row _ _ 2 _ _ _ h
    have j4 := fun (W' : World) (h : W'.heap[w.heap.size]? = some (.cells #[.int .i64 2, .int .i64 d, .int .i64 n, .int .i64 i, .int .u8 (x : Int), .slice A m c] 33 (0, 0))) => show W'.cell? ⟨w.heap.size, 4, none⟩ = some (.int .u8 (x : Int)) from cell_of_row _ _ 4 _ _ _ h
    have hback : ∀ (S' : Sf) (w' : World), Left F W0 p S' w' → Left F w p S' w' := fun S' w' hlf => hlb S' w' hlf
    clear k0 k1 k2 k3 k4
    refine wp_region_held_drew (S := fun (W' : World) => W'.heap[w.heap.size]? = some (.cells #[.int .i64 2, .int .i64 d, .int .i64 n, .int .i64 i, .int .u8 (x : Int), .slice A m c] 33 (0, 0))) (by kernel_rfl) (by exact hbox) (fun hHeld => ?_)
    refine wpAnyH_take (i := 0) (oi := ⟨some 16, _, _, _, _, _⟩) (v := ?_) rfl (by kernel_rfl) (by kernel_rfl) (by kernel_rfl) (fun _ _ _ h => h) (Or.inl ⟨by rfl, ?_⟩) (by assumption) ?_
    rotate_left
    · (intro w hSw; (try dsimp only at hSw); go_simp; first | done | with_reducible rfl)
    try simp only [Act.put, List.setIfInBounds_toArray, List.set_cons_zero, List.set_cons_succ]
    refine wpAnyH_take (i := 1) (oi := ⟨some 17, _, _, _, _, _⟩) (v := ?_) rfl (by kernel_rfl) (by kernel_rfl) (by kernel_rfl) (fun _ _ _ h => h) (Or.inl ⟨by rfl, ?_⟩) (by assumption) ?_
    rotate_left
    · (intro w hSw; (try dsimp only at hSw); go_simp; first | done | with_reducible rfl)
    try simp only [Act.put, List.setIfInBounds_toArray, List.set_cons_zero, List.set_cons_succ]
    refine wpAnyH_take (i := 2) (oi := ⟨some 18, _, _, _, _, _⟩) (v := ?_) rfl (by kernel_rfl) (by kernel_rfl) (by kernel_rfl) (fun _ _ _ h => h) (Or.inl ⟨by rfl, ?_⟩) (by assumption) ?_
    rotate_left
    · (intro w hSw; (try dsimp only at hSw); go_simp; first | done | with_reducible rfl)
    try simp only [Act.put, List.setIfInBounds_toArray, List.set_cons_zero, List.set_cons_succ]
    refine wpAnyH_take (i := 3) (oi := ⟨some 19, _, _, _, _, _⟩) (v := ?_) rfl (by kernel_rfl) (by kernel_rfl) (by kernel_rfl) (fun _ _ _ h => h) (Or.inl ⟨by rfl, ?_⟩) (by assumption) ?_
    rotate_left
    · (intro w hSw; (try dsimp only at hSw); go_simp; first | done | with_reducible rfl)
    try simp only [Act.put, List.setIfInBounds_toArray, List.set_cons_zero, List.set_cons_succ]
    refine wpAnyH_take (i := 4) (oi := ⟨some 20, _, _, _, _, _⟩) (v := ?_) rfl (by kernel_rfl) (by kernel_rfl) (by kernel_rfl) (fun _ _ _ h => h) (Or.inl ⟨by rfl, ?_⟩) (by assumption) ?_
    rotate_left
    · (intro w hSw; (try dsimp only at hSw); go_simp; first | done | with_reducible rfl)
    try simp only [Act.put, List.setIfInBounds_toArray, List.set_cons_zero, List.set_cons_succ]
    refine wpAnyH_take (i := 5) (oi := ⟨some 21, _, _, _, _, _⟩) (v := ?_) rfl (by kernel_rfl) (by kernel_rfl) (by kernel_rfl) (fun _ _ _ h => h) (Or.inl ⟨by rfl, ?_⟩) (by assumption) ?_
    rotate_left
    · (intro w hSw; (try dsimp only at hSw); go_simp; first | done | with_reducible rfl)
    try simp only [Act.put, List.setIfInBounds_toArray, List.set_cons_zero, List.set_cons_succ]
    refine wpAnyH_take (i := 6) (oi := ⟨some 22, _, _, _, _, _⟩) (v := ?_) rfl (by kernel_rfl) (by kernel_rfl) (by kernel_rfl) (fun _ _ _ h => h) (Or.inl ⟨by rfl, ?_⟩) (by assumption) ?_
    rotate_left
    · (intro w hSw; (try dsimp only at hSw); go_simp; first | done | with_reducible rfl)
    try simp only [Act.put, List.setIfInBounds_toArray, List.set_cons_zero, List.set_cons_succ]
    refine wpAnyH_ready (rs := [7]) (by kernel_rfl) (by simp) ?_
    refine AllReadyH.cons (o := ⟨some 23, _, _, _, _, _⟩) rfl (fun K hK => ?_) AllReadyH.nil
    go_simp
    refine (sector_any _ x hx).mono ?_
    rintro e w10 ⟨rfl, ho10, hb10⟩
    refine hK.out _ _ ((hb10.block w.heap.size (by exact hsz)).trans hbox) (fun hHeld => ?_)
    clear hK K
    try simp only [Act.put, List.setIfInBounds_toArray, List.set_cons_zero, List.set_cons_succ]
    have hD0 : Shelf W0.drew p S F := h0.only (G := fun _ => False) ((Only.refl _ W0).drew) (fun _ _ e => e)
    have hS10 : Shelf w10 p S F := hD0.only (G := fun _ => False) ⟨hb10.os, hb10.tape, hb10.output, hb10.size, fun k hk _ => hb10.block k hk⟩ (fun _ _ e => e)
    have x2 := beside_sector hD0 ho10
    refine wpAnyH_ready (rs := [8]) (by kernel_rfl) (by simp) ?_
    refine AllReadyH.cons (o := ⟨some 24, _, _, _, _, _⟩) rfl (fun K hK => ?_) AllReadyH.nil
    go_simp
    refine (write_st w10 p d n x hS10 hL hx x2.1 x2.2 ho hl i).mono ?_
    rintro e w11 ⟨y, S', rfl, hlf, hst⟩
    refine hK.out _ _ ((by obtain ⟨F2, _, hm2⟩ := hlf; exact (hm2.1.block w.heap.size (Nat.lt_of_lt_of_le hsz hb10.size) (fun hf => Nat.lt_irrefl _ (hF _ hf))).trans hHeld)) (fun hHeld => ?_)
    clear hK K
    try simp only [Act.put, List.setIfInBounds_toArray, List.set_cons_zero, List.set_cons_succ]
    refine wpAnyH_done (by kernel_rfl) ?_ _
    have hlf0 : Left F W0 p S' w11 := by
      obtain ⟨F', hs, hm⟩ := hlf
      have h1 : Moves F W0 F w10 := ⟨⟨hb10.os, hb10.tape, hb10.output, hb10.size, fun k hk _ => hb10.block k hk⟩, fun _ h => .inl h⟩
      exact ⟨F', hs, h1.trans hm⟩
    have hend := hback S' w11 hlf0
    clear hHeld hlf hlf0 hback hlb j1 j2 j4 x2 ho10 hb10
    go_wp2_with fail
    go_end0
    exact ⟨rfl, S', hend, hst⟩
  · go_enter Try.func24, Try.ntmps24
    go_wp2_with fail
    refine (flush_st _ p d n i x h0 hL ho hl).mono ?_
    rintro e w1 ⟨y, S', rfl, hlf, hst⟩
    go_wp2_with fail
    go_end0
    exact ⟨rfl, S', left_box _ hlf, hst⟩
  · go_enter Try.func24, Try.ntmps24
    go_wp2_with fail
    refine (kill_st _ p d n i x h0 ho hl).mono ?_
    rintro e w1 ⟨y, S', rfl, hlf, hst⟩
    go_wp2_with fail
    go_end0
    exact ⟨rfl, S', left_box _ hlf, hst⟩
  · go_enter Try.func24, Try.ntmps24
    go_wp2_with fail
    refine (corrupt_st _ p d n i x hx h0 ho hl).mono ?_
    rintro e w1 ⟨y, S', rfl, hlf, hst⟩
    go_wp2_with fail
    go_end0
    exact ⟨rfl, S', left_box _ hlf, hst⟩
end Go.Proofs.Ytbfipiojdddcbaa.Sh
