/-
  ShelfStops is true: the power goes behind just so many writes and flushes, and stays off until a crash; nothing is written then.
  Conditions: none.
-/
import Derived.Test.YtaejlkkdljpghaaIg
namespace Go.Proofs.Ytaejlkkdljpghaa.Sh.shelfStops
open Go.ChangeShapes Go.WideShapes Go.ChangeAt Go.RowKit Go.Maps

/-- What holds of the shelf at the head of a round. -/
structure Inv (S : Sf) (n : Int) (dn i : Nat) : Prop where
  len : S.disks.length = 2
  sec : S.sectors = 8
  small : ∀ k ∈ S.disks, k.waits.length ≤ i ∧ k.dead = false
  pow : (n < 0 ∧ S.off = false ∧ S.left = 0) ∨ (0 ≤ n ∧ (dn : Int) ≤ n ∧ (S.left : Int) = n - dn ∧ S.off = decide ((dn : Int) = n))
theorem mem_getD {l : List Dk} {d : Nat} (h : d < l.length) : l.getD d default ∈ l := by simp [List.getD, h]
theorem Inv.why {S : Sf} {n : Int} {dn i : Nat} (h : Inv S n dn i) {b : Bool} (hb : S.off = b) : Sh.why S 0 = if b = true then 3 else 0 := by
  have hd := (h.small _ (mem_getD (l := S.disks) (d := 0) (by rw [h.len]; decide))).2
  unfold Sh.why
  rw [hd, hb]
  cases b <;> rfl
theorem Inv.next {S : Sf} {n : Int} {dn i : Nat} (h : Inv S n dn i) : Inv S n dn (i + 1) := ⟨h.len, h.sec, fun k hk => ⟨by have := (h.small k hk).1; omega, (h.small k hk).2⟩, h.pow⟩
theorem Inv.done {S : Sf} {n : Int} {dn i : Nat} (h : Inv S n dn i) (ho : S.off = false) (k' : Dk) (cnt : Int) (hw : k'.waits.length ≤ i + 1) (hd : k'.dead = false) :
    Inv { disks := S.disks.set 0 k', sectors := S.sectors, count := cnt, off := offAt S.left S.off, left := S.left - 1 } n (dn + 1) (i + 1) := by
  refine ⟨by simpa using h.len, h.sec, fun k hk => ?_, ?_⟩
  · rcases List.mem_or_eq_of_mem_set hk with hk | rfl
    · exact ⟨by have := (h.small k hk).1; omega, (h.small k hk).2⟩
    · exact ⟨hw, hd⟩
  · rcases h.pow with ⟨h1, h2, h3⟩ | ⟨h1, h2, h3, h4⟩
    · left
      refine ⟨h1, ?_, ?_⟩
      · show offAt S.left S.off = false
        unfold offAt
        rw [if_pos h3]; exact ho
      · show S.left - 1 = 0
        omega
    · right
      have h5 : ¬ (dn : Int) = n := by
        intro e
        rw [ho] at h4
        simp [e] at h4
      refine ⟨h1, by omega, ?_, ?_⟩
      · show ((S.left - 1 : Nat) : Int) = _
        omega
      · show offAt S.left S.off = _
        unfold offAt
        rw [if_neg (by omega)]
        by_cases e : S.left = 1
        · simp [e]; omega
        · simp [e]; omega
theorem Inv.writes {S : Sf} {n : Int} {dn i : Nat} (h : Inv S n dn i) (ho : S.off = false) (b : Bs) : Inv (S.doWrite 0 1 b) n (dn + 1) (i + 1) := by
  have hm := h.small _ (mem_getD (l := S.disks) (d := 0) (by rw [h.len]; decide))
  exact h.done ho _ _ (by simp [Dk.write]; exact hm.1) hm.2
theorem Inv.flushes {S : Sf} {n : Int} {dn i : Nat} (h : Inv S n dn i) (ho : S.off = false) : Inv (S.doFlush 0) n (dn + 1) (i + 1) := by
  have hm := h.small _ (mem_getD (l := S.disks) (d := 0) (by rw [h.len]; decide))
  exact h.done ho _ _ (by simp [Dk.settle]) hm.2
theorem Inv.offIs {S : Sf} {n : Int} {dn i : Nat} (h : Inv S n dn i) : S.off = decide (0 ≤ n ∧ n ≤ (dn : Int)) := by
  rcases h.pow with ⟨h1, h2, _⟩ | ⟨h1, h2, _, h4⟩
  · rw [h2]; simp; omega
  · rw [h4]
    by_cases e : (dn : Int) = n
    · simp [e]; omega
    · simp [e]; omega
theorem Inv.start (n : Int) : Inv ((newSf 2 8).doStop n) n 0 0 := by
  have e : (newSf 2 8).doStop n = { newSf 2 8 with off := decide (n = 0), left := n.toNat } := rfl
  rw [e]
  refine ⟨rfl, rfl, fun k hk => ?_, ?_⟩
  · have : k ∈ List.replicate 2 (newDk 8) := hk
    rw [List.eq_of_mem_replicate this]
    exact ⟨by simp [newDk], rfl⟩
  · by_cases h : n < 0
    · exact .inl ⟨h, by simp; omega, by simp; omega⟩
    · refine .inr ⟨by omega, by omega, ?_, ?_⟩
      · show ((n.toNat : Nat) : Int) = _
        omega
      · show decide (n = 0) = _
        by_cases e : n = 0 <;> simp [e, eq_comm]
theorem crash_disk {S : Sf} {n : Int} {dn i : Nat} (h : Inv S n dn i) : 0 < (S.crash []).disks.length ∧ Sh.why (S.crash []) 0 = 0 ∧ ((S.crash []).disks.getD 0 default).waits.length < 1099511627776 := by
  have hl : (S.crash []).disks.length = S.disks.length := crashTo_length _ _ _
  have e : (S.crash []).disks.getD 0 default = (S.disks.getD 0 default).settle (keptOf [] 0) := by
    show (S.crashTo [] S.disks.length).disks.getD 0 default = _
    simp [Sf.crashTo, List.getD, h.len]
  have hd := (h.small _ (mem_getD (l := S.disks) (d := 0) (by rw [h.len]; decide))).2
  refine ⟨by rw [hl, h.len]; decide, ?_, by rw [e]; show (0 : Nat) < _; decide⟩
  unfold Sh.why
  rw [e]
  have e2 : (S.crash []).off = false := rfl
  have e3 : ((S.disks.getD 0 default).settle (keptOf [] 0)).dead = false := hd
  rw [e2, e3]
  rfl
def Bag (w wr : World) (p : Nat) (n : Int) (dn k : Nat) : Prop := ∃ S F, At w.heap.size w wr p S F ∧ Inv S n dn k
theorem off_in {w wr : World} {p : Nat} {S : Sf} {F : Nat → Prop} (h : At w.heap.size w wr p S F) {b : Bool} (e : S.off = b) : Calls Try.prog 26 #[.pointer (some ⟨p, 0, none⟩)] wr fun e w'' => e = .returned (.bool b) ∧ wr = w'' := by
  obtain ⟨D, gs, s⟩ := h.shelf
  subst e
  exact off_any s
theorem stop_off {w wr : World} {p : Nat} {S : Sf} {F : Nat → Prop} (m : Int) (h1 : -9223372036854775808 ≤ m) (h2 : m ≤ 9223372036854775807) (h : At w.heap.size w wr p S F) (e : S.off = true) : Calls Try.prog 23 #[.pointer (some ⟨p, 0, none⟩), .int .i64 m] wr fun e w'' => e = .returned (.tuple #[]) ∧ At w.heap.size w w'' p S F := by
  refine (stop_any wr p m h1 h2 h.shelf).mono ?_
  rintro e' w' ⟨rfl, hs, ho⟩
  have e2 : S.doStop m = S := by unfold Sf.doStop; rw [if_pos e]
  rw [e2] at hs
  exact ⟨rfl, h.stays hs ho⟩
theorem write_as (w : World) (p d n : Nat) (y : Int) {A : Option Addr} {c : Nat} {S : Sf} {F : Nat → Prop} (h : Shelf w p S F) (hd : d < S.disks.length) (hn : n < S.sectors) (hw : why S d = y) (hy : y ≠ 0) :
    Calls Try.prog 14 #[.pointer (some ⟨p, 0, none⟩), .int .i64 d, .int .i64 n, .slice A 128 c] w fun e w' => e = .returned (.int .i64 y) ∧ w = w' := by
  subst hw; exact write_why w p d n h hd hn hy
theorem flush_as (w : World) (p d : Nat) (y : Int) {S : Sf} {F : Nat → Prop} (h : Shelf w p S F) (hd : d < S.disks.length) (hw : why S d = y) (hy : y ≠ 0) :
    Calls Try.prog 16 #[.pointer (some ⟨p, 0, none⟩), .int .i64 d] w fun e w' => e = .returned (.int .i64 y) ∧ w = w' := by
  subst hw; exact flush_why w p d h hd hy

set_option maxRecDepth 100000 in
set_option maxHeartbeats 8000000 in
theorem walk {w : World} (n : Int) (hn1 : -9223372036854775808 ≤ n) (hn2 : n ≤ 9223372036854775807) (A : Option Addr) (nn c : Nat) (f : Nat → OpV) (hl : OpsAre w A nn f) (m : Int) (hm1 : -9223372036854775808 ≤ m) (hm2 : m ≤ 9223372036854775807) :
    Calls Try.prog 7 #[.int .i64 n, .slice A nn c, .int .i64 m] w fun e w' => e = .returned (.bool true) ∧ Below w.heap.size w w' := by
  have hnn := hl.1
  have HL := Lib.hid hl
  clear hl
  go_enter Try.func7, Try.ntmps7
  go_wp2_with fail
  refine (new_ok 2 8 w (by decide) (by decide) (by decide) (by decide)).mono ?_
  rintro e w1 ⟨p, F1, rfl, hS, hF, hb⟩
  have a1 : At w.heap.size w w1 p (newSf 2 8) F1 := ⟨hS, hF, hb, hb.size⟩
  clear hS hF hb
  go_wp2_with fail
  refine (lives_true w1).mono ?_
  rintro e w2 ⟨rfl, hb⟩
  have a2 := a1.grown hb
  clear a1 hb
  go_wp2_with fail
  refine (stop_any w2 p n hn1 hn2 a2.shelf).mono ?_
  rintro e w3 ⟨rfl, hs, ho⟩
  have B0 := Lib.hid (show Bag w w3 p n 0 0 from ⟨_, _, a2.stays hs ho, Inv.start n⟩)
  clear a2 hs ho
  go_wp2_with fail
  go_loopw [9, 10] (fun s9 s10 wr => ∃ k dn : Nat, k ≤ nn ∧ k ≤ 1000 ∧ dn ≤ k ∧ s9 = .int .i64 dn ∧ s10 = .int .i64 k ∧ Hid (Bag w wr p n dn k)) (fun _ i _ => 1000 - (intOf i).toNat)
  case atStart => exact ⟨0, 0, Nat.zero_le _, Nat.zero_le _, Nat.zero_le _, rfl, rfl, B0⟩
  case round =>
    obtain ⟨k, dn, hk, hk2, hdk, rfl, rfl, hbag⟩ := hrel
    obtain ⟨S, F, a, hI⟩ := hbag.out
    clear hbag B0
    by_cases hlt : k < nn ∧ k < 1000
    · obtain ⟨hlt, hlt2⟩ := hlt
      obtain ⟨b, off, rfl, hbl, hop⟩ := HL.out.2 (by omega)
      have hop := hop k hlt
      have d0 := (a.bel.cell (p := ⟨b, off + k * 6, none⟩) hbl).trans hop.c0
      have D0 := Lib.hid hop.c0
      have d4 := (a.bel.cell (p := ⟨b, off + k * 6 + 4, none⟩) hbl).trans hop.c4
      have hx := hop.b4
      have ho := hI.offIs
      clear hop
      generalize (f k).x = x at *
      generalize (f k).kind = kind at *
      have HI := Lib.hid hI
      have HA := Lib.hid a
      clear hI a
      by_cases hk2 : kind = 2
      · subst hk2
        by_cases pn : n < 0
        · have hn0 : decide (0 ≤ n) = false := by simp; omega
          have hoff := Lib.hid (show S.off = false by rw [ho]; simp; omega)
          clear ho
          go_wp2_with fail
          refine (sector_any wr x hx).mono ?_
          rintro e w2 ⟨rfl, ho2, hb⟩
          have a1 := HA.out.grown hb
          have x1 := beside_sector HA.out.shelf ho2
          clear ho2 hb
          go_wp2_with fail
          refine (write_done w2 p 0 1 (secOf x) a1.shelf (by rw [HI.out.len]; decide) (by rw [HI.out.sec]; decide) (HI.out.why hoff.out) (by have := (HI.out.small _ (mem_getD (l := S.disks) (d := 0) (by rw [HI.out.len]; decide))).1; omega) (secOf_sec hx) x1.1 x1.2).mono ?_
          rintro e w3 ⟨rfl, hl⟩
          obtain ⟨F3, a3, _⟩ := a1.left hl
          clear a1 x1 hl
          have g0 := (a3.bel.cell (p := ⟨b, off + k * 6, none⟩) hbl).trans D0.out
          have i2 := Lib.hid (HI.out.writes hoff.out (secOf x))
          have a2 := Lib.hid a3
          clear a3
          have o2 := Lib.hid (show _ = false from i2.out.offIs.trans (by simp; omega))
          generalize hSS : (S.doWrite 0 1 (secOf x)) = S2 at *
          clear hSS
          go_wp2_with fail
          refine (off_in a2.out o2.out).mono ?_
          rintro e w9 ⟨rfl, rfl⟩
          have a11 := a2
          go_wp2_with fail
          refine (off_in a11.out o2.out).mono ?_
          rintro e w12 ⟨rfl, rfl⟩
          go_wp2_with fail
          go_roundw
          case rel => exact ⟨k + 1, dn + 1, by omega, by omega, by omega, by go_num, by go_num, Lib.hid ⟨_, _, a11.out, i2.out⟩⟩
          case measure => simp [intOf]; omega
        · by_cases pd : n ≤ (dn : Int)
          · have hn0 : 0 ≤ n := by omega
            have hn3 : n ≤ (dn : Int) := by omega
            have hoff := Lib.hid (show S.off = true by rw [ho]; simp; omega)
            clear ho
            go_wp2_with fail
            refine (sector_any wr x hx).mono ?_
            rintro e w2 ⟨rfl, ho2, hb⟩
            have a2 := Lib.hid (HA.out.grown hb)
            clear ho2 hb
            have g0 := (a2.out.bel.cell (p := ⟨b, off + k * 6, none⟩) hbl).trans D0.out
            go_wp2_with fail
            refine (write_as w2 p 0 1 3 a2.out.shelf (by rw [HI.out.len]; decide) (by rw [HI.out.sec]; decide) (HI.out.why hoff.out) (by decide)).mono ?_
            rintro e w3 ⟨rfl, rfl⟩
            have i2 := Lib.hid HI.out.next
            have o2 := hoff
            go_wp2_with fail
            refine (off_in a2.out o2.out).mono ?_
            rintro e w9 ⟨rfl, rfl⟩
            go_wp2_with fail
            refine (stop_off m hm1 hm2 a2.out o2.out).mono ?_
            rintro e w10 ⟨rfl, a10⟩
            have a11 := Lib.hid a10
            clear a10
            go_wp2_with fail
            refine (off_in a11.out o2.out).mono ?_
            rintro e w12 ⟨rfl, rfl⟩
            go_wp2_with fail
            go_roundw
            case rel => exact ⟨k + 1, dn, by omega, by omega, by omega, by go_num, by go_num, Lib.hid ⟨_, _, a11.out, i2.out⟩⟩
            case measure => simp [intOf]; omega
          · by_cases pe : n ≤ (dn : Int) + 1
            · have hn0 : 0 ≤ n := by omega
              have hn3 : decide (n ≤ (dn : Int)) = false := by simp; omega
              have hn4 : n ≤ (dn : Int) + 1 := by omega
              have hoff := Lib.hid (show S.off = false by rw [ho]; simp; omega)
              clear ho
              go_wp2_with fail
              refine (sector_any wr x hx).mono ?_
              rintro e w2 ⟨rfl, ho2, hb⟩
              have a1 := HA.out.grown hb
              have x1 := beside_sector HA.out.shelf ho2
              clear ho2 hb
              go_wp2_with fail
              refine (write_done w2 p 0 1 (secOf x) a1.shelf (by rw [HI.out.len]; decide) (by rw [HI.out.sec]; decide) (HI.out.why hoff.out) (by have := (HI.out.small _ (mem_getD (l := S.disks) (d := 0) (by rw [HI.out.len]; decide))).1; omega) (secOf_sec hx) x1.1 x1.2).mono ?_
              rintro e w3 ⟨rfl, hl⟩
              obtain ⟨F3, a3, _⟩ := a1.left hl
              clear a1 x1 hl
              have g0 := (a3.bel.cell (p := ⟨b, off + k * 6, none⟩) hbl).trans D0.out
              have i2 := Lib.hid (HI.out.writes hoff.out (secOf x))
              have a2 := Lib.hid a3
              clear a3
              have o2 := Lib.hid (show _ = true from i2.out.offIs.trans (by simp; omega))
              generalize hSS : (S.doWrite 0 1 (secOf x)) = S2 at *
              clear hSS
              go_wp2_with fail
              refine (off_in a2.out o2.out).mono ?_
              rintro e w9 ⟨rfl, rfl⟩
              go_wp2_with fail
              refine (stop_off m hm1 hm2 a2.out o2.out).mono ?_
              rintro e w10 ⟨rfl, a10⟩
              have a11 := Lib.hid a10
              clear a10
              go_wp2_with fail
              refine (off_in a11.out o2.out).mono ?_
              rintro e w12 ⟨rfl, rfl⟩
              go_wp2_with fail
              go_roundw
              case rel => exact ⟨k + 1, dn + 1, by omega, by omega, by omega, by go_num, by go_num, Lib.hid ⟨_, _, a11.out, i2.out⟩⟩
              case measure => simp [intOf]; omega
            · have hn0 : 0 ≤ n := by omega
              have hn3 : decide (n ≤ (dn : Int)) = false := by simp; omega
              have hn4 : decide (n ≤ (dn : Int) + 1) = false := by simp; omega
              have hoff := Lib.hid (show S.off = false by rw [ho]; simp; omega)
              clear ho
              go_wp2_with fail
              refine (sector_any wr x hx).mono ?_
              rintro e w2 ⟨rfl, ho2, hb⟩
              have a1 := HA.out.grown hb
              have x1 := beside_sector HA.out.shelf ho2
              clear ho2 hb
              go_wp2_with fail
              refine (write_done w2 p 0 1 (secOf x) a1.shelf (by rw [HI.out.len]; decide) (by rw [HI.out.sec]; decide) (HI.out.why hoff.out) (by have := (HI.out.small _ (mem_getD (l := S.disks) (d := 0) (by rw [HI.out.len]; decide))).1; omega) (secOf_sec hx) x1.1 x1.2).mono ?_
              rintro e w3 ⟨rfl, hl⟩
              obtain ⟨F3, a3, _⟩ := a1.left hl
              clear a1 x1 hl
              have g0 := (a3.bel.cell (p := ⟨b, off + k * 6, none⟩) hbl).trans D0.out
              have i2 := Lib.hid (HI.out.writes hoff.out (secOf x))
              have a2 := Lib.hid a3
              clear a3
              have o2 := Lib.hid (show _ = false from i2.out.offIs.trans (by simp; omega))
              generalize hSS : (S.doWrite 0 1 (secOf x)) = S2 at *
              clear hSS
              go_wp2_with fail
              refine (off_in a2.out o2.out).mono ?_
              rintro e w9 ⟨rfl, rfl⟩
              have a11 := a2
              go_wp2_with fail
              refine (off_in a11.out o2.out).mono ?_
              rintro e w12 ⟨rfl, rfl⟩
              go_wp2_with fail
              go_roundw
              case rel => exact ⟨k + 1, dn + 1, by omega, by omega, by omega, by go_num, by go_num, Lib.hid ⟨_, _, a11.out, i2.out⟩⟩
              case measure => simp [intOf]; omega
      · by_cases hk3 : kind = 3
        · subst hk3
          by_cases pn : n < 0
          · have hn0 : decide (0 ≤ n) = false := by simp; omega
            have hoff := Lib.hid (show S.off = false by rw [ho]; simp; omega)
            clear ho
            go_wp2_with fail
            refine (flush_done wr p 0 HA.out.shelf (by rw [HI.out.len]; decide) (HI.out.why hoff.out) (by have := (HI.out.small _ (mem_getD (l := S.disks) (d := 0) (by rw [HI.out.len]; decide))).1; omega)).mono ?_
            rintro e w3 ⟨rfl, hl⟩
            obtain ⟨F3, a3, _⟩ := HA.out.left hl
            clear hl
            have i2 := Lib.hid (HI.out.flushes hoff.out)
            have a2 := Lib.hid a3
            clear a3
            have o2 := Lib.hid (show _ = false from i2.out.offIs.trans (by simp; omega))
            generalize hSS : (S.doFlush 0) = S2 at *
            clear hSS
            go_wp2_with fail
            refine (off_in a2.out o2.out).mono ?_
            rintro e w9 ⟨rfl, rfl⟩
            have a11 := a2
            go_wp2_with fail
            refine (off_in a11.out o2.out).mono ?_
            rintro e w12 ⟨rfl, rfl⟩
            go_wp2_with fail
            go_roundw
            case rel => exact ⟨k + 1, dn + 1, by omega, by omega, by omega, by go_num, by go_num, Lib.hid ⟨_, _, a11.out, i2.out⟩⟩
            case measure => simp [intOf]; omega
          · by_cases pd : n ≤ (dn : Int)
            · have hn0 : 0 ≤ n := by omega
              have hn3 : n ≤ (dn : Int) := by omega
              have hoff := Lib.hid (show S.off = true by rw [ho]; simp; omega)
              clear ho
              go_wp2_with fail
              refine (flush_as wr p 0 3 HA.out.shelf (by rw [HI.out.len]; decide) (HI.out.why hoff.out) (by decide)).mono ?_
              rintro e w3 ⟨rfl, rfl⟩
              have a2 := HA
              have i2 := Lib.hid HI.out.next
              have o2 := hoff
              go_wp2_with fail
              refine (off_in a2.out o2.out).mono ?_
              rintro e w9 ⟨rfl, rfl⟩
              go_wp2_with fail
              refine (stop_off m hm1 hm2 a2.out o2.out).mono ?_
              rintro e w10 ⟨rfl, a10⟩
              have a11 := Lib.hid a10
              clear a10
              go_wp2_with fail
              refine (off_in a11.out o2.out).mono ?_
              rintro e w12 ⟨rfl, rfl⟩
              go_wp2_with fail
              go_roundw
              case rel => exact ⟨k + 1, dn, by omega, by omega, by omega, by go_num, by go_num, Lib.hid ⟨_, _, a11.out, i2.out⟩⟩
              case measure => simp [intOf]; omega
            · by_cases pe : n ≤ (dn : Int) + 1
              · have hn0 : 0 ≤ n := by omega
                have hn3 : decide (n ≤ (dn : Int)) = false := by simp; omega
                have hn4 : n ≤ (dn : Int) + 1 := by omega
                have hoff := Lib.hid (show S.off = false by rw [ho]; simp; omega)
                clear ho
                go_wp2_with fail
                refine (flush_done wr p 0 HA.out.shelf (by rw [HI.out.len]; decide) (HI.out.why hoff.out) (by have := (HI.out.small _ (mem_getD (l := S.disks) (d := 0) (by rw [HI.out.len]; decide))).1; omega)).mono ?_
                rintro e w3 ⟨rfl, hl⟩
                obtain ⟨F3, a3, _⟩ := HA.out.left hl
                clear hl
                have i2 := Lib.hid (HI.out.flushes hoff.out)
                have a2 := Lib.hid a3
                clear a3
                have o2 := Lib.hid (show _ = true from i2.out.offIs.trans (by simp; omega))
                generalize hSS : (S.doFlush 0) = S2 at *
                clear hSS
                go_wp2_with fail
                refine (off_in a2.out o2.out).mono ?_
                rintro e w9 ⟨rfl, rfl⟩
                go_wp2_with fail
                refine (stop_off m hm1 hm2 a2.out o2.out).mono ?_
                rintro e w10 ⟨rfl, a10⟩
                have a11 := Lib.hid a10
                clear a10
                go_wp2_with fail
                refine (off_in a11.out o2.out).mono ?_
                rintro e w12 ⟨rfl, rfl⟩
                go_wp2_with fail
                go_roundw
                case rel => exact ⟨k + 1, dn + 1, by omega, by omega, by omega, by go_num, by go_num, Lib.hid ⟨_, _, a11.out, i2.out⟩⟩
                case measure => simp [intOf]; omega
              · have hn0 : 0 ≤ n := by omega
                have hn3 : decide (n ≤ (dn : Int)) = false := by simp; omega
                have hn4 : decide (n ≤ (dn : Int) + 1) = false := by simp; omega
                have hoff := Lib.hid (show S.off = false by rw [ho]; simp; omega)
                clear ho
                go_wp2_with fail
                refine (flush_done wr p 0 HA.out.shelf (by rw [HI.out.len]; decide) (HI.out.why hoff.out) (by have := (HI.out.small _ (mem_getD (l := S.disks) (d := 0) (by rw [HI.out.len]; decide))).1; omega)).mono ?_
                rintro e w3 ⟨rfl, hl⟩
                obtain ⟨F3, a3, _⟩ := HA.out.left hl
                clear hl
                have i2 := Lib.hid (HI.out.flushes hoff.out)
                have a2 := Lib.hid a3
                clear a3
                have o2 := Lib.hid (show _ = false from i2.out.offIs.trans (by simp; omega))
                generalize hSS : (S.doFlush 0) = S2 at *
                clear hSS
                go_wp2_with fail
                refine (off_in a2.out o2.out).mono ?_
                rintro e w9 ⟨rfl, rfl⟩
                have a11 := a2
                go_wp2_with fail
                refine (off_in a11.out o2.out).mono ?_
                rintro e w12 ⟨rfl, rfl⟩
                go_wp2_with fail
                go_roundw
                case rel => exact ⟨k + 1, dn + 1, by omega, by omega, by omega, by go_num, by go_num, Lib.hid ⟨_, _, a11.out, i2.out⟩⟩
                case measure => simp [intOf]; omega
        · have hq2 : (kind == 2) = false := by rw [beq_eq_false_iff_ne]; exact hk2
          have hq3 : (kind == 3) = false := by rw [beq_eq_false_iff_ne]; exact hk3
          clear hk2 hk3
          by_cases pn : n < 0
          · have hn0 : decide (0 ≤ n) = false := by simp; omega
            have hoff := Lib.hid (show S.off = false by rw [ho]; simp; omega)
            clear ho
            have a2 := HA
            have i2 := Lib.hid HI.out.next
            have o2 := hoff
            go_wp2_with fail
            refine (off_in a2.out o2.out).mono ?_
            rintro e w9 ⟨rfl, rfl⟩
            have a11 := a2
            go_wp2_with fail
            refine (off_in a11.out o2.out).mono ?_
            rintro e w12 ⟨rfl, rfl⟩
            go_wp2_with fail
            go_roundw
            case rel => exact ⟨k + 1, dn, by omega, by omega, by omega, by go_num, by go_num, Lib.hid ⟨_, _, a11.out, i2.out⟩⟩
            case measure => simp [intOf]; omega
          · by_cases pd : n ≤ (dn : Int)
            · have hn0 : 0 ≤ n := by omega
              have hn3 : n ≤ (dn : Int) := by omega
              have hoff := Lib.hid (show S.off = true by rw [ho]; simp; omega)
              clear ho
              have a2 := HA
              have i2 := Lib.hid HI.out.next
              have o2 := hoff
              go_wp2_with fail
              refine (off_in a2.out o2.out).mono ?_
              rintro e w9 ⟨rfl, rfl⟩
              go_wp2_with fail
              refine (stop_off m hm1 hm2 a2.out o2.out).mono ?_
              rintro e w10 ⟨rfl, a10⟩
              have a11 := Lib.hid a10
              clear a10
              go_wp2_with fail
              refine (off_in a11.out o2.out).mono ?_
              rintro e w12 ⟨rfl, rfl⟩
              go_wp2_with fail
              go_roundw
              case rel => exact ⟨k + 1, dn, by omega, by omega, by omega, by go_num, by go_num, Lib.hid ⟨_, _, a11.out, i2.out⟩⟩
              case measure => simp [intOf]; omega
            · have hn0 : 0 ≤ n := by omega
              have hn3 : decide (n ≤ (dn : Int)) = false := by simp; omega
              have hoff := Lib.hid (show S.off = false by rw [ho]; simp; omega)
              clear ho
              have a2 := HA
              have i2 := Lib.hid HI.out.next
              have o2 := hoff
              go_wp2_with fail
              refine (off_in a2.out o2.out).mono ?_
              rintro e w9 ⟨rfl, rfl⟩
              have a11 := a2
              go_wp2_with fail
              refine (off_in a11.out o2.out).mono ?_
              rintro e w12 ⟨rfl, rfl⟩
              go_wp2_with fail
              go_roundw
              case rel => exact ⟨k + 1, dn, by omega, by omega, by omega, by go_num, by go_num, Lib.hid ⟨_, _, a11.out, i2.out⟩⟩
              case measure => simp [intOf]; omega
    · have HI := Lib.hid hI
      have HA := Lib.hid a
      clear hI a
      have hend : ∀ (b : Bool), Hid (Bag w wr p n dn k) := fun _ => Lib.hid ⟨S, F, HA.out, HI.out⟩
      by_cases h1 : k < nn
      · have h2 : 1000 ≤ k := by omega
        have hq : decide ((k : Int) < 1000) = false := by simp; omega
        clear hlt
        go_wp2_with fail
        refine (crash_any wr p (fun _ => False) none 0 0 [] HA.out.shelf ⟨rfl, fun h => absurd h (by decide)⟩ (fun _ h => h.elim) (by decide) (fun k' hk' => by have := (HI.out.small k' hk').1; omega)).mono ?_
        rintro e w4 ⟨rfl, hl⟩
        obtain ⟨F4, a4, _⟩ := HA.out.left hl
        clear hl
        go_wp2_with fail
        refine (off_in a4 (b := false) rfl).mono ?_
        rintro e w5 ⟨rfl, rfl⟩
        go_wp2_with fail
        refine (sector_1 w4).mono ?_
        rintro e w6 ⟨rfl, ho, hb⟩
        have a6 := a4.grown hb
        have x6 := beside_sector a4.shelf ho
        have hc := crash_disk HI.out
        clear ho hb a4
        go_wp2_with fail
        refine (write_done w6 p 0 1 (secOf 1) a6.shelf hc.1 (by show 1 < S.sectors; rw [HI.out.sec]; decide) hc.2.1 hc.2.2 (secOf_sec (by decide)) x6.1 x6.2).mono ?_
        rintro e w7 ⟨rfl, hl⟩
        obtain ⟨F7, a7, _⟩ := a6.left hl
        have hbel := a7.bel
        clear a6 x6 hl a7 hc
        go_wp2_with fail
        go_ret
        exact ⟨rfl, hbel⟩
      · have hq : decide ((k : Int) < (nn : Int)) = false := by simp; omega
        clear hlt
        go_wp2_with fail
        refine (crash_any wr p (fun _ => False) none 0 0 [] HA.out.shelf ⟨rfl, fun h => absurd h (by decide)⟩ (fun _ h => h.elim) (by decide) (fun k' hk' => by have := (HI.out.small k' hk').1; omega)).mono ?_
        rintro e w4 ⟨rfl, hl⟩
        obtain ⟨F4, a4, _⟩ := HA.out.left hl
        clear hl
        go_wp2_with fail
        refine (off_in a4 (b := false) rfl).mono ?_
        rintro e w5 ⟨rfl, rfl⟩
        go_wp2_with fail
        refine (sector_1 w4).mono ?_
        rintro e w6 ⟨rfl, ho, hb⟩
        have a6 := a4.grown hb
        have x6 := beside_sector a4.shelf ho
        have hc := crash_disk HI.out
        clear ho hb a4
        go_wp2_with fail
        refine (write_done w6 p 0 1 (secOf 1) a6.shelf hc.1 (by show 1 < S.sectors; rw [HI.out.sec]; decide) hc.2.1 hc.2.2 (secOf_sec (by decide)) x6.1 x6.2).mono ?_
        rintro e w7 ⟨rfl, hl⟩
        obtain ⟨F7, a7, _⟩ := a6.left hl
        have hbel := a7.bel
        clear a6 x6 hl a7 hc
        go_wp2_with fail
        go_ret
        exact ⟨rfl, hbel⟩

set_option maxRecDepth 100000 in
/-- WHAT THE WALK GIVES, FOR EVERY ARGUMENT AND EVERY WORLD THAT HOLDS THE TABLES. -/
theorem contract (H : Type) (enc : TypeId × Value → H) (W : World) (base : Nat) (args : Array Value) (ds gs : List (DataW H)) (before : List MemPlace)
    (hval : ∀ (j : Nat) t v, Try.f7.params[j]? = some t → args[j]? = some v → Value.okWide Try.prog W .any base t v)
    (hW : DataW.Whole enc Try.prog Try.f7.params.toList Rows.shelfStopsSpec.vars false W args.toList ds gs before)
    (hsz : (DataW.weightsEach Try.prog (Try.f7.params.toList ++ (OpenSpec.ofChange Rows.shelfStopsSpec).bare.plain.varTypes Try.prog) (ds ++ gs)).all (· ≤ reachBytes) = true) (_hL : laidMetH Try.prog laidBoth W) :
    Calls Try.prog 7 args W fun e W' => ∃ v, e = .returned v ∧ Rows.shelfStopsSpec.post enc Try.prog Try.f7 false true false false W args v W' := by
  have hW' := hW
  obtain ⟨p, q, hA0, hV, rfl, hfz, hnd⟩ := hW
  have hA : DataW.TrodAll enc Try.prog W 0 (fun _ => true) true Try.f7.params.toList args.toList ds p := hA0
  have hsz2 : (DataW.weightsEach Try.prog (Try.f7.params.toList ++ []) (ds ++ gs)).all (· ≤ reachBytes) = true := hsz
  rw [Try.params7] at hA hval hsz2
  obtain ⟨v0, vs0, d0, ds0, p0, q0, hargs, rfl, rfl, h0, r0⟩ := trodAll_cons hA
  obtain ⟨v1, vs1, d1, ds1, p1, q1, rfl, rfl, rfl, h1, r1⟩ := trodAll_cons r0
  obtain ⟨v2, vs2, d2, ds2, p2, q2, rfl, rfl, rfl, h2, r2⟩ := trodAll_cons r1
  obtain ⟨rfl, rfl, rfl⟩ := trodAll_nil r2
  obtain rfl : args = #[v0, v1, v2] := by cases args; simp_all
  obtain ⟨rfl, rfl⟩ := trodVars_none hV
  obtain ⟨a0, rfl, rfl, rfl, w0⟩ := open_int Try.underlying3 (hval 0 3 v0 rfl rfl) h0
  have bd0 := bounds_i64 w0
  obtain ⟨A1, n1, c1, rfl⟩ := okWide_slice Try.underlying22 (hval 1 22 v1 rfl rfl)
  have k1 := h1
  have lt1 : ∀ x ∈ p1, x.block < W.heap.size := by obtain ⟨m, hm⟩ := k1; exact DataW.trod_lt m _ _ _ hm
  obtain ⟨f1, hl1⟩ : ∃ f, OpsAre W A1 n1 f := by obtain ⟨fuel, hf⟩ := h1; exact ops_in (by simpa [Value.cells] using hf)
  obtain ⟨a2, rfl, rfl, rfl, w2⟩ := open_int Try.underlying3 (hval 2 3 v2 rfl rfl) h2
  have bd2 := bounds_i64 w2
  refine (walk a0 bd0.1 bd0.2 A1 n1 c1 f1 hl1 a2 bd2.1 bd2.2).mono fun e W' ⟨he, bel⟩ => ?_
  subst he
  exact ⟨_, rfl, _, _, _, [], _, [], hW', trodAll_mk1 (shut_bool Try.underlying4 _), (trodAll_cons_mk (shut_int Try.underlying3 w0) (trodAll_cons_mk (Below.trod laidOut (by kernel_rfl) (of_decide_eq_true (by kernel_rfl)) k1 bel lt1) (trodAll_cons_mk (shut_int Try.underlying3 w2) trodAll_mk0))), rfl, bel.frame _, fun h => by cases h⟩

theorem laid_met (os : Os) : laidMetH Try.prog laidBoth ((laidWorld os).forCall (fun _ _ => 0) ⟨#[], #[.int .i64 0, .slice none 0 0, .int .i64 0], []⟩).memory :=
  laidMetH_of_parts3 (fuel := 8) (laidMet_of_run' 8 (by kernel_rfl) (by kernel_rfl)) (by kernel_rfl) (by kernel_rfl)
theorem reads (os : Os) {H : Type} (enc : TypeId × Value → H) : ∃ places, DataW.whole enc Try.prog ((laidWorld os).forCall (fun _ _ => 0) ⟨#[], #[.int .i64 0, .slice none 0 0, .int .i64 0], []⟩).memory Try.f7.params.toList Rows.shelfStopsSpec.vars false (#[.int .i64 0, .slice none 0 0, .int .i64 0] : Array Value).toList 8 = some ([.lit (.int .i64 0), .nil, .lit (.int .i64 0)], [], places) :=
  ⟨[], by kernel_rfl⟩
set_option maxRecDepth 100000 in
theorem lifted (os : Os) (started : os.Started) (H : Type) (enc : TypeId × Value → H) (F : Stop.Interp) :
    ReturnsInHanded {} Try.checked os 7 .any ((OpenSpec.ofChange Rows.shelfStopsSpec).preRow enc Try.prog Try.f7 Rows.shelfStopsRow.domain false Rows.shelfStopsRow.laid) (((OpenSpec.ofChange Rows.shelfStopsSpec).at F).post enc Try.prog Try.f7 false true false false) := by
  obtain ⟨places, hx⟩ := reads os enc
  refine returnsInHanded_of_row (C := Try.checked) (s := (OpenSpec.ofChange Rows.shelfStopsSpec)) own started (by kernel_rfl) Try.func7
    (witness_row_at (enc := enc) (C := Try.checked) false (laidWorld os) #[.int .i64 0, .slice none 0 0, .int .i64 0] rfl (by kernel_rfl) (by kernel_rfl) (by kernel_rfl)
      (OpenSpec.preRow_of_cond 8 hx (by kernel_rfl) (fun k hk => by cases hk) (by kernel_rfl) (laid_met os))) ?_
  intro W base args ds gs before hval hW _ hcond hsz hL _ _
  exact contract H enc W base args ds gs before hval hW hsz hL
theorem said : Rows.ShelfStopsSaid :=
  OpenClaim.holds_of_cond 7 Try.f7 rfl rfl rfl rfl rfl rfl rfl ⟨rfl, rfl, rfl, rfl, rfl⟩ rfl rfl rfl rfl rfl (by kernel_rfl) Try.func7 (by kernel_rfl)
    (of_decide_eq_true (by kernel_rfl)) (by unfold Func.isWrapper; first | (rw [if_pos (by decide +kernel)]; kernel_rfl) | (rw [if_neg (by decide +kernel)]; exact ⟨rfl, rfl⟩))
    (fun os started H enc _ F => by rw [OpenClaim.pre_eq_preRow]; exact lifted os started H enc F)
end Go.Proofs.Ytaejlkkdljpghaa.Sh.shelfStops
