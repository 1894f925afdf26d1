/-
  ShelfSure is true: what was flushed is there behind any crash, if it was not written again.
  Conditions: none.
-/
import Derived.Test.YtaejlkkdljpghaaIi
namespace Go.Proofs.Ytaejlkkdljpghaa.Sh.shelfSure
open Go.ChangeShapes Go.WideShapes Go.ChangeAt Go.RowKit Go.Maps

structure Inv (S : Sf) (n : Nat) (b : Bs) (i : Nat) : Prop where
  len : S.disks.length = 3
  sec : S.sectors = 8
  small : ∀ k ∈ S.disks, k.waits.length ≤ i ∧ k.dead = false
  sure : (S.disks.getD 2 default).sure[n]? = some b
  none : ∀ x ∈ (S.disks.getD 2 default).waits, x.1 ≠ n
theorem Inv.next {S : Sf} {n i : Nat} {b : Bs} (h : Inv S n b i) : Inv S n b (i + 1) := ⟨h.len, h.sec, fun k hk => ⟨by have := (h.small k hk).1; omega, (h.small k hk).2⟩, h.sure, h.none⟩
theorem Inv.lt {S : Sf} {n i : Nat} {b : Bs} (h : Inv S n b i) (hi : i ≤ 2000) : ∀ k ∈ S.disks, k.waits.length < 1099511627776 := fun k hk => by have := (h.small k hk).1; omega
theorem Inv.wrote {S S' : Sf} {n i : Nat} {b l : Bs} {d m y : Int} (h : Inv S n b i) (hne : d ≠ 2 ∨ m ≠ n) (hw : Wrote S d m l y S') : Inv S' n b (i + 1) := by
  rcases hw with ⟨rfl, _⟩ | ⟨d, m, rfl, rfl, hd, hm, _, _, rfl⟩
  · exact h.next
  · have hmem := h.small _ (getD_mem hd)
    refine ⟨by show (S.disks.set d _).length = 3; simpa using h.len, h.sec, fun k hk => ?_, ?_, ?_⟩
    · rcases List.mem_or_eq_of_mem_set hk with hk | rfl
      · exact ⟨by have := (h.small k hk).1; omega, (h.small k hk).2⟩
      · exact ⟨by simp [Dk.write]; exact hmem.1, hmem.2⟩
    · show ((S.disks.set d _).getD 2 default).sure[n]? = some b
      rw [getD_set _ _ _ _ hd]
      split
      · rename_i e; subst e; exact h.sure
      · exact h.sure
    · show ∀ x ∈ ((S.disks.set d _).getD 2 default).waits, x.1 ≠ n
      rw [getD_set _ _ _ _ hd]
      split
      · rename_i e; subst e
        intro x hx
        have hx : x ∈ (S.disks.getD 2 default).waits ++ [(m, l)] := hx
        rcases List.mem_append.1 hx with hx | hx
        · exact h.none x hx
        · simp at hx; subst hx
          rcases hne with h0 | h0
          · exact absurd rfl h0
          · intro e; have e : m = n := e; exact h0 (by rw [e])
      · exact h.none
theorem Inv.flushed {S S' : Sf} {n i : Nat} {b : Bs} {d y : Int} (h : Inv S n b i) (hw : Flushed S d y S') : Inv S' n b (i + 1) := by
  rcases hw with ⟨rfl, _⟩ | ⟨d, rfl, hd, _, _, rfl⟩
  · exact h.next
  · have hmem := h.small _ (getD_mem hd)
    refine ⟨by show (S.disks.set d _).length = 3; simpa using h.len, h.sec, fun k hk => ?_, ?_, ?_⟩
    · rcases List.mem_or_eq_of_mem_set hk with hk | rfl
      · exact ⟨by have := (h.small k hk).1; omega, (h.small k hk).2⟩
      · exact ⟨by simp [Dk.settle], hmem.2⟩
    · show ((S.disks.set d _).getD 2 default).sure[n]? = some b
      rw [getD_set _ _ _ _ hd]
      split
      · rename_i e; subst e
        show (stl _ _ 0 _)[n]? = some b
        rw [stl_other _ n _ _ _ h.none]; exact h.sure
      · exact h.sure
    · show ∀ x ∈ ((S.disks.set d _).getD 2 default).waits, x.1 ≠ n
      rw [getD_set _ _ _ _ hd]
      split
      · intro x hx; cases hx
      · exact h.none
theorem Inv.crash {S : Sf} {n i : Nat} {b : Bs} (h : Inv S n b i) (ks : List (List Int)) : Inv (S.crash ks) n b i := by
  have e := crash_getD S ks (d := 2) (by rw [h.len]; decide)
  refine ⟨by rw [crash_length]; exact h.len, h.sec, fun k hk => ?_, ?_, ?_⟩
  · obtain ⟨k0, h0, h1, h2⟩ := crash_mem hk
    rw [h1, h2]
    exact ⟨Nat.zero_le _, (h.small k0 h0).2⟩
  · rw [e]
    show (stl _ _ 0 _)[n]? = some b
    rw [stl_other _ n _ _ _ h.none]; exact h.sure
  · rw [e]
    intro x hx; cases hx
theorem Inv.stopped {S : Sf} {n i : Nat} {b : Bs} (h : Inv S n b i) (m : Int) : Inv (S.doStop m) n b i := by
  unfold Sf.doStop
  split
  · exact h
  · exact ⟨h.len, h.sec, h.small, h.sure, h.none⟩
theorem Inv.start {n : Nat} (hn : n < 8) (b : Bs) : Inv (((newSf 3 8).doWrite 2 n b).doFlush 2) n b 0 := by
  refine ⟨rfl, rfl, ?_, ?_, ?_⟩
  · intro k hk
    have : k ∈ [newDk 8, newDk 8, { sure := stl (fun _ => true) [(n, b)] 0 (List.replicate 8 noughts), waits := [], dead := false }] := hk
    simp at this
    rcases this with rfl | rfl <;> exact ⟨Nat.le_refl _, rfl⟩
  · show (stl (fun _ => true) [(n, b)] 0 (List.replicate 8 noughts))[n]? = some b
    rw [stl_true n _ _ _ (by simpa using hn)]
    simp [latest]
  · intro x hx; cases hx
theorem Inv.val {S : Sf} {n i : Nat} {b : Bs} (h : Inv S n b i) (ks : List (List Int)) : ((S.crash ks).disks.getD 2 default).val n = b ∧ Sh.why (S.crash ks) 2 = 0 := by
  have hc := h.crash ks
  have e := crash_getD S ks (d := 2) (by rw [h.len]; decide)
  constructor
  · rw [e]
    show latest [] n ((stl _ _ 0 _).getD n []) = b
    have h1 : (stl (keptOf ks 2) (S.disks.getD 2 default).waits 0 (S.disks.getD 2 default).sure)[n]? = some b := by rw [stl_other _ n _ _ _ h.none]; exact h.sure
    show (stl (keptOf ks 2) (S.disks.getD 2 default).waits 0 (S.disks.getD 2 default).sure).getD n [] = b
    rw [List.getD, h1]
    rfl
  · unfold Sh.why
    have e3 := (hc.small _ (getD_mem (d := 2) (by rw [hc.len]; decide))).2
    rw [e3]
    rfl
def Bag (w wr : World) (p n : Nat) (b : Bs) (k : Nat) : Prop := ∃ S F, At w.heap.size w wr p S F ∧ Inv S n b k

set_option maxRecDepth 100000 in
theorem low {w : World} (A : Option Addr) (nn c : Nat) (n : Int) (hn : n < 0 ∨ (0 ≤ n ∧ 7 < n)) (x : Nat) (hx : x < 256) (B : Option Addr) (bn bc : Nat) (m : Int) :
    Calls Try.prog 5 #[.slice A nn c, .int .i64 n, .int .u8 x, .slice B bn bc, .int .i64 m] w fun e w' => e = .returned (.bool true) ∧ Below w.heap.size w w' := by
  rcases hn with hn | ⟨hn0, hn⟩
  all_goals
    go_enter Try.func5, Try.ntmps5
    go_wp2_with fail
    refine (new_ok 3 8 w (by decide) (by decide) (by decide) (by decide)).mono ?_
    rintro e w1 ⟨p, F1, rfl, hS, hF, hb⟩
    have a1 : At w.heap.size w w1 p (newSf 3 8) F1 := ⟨hS, hF, hb, hb.size⟩
    clear hS hF hb
    go_wp2_with fail
    refine (lives_true w1).mono ?_
    rintro e w2 ⟨rfl, hb⟩
    have a2 := a1.grown hb
    clear a1 hb
    go_wp2_with fail
    refine (sector_any w2 x hx).mono ?_
    rintro e w3 ⟨rfl, ho, hb⟩
    have a3 := a2.grown hb
    clear a2 hb ho
    go_wp2_with fail
    refine (write_refused w3 p 2 n a3.shelf (.inl (by unfold hasS; rintro ⟨_, _, h1, h2⟩; have e : ((newSf 3 8).sectors : Int) = 8 := rfl; omega))).mono ?_
    rintro e w4 ⟨rfl, rfl⟩
    have hbel := a3.bel
    clear a3
    go_wp2_with fail
    go_ret
    exact ⟨rfl, hbel⟩
set_option maxRecDepth 100000 in
set_option maxHeartbeats 8000000 in
theorem mid {w : World} (A : Option Addr) (nn c : Nat) (f : Nat → OpV) (hl : OpsAre w A nn f) (n : Nat) (hn : n < 8) (x : Nat) (hx : x < 256) (B : Option Addr) (bn bc : Nat) (ks : List (List Int)) (hbn : bn ≤ 9223372036854775807) (hk : KeepIs w (Old w) B bn ks) (m : Int) (hm1 : -9223372036854775808 ≤ m) (hm2 : m ≤ 9223372036854775807) :
    Calls Try.prog 5 #[.slice A nn c, .int .i64 n, .int .u8 x, .slice B bn bc, .int .i64 m] w fun e w' => e = .returned (.bool true) ∧ Below w.heap.size w w' := by
  have hnn := hl.1
  have HL := Lib.hid hl
  have HK := Lib.hid hk
  have hn7 : ¬ (7 : Int) < (n : Int) := by omega
  clear hl hk
  go_enter Try.func5, Try.ntmps5
  go_wp2_with fail
  refine (new_ok 3 8 w (by decide) (by decide) (by decide) (by decide)).mono ?_
  rintro e w1 ⟨p, F1, rfl, hS, hF, hb⟩
  have a1 : At w.heap.size w w1 p (newSf 3 8) F1 := ⟨hS, hF, hb, hb.size⟩
  clear hS hF hb
  go_wp2_with fail
  refine (lives_true w1).mono ?_
  rintro e w2 ⟨rfl, hb⟩
  have a2 := a1.grown hb
  clear a1 hb
  go_wp2_with fail
  refine (sector_any w2 x hx).mono ?_
  rintro e w3 ⟨rfl, ho, hb⟩
  have a3 := a2.grown hb
  have x3 := beside_sector a2.shelf ho
  clear a2 hb ho
  go_wp2_with fail
  refine (write_done w3 p 2 n (secOf x) a3.shelf (by decide) hn (by rfl) (by decide) (secOf_sec hx) x3.1 x3.2).mono ?_
  rintro e w4 ⟨rfl, hl⟩
  obtain ⟨F4, a4, _⟩ := a3.left hl
  clear a3 x3 hl
  go_wp2_with fail
  refine (flush_done w4 p 2 a4.shelf (by show (2 : Nat) < 3; decide) (by rfl) (by show (1 : Nat) < _; decide)).mono ?_
  rintro e w5 ⟨rfl, hl⟩
  obtain ⟨F5, a5, _⟩ := a4.left hl
  clear a4 hl
  go_wp2_with fail
  refine (stop_any w5 p m hm1 hm2 a5.shelf).mono ?_
  rintro e w6 ⟨rfl, hs, ho⟩
  have B0 := Lib.hid (show Bag w w6 p n (secOf x) 0 from ⟨_, _, a5.stays hs ho, (Inv.start hn (secOf x)).stopped m⟩)
  clear a5 hs ho
  go_wp2_with fail
  go_loopw [13] (fun s13 wr => ∃ k : Nat, k ≤ nn ∧ k ≤ 2000 ∧ s13 = .int .i64 k ∧ Hid (Bag w wr p n (secOf x) k)) (fun i _ => 2000 - (intOf i).toNat)
  case atStart => exact ⟨0, Nat.zero_le _, Nat.zero_le _, rfl, B0⟩
  case round =>
    obtain ⟨k, hk, hk2, rfl, hbag⟩ := hrel
    obtain ⟨S, F, a, hI⟩ := hbag.out
    clear hbag B0
    by_cases hlt : k < nn ∧ k < 2000
    · obtain ⟨hlt, hlt2⟩ := hlt
      obtain ⟨b, off, rfl, hbl, hop⟩ := HL.out.2 (by omega)
      have hop := hop k hlt
      have d0 := (a.bel.cell (p := ⟨b, off + k * 6, none⟩) hbl).trans hop.c0
      have d1 := (a.bel.cell (p := ⟨b, off + k * 6 + 1, none⟩) hbl).trans hop.c1
      have d2 := (a.bel.cell (p := ⟨b, off + k * 6 + 2, none⟩) hbl).trans hop.c2
      have d5 := (a.bel.cell (p := ⟨b, off + k * 6 + 5, none⟩) hbl).trans hop.c5
      have D1 := Lib.hid (show ∀ W', Below w.heap.size w W' → W'.cell? ⟨b, off + k * 6 + 1, none⟩ = some (.int .i64 (f k).d) from fun W' h => (h.cell (p := ⟨b, off + k * 6 + 1, none⟩) hbl).trans hop.c1)
      have D2 := Lib.hid (show ∀ W', Below w.heap.size w W' → W'.cell? ⟨b, off + k * 6 + 2, none⟩ = some (.int .i64 (f k).n) from fun W' h => (h.cell (p := ⟨b, off + k * 6 + 2, none⟩) hbl).trans hop.c2)
      have D4 := Lib.hid (show ∀ W', Below w.heap.size w W' → W'.cell? ⟨b, off + k * 6 + 4, none⟩ = some (.int .u8 ((f k).x : Int)) from fun W' h => (h.cell (p := ⟨b, off + k * 6 + 4, none⟩) hbl).trans hop.c4)
      have hxx := hop.b4
      have hm5 := hop.b5
      have HKK := Lib.hid hop.keep
      clear hop
      generalize (f k).x = xx at *
      generalize (f k).kind = kind at *
      generalize (f k).d = dd at *
      generalize (f k).n = mm at *
      generalize (f k).A = kA at *
      generalize (f k).m = km at *
      generalize (f k).c = kc at *
      generalize (f k).ks = kks at *
      have HI := Lib.hid hI
      have HA := Lib.hid a
      have hltS := Lib.hid (hI.lt hk2)
      clear hI a
      by_cases hk2' : kind = 2
      · subst hk2'
        by_cases hd : dd = 2
        · subst hd
          by_cases hm : mm = (n : Int)
          · subst hm
            go_wp2_with fail
            go_roundw
            case rel => exact ⟨k + 1, by omega, by omega, by go_num, Lib.hid ⟨S, F, HA.out, HI.out.next⟩⟩
            case measure => simp [intOf]; omega
          · have hqm : (mm == (n : Int)) = false := by rw [beq_eq_false_iff_ne]; exact hm
            have hne := Lib.hid (show (2 : Int) ≠ 2 ∨ mm ≠ n from .inr hm)
            clear hm
            have e1 := D1.out
            have e2 := D2.out
            have e4 := D4.out
            go_wp2_with fail
            refine wp_region_held_drew (S := fun W' => Below w.heap.size w W') (by kernel_rfl) (HA.out.bel.drew) (fun hHeld => ?_)
            refine wpAnyH_take (i := 0) (oi := ⟨some 88, _, _, _, _, _⟩) (v := ?_) rfl (by kernel_rfl) (by kernel_rfl) (by kernel_rfl) (fun _ _ _ h => h) (Or.inl ⟨by rfl, ?_⟩) (by assumption) ?_
            rotate_left
            · (intro w hSw; (try dsimp only at hSw); go_simp; first | done | with_reducible rfl)
            try simp only [Act.put, List.setIfInBounds_toArray, List.set_cons_zero, List.set_cons_succ]
            refine wpAnyH_take (i := 1) (oi := ⟨some 89, _, _, _, _, _⟩) (v := ?_) rfl (by kernel_rfl) (by kernel_rfl) (by kernel_rfl) (fun _ _ _ h => h) (Or.inl ⟨by rfl, ?_⟩) (by assumption) ?_
            rotate_left
            · (intro w hSw; (try dsimp only at hSw); go_simp; first | done | with_reducible rfl)
            try simp only [Act.put, List.setIfInBounds_toArray, List.set_cons_zero, List.set_cons_succ]
            refine wpAnyH_take (i := 2) (oi := ⟨some 90, _, _, _, _, _⟩) (v := ?_) rfl (by kernel_rfl) (by kernel_rfl) (by kernel_rfl) (fun _ _ _ h => h) (Or.inl ⟨by rfl, ?_⟩) (by assumption) ?_
            rotate_left
            · (intro w hSw; (try dsimp only at hSw); go_simp; first | done | with_reducible rfl)
            try simp only [Act.put, List.setIfInBounds_toArray, List.set_cons_zero, List.set_cons_succ]
            refine wpAnyH_take (i := 3) (oi := ⟨some 91, _, _, _, _, _⟩) (v := ?_) rfl (by kernel_rfl) (by kernel_rfl) (by kernel_rfl) (fun _ _ _ h => h) (Or.inl ⟨by rfl, ?_⟩) (by assumption) ?_
            rotate_left
            · (intro w hSw; (try dsimp only at hSw); go_simp; first | done | with_reducible rfl)
            try simp only [Act.put, List.setIfInBounds_toArray, List.set_cons_zero, List.set_cons_succ]
            refine wpAnyH_take (i := 4) (oi := ⟨some 92, _, _, _, _, _⟩) (v := ?_) rfl (by kernel_rfl) (by kernel_rfl) (by kernel_rfl) (fun _ _ _ h => h) (Or.inl ⟨by rfl, ?_⟩) (by assumption) ?_
            rotate_left
            · (intro w hSw; (try dsimp only at hSw); go_simp; first | done | with_reducible rfl)
            try simp only [Act.put, List.setIfInBounds_toArray, List.set_cons_zero, List.set_cons_succ]
            refine wpAnyH_take (i := 5) (oi := ⟨some 93, _, _, _, _, _⟩) (v := ?_) rfl (by kernel_rfl) (by kernel_rfl) (by kernel_rfl) (fun _ _ _ h => h) (Or.inl ⟨by rfl, ?_⟩) (by assumption) ?_
            rotate_left
            · (intro w hSw; (try dsimp only at hSw); go_simp; first | done | with_reducible rfl)
            try simp only [Act.put, List.setIfInBounds_toArray, List.set_cons_zero, List.set_cons_succ]
            refine wpAnyH_take (i := 6) (oi := ⟨some 94, _, _, _, _, _⟩) (v := ?_) rfl (by kernel_rfl) (by kernel_rfl) (by kernel_rfl) (fun _ _ _ h => h) (Or.inl ⟨by rfl, ?_⟩) (by assumption) ?_
            rotate_left
            · (intro w hSw; (try dsimp only at hSw); go_simp; first | done | with_reducible rfl)
            try simp only [Act.put, List.setIfInBounds_toArray, List.set_cons_zero, List.set_cons_succ]
            refine wpAnyH_take (i := 7) (oi := ⟨some 95, _, _, _, _, _⟩) (v := ?_) rfl (by kernel_rfl) (by kernel_rfl) (by kernel_rfl) (fun _ _ _ h => h) (Or.inl ⟨by rfl, ?_⟩) (by assumption) ?_
            rotate_left
            · (intro w hSw; (try dsimp only at hSw); go_simp; first | done | with_reducible rfl)
            try simp only [Act.put, List.setIfInBounds_toArray, List.set_cons_zero, List.set_cons_succ]
            refine wpAnyH_take (i := 8) (oi := ⟨some 96, _, _, _, _, _⟩) (v := ?_) rfl (by kernel_rfl) (by kernel_rfl) (by kernel_rfl) (fun _ _ _ h => h) (Or.inl ⟨by rfl, ?_⟩) (by assumption) ?_
            rotate_left
            · (intro w hSw; (try dsimp only at hSw); go_simp; first | done | with_reducible rfl)
            try simp only [Act.put, List.setIfInBounds_toArray, List.set_cons_zero, List.set_cons_succ]
            refine wpAnyH_take (i := 9) (oi := ⟨some 97, _, _, _, _, _⟩) (v := ?_) rfl (by kernel_rfl) (by kernel_rfl) (by kernel_rfl) (fun _ _ _ h => h) (Or.inl ⟨by rfl, ?_⟩) (by assumption) ?_
            rotate_left
            · (intro w hSw; (try dsimp only at hSw); go_simp; first | done | with_reducible rfl)
            try simp only [Act.put, List.setIfInBounds_toArray, List.set_cons_zero, List.set_cons_succ]
            refine wpAnyH_take (i := 10) (oi := ⟨some 98, _, _, _, _, _⟩) (v := ?_) rfl (by kernel_rfl) (by kernel_rfl) (by kernel_rfl) (fun _ _ _ h => h) (Or.inl ⟨by rfl, ?_⟩) (by assumption) ?_
            rotate_left
            · (intro w hSw; (try dsimp only at hSw); go_simp; first | done | with_reducible rfl)
            try simp only [Act.put, List.setIfInBounds_toArray, List.set_cons_zero, List.set_cons_succ]
            refine wpAnyH_take (i := 11) (oi := ⟨some 99, _, _, _, _, _⟩) (v := ?_) rfl (by kernel_rfl) (by kernel_rfl) (by kernel_rfl) (fun _ _ _ h => h) (Or.inl ⟨by rfl, ?_⟩) (by assumption) ?_
            rotate_left
            · (intro w hSw; (try dsimp only at hSw); go_simp; first | done | with_reducible rfl)
            try simp only [Act.put, List.setIfInBounds_toArray, List.set_cons_zero, List.set_cons_succ]
            refine wpAnyH_take (i := 12) (oi := ⟨some 100, _, _, _, _, _⟩) (v := ?_) rfl (by kernel_rfl) (by kernel_rfl) (by kernel_rfl) (fun _ _ _ h => h) (Or.inl ⟨by rfl, ?_⟩) (by assumption) ?_
            rotate_left
            · (intro w hSw; (try dsimp only at hSw); go_simp; first | done | with_reducible rfl)
            try simp only [Act.put, List.setIfInBounds_toArray, List.set_cons_zero, List.set_cons_succ]
            refine wpAnyH_take (i := 13) (oi := ⟨some 101, _, _, _, _, _⟩) (v := ?_) rfl (by kernel_rfl) (by kernel_rfl) (by kernel_rfl) (fun _ _ _ h => h) (Or.inl ⟨by rfl, ?_⟩) (by assumption) ?_
            rotate_left
            · (intro w hSw; (try dsimp only at hSw); go_simp; first | done | with_reducible rfl)
            try simp only [Act.put, List.setIfInBounds_toArray, List.set_cons_zero, List.set_cons_succ]
            refine wpAnyH_take (i := 14) (oi := ⟨some 102, _, _, _, _, _⟩) (v := ?_) rfl (by kernel_rfl) (by kernel_rfl) (by kernel_rfl) (fun _ _ _ h => h) (Or.inl ⟨by rfl, ?_⟩) (by assumption) ?_
            rotate_left
            · (intro w hSw; (try dsimp only at hSw); go_simp; first | done | with_reducible rfl)
            try simp only [Act.put, List.setIfInBounds_toArray, List.set_cons_zero, List.set_cons_succ]
            refine wpAnyH_take (i := 15) (oi := ⟨some 103, _, _, _, _, _⟩) (v := ?_) rfl (by kernel_rfl) (by kernel_rfl) (by kernel_rfl) (fun _ _ _ h => h) (Or.inl ⟨by rfl, ?_⟩) (by assumption) ?_
            rotate_left
            · (intro w hSw; (try dsimp only at hSw); go_simp; first | done | with_reducible rfl)
            try simp only [Act.put, List.setIfInBounds_toArray, List.set_cons_zero, List.set_cons_succ]
            have a1 := HA.out.grown (w' := wr.drew) ((Below.refl _ _).drew)
            refine wpAnyH_ready (rs := [16]) (by kernel_rfl) (by simp) ?_
            refine AllReadyH.cons (o := ⟨some 104, _, _, _, _, _⟩) rfl (fun K hK => ?_) AllReadyH.nil
            go_simp
            refine (sector_any _ xx hxx).mono ?_
            rintro e w10 ⟨rfl, ho, hb10⟩
            refine hK.out _ _ (hHeld.trans (hb10.mono (a1.size))) (fun hHeld => ?_)
            clear hK K
            try simp only [Act.put, List.setIfInBounds_toArray, List.set_cons_zero, List.set_cons_succ]
            have x2 := beside_sector a1.shelf ho
            have a2 := a1.grown hb10
            refine wpAnyH_ready (rs := [17]) (by kernel_rfl) (by simp) ?_
            refine AllReadyH.cons (o := ⟨some 105, _, _, _, _, _⟩) rfl (fun K hK => ?_) AllReadyH.nil
            go_simp
            refine (write_of w10 p 2 mm (secOf xx) a2.shelf hltS.out (secOf_sec hxx) x2.1 x2.2).mono ?_
            rintro e w11 ⟨y, S2, rfl, hwr, hlf⟩
            refine hK.out _ _ ((by obtain ⟨F3, a3, _⟩ := a2.left hlf; exact a3.bel)) (fun hHeld => ?_)
            clear hK K
            try simp only [Act.put, List.setIfInBounds_toArray, List.set_cons_zero, List.set_cons_succ]
            refine wpAnyH_done (by kernel_rfl) ?_ _
            obtain ⟨F3, a3, _⟩ := a2.left hlf
            have B3 := Lib.hid (show Bag w w11 p n (secOf x) (k + 1) from ⟨S2, F3, a3, HI.out.wrote hne.out hwr⟩)
            clear a1 a2 a3 x2 ho hb10 hlf hwr hHeld e1 e2 e4
            go_wp2_with fail
            go_roundw
            case rel => exact ⟨k + 1, by omega, by omega, by go_num, B3⟩
            case measure => simp [intOf]; omega
        · have hqd : (dd == 2) = false := by rw [beq_eq_false_iff_ne]; exact hd
          have hne := Lib.hid (show dd ≠ 2 ∨ mm ≠ n from .inl hd)
          clear hd
          have e1 := D1.out
          have e2 := D2.out
          have e4 := D4.out
          go_wp2_with fail
          refine wp_region_held_drew (S := fun W' => Below w.heap.size w W') (by kernel_rfl) (HA.out.bel.drew) (fun hHeld => ?_)
          refine wpAnyH_take (i := 0) (oi := ⟨some 88, _, _, _, _, _⟩) (v := ?_) rfl (by kernel_rfl) (by kernel_rfl) (by kernel_rfl) (fun _ _ _ h => h) (Or.inl ⟨by rfl, ?_⟩) (by assumption) ?_
          rotate_left
          · (intro w hSw; (try dsimp only at hSw); go_simp; first | done | with_reducible rfl)
          try simp only [Act.put, List.setIfInBounds_toArray, List.set_cons_zero, List.set_cons_succ]
          refine wpAnyH_take (i := 1) (oi := ⟨some 89, _, _, _, _, _⟩) (v := ?_) rfl (by kernel_rfl) (by kernel_rfl) (by kernel_rfl) (fun _ _ _ h => h) (Or.inl ⟨by rfl, ?_⟩) (by assumption) ?_
          rotate_left
          · (intro w hSw; (try dsimp only at hSw); go_simp; first | done | with_reducible rfl)
          try simp only [Act.put, List.setIfInBounds_toArray, List.set_cons_zero, List.set_cons_succ]
          refine wpAnyH_take (i := 2) (oi := ⟨some 90, _, _, _, _, _⟩) (v := ?_) rfl (by kernel_rfl) (by kernel_rfl) (by kernel_rfl) (fun _ _ _ h => h) (Or.inl ⟨by rfl, ?_⟩) (by assumption) ?_
          rotate_left
          · (intro w hSw; (try dsimp only at hSw); go_simp; first | done | with_reducible rfl)
          try simp only [Act.put, List.setIfInBounds_toArray, List.set_cons_zero, List.set_cons_succ]
          refine wpAnyH_take (i := 3) (oi := ⟨some 91, _, _, _, _, _⟩) (v := ?_) rfl (by kernel_rfl) (by kernel_rfl) (by kernel_rfl) (fun _ _ _ h => h) (Or.inl ⟨by rfl, ?_⟩) (by assumption) ?_
          rotate_left
          · (intro w hSw; (try dsimp only at hSw); go_simp; first | done | with_reducible rfl)
          try simp only [Act.put, List.setIfInBounds_toArray, List.set_cons_zero, List.set_cons_succ]
          refine wpAnyH_take (i := 4) (oi := ⟨some 92, _, _, _, _, _⟩) (v := ?_) rfl (by kernel_rfl) (by kernel_rfl) (by kernel_rfl) (fun _ _ _ h => h) (Or.inl ⟨by rfl, ?_⟩) (by assumption) ?_
          rotate_left
          · (intro w hSw; (try dsimp only at hSw); go_simp; first | done | with_reducible rfl)
          try simp only [Act.put, List.setIfInBounds_toArray, List.set_cons_zero, List.set_cons_succ]
          refine wpAnyH_take (i := 5) (oi := ⟨some 93, _, _, _, _, _⟩) (v := ?_) rfl (by kernel_rfl) (by kernel_rfl) (by kernel_rfl) (fun _ _ _ h => h) (Or.inl ⟨by rfl, ?_⟩) (by assumption) ?_
          rotate_left
          · (intro w hSw; (try dsimp only at hSw); go_simp; first | done | with_reducible rfl)
          try simp only [Act.put, List.setIfInBounds_toArray, List.set_cons_zero, List.set_cons_succ]
          refine wpAnyH_take (i := 6) (oi := ⟨some 94, _, _, _, _, _⟩) (v := ?_) rfl (by kernel_rfl) (by kernel_rfl) (by kernel_rfl) (fun _ _ _ h => h) (Or.inl ⟨by rfl, ?_⟩) (by assumption) ?_
          rotate_left
          · (intro w hSw; (try dsimp only at hSw); go_simp; first | done | with_reducible rfl)
          try simp only [Act.put, List.setIfInBounds_toArray, List.set_cons_zero, List.set_cons_succ]
          refine wpAnyH_take (i := 7) (oi := ⟨some 95, _, _, _, _, _⟩) (v := ?_) rfl (by kernel_rfl) (by kernel_rfl) (by kernel_rfl) (fun _ _ _ h => h) (Or.inl ⟨by rfl, ?_⟩) (by assumption) ?_
          rotate_left
          · (intro w hSw; (try dsimp only at hSw); go_simp; first | done | with_reducible rfl)
          try simp only [Act.put, List.setIfInBounds_toArray, List.set_cons_zero, List.set_cons_succ]
          refine wpAnyH_take (i := 8) (oi := ⟨some 96, _, _, _, _, _⟩) (v := ?_) rfl (by kernel_rfl) (by kernel_rfl) (by kernel_rfl) (fun _ _ _ h => h) (Or.inl ⟨by rfl, ?_⟩) (by assumption) ?_
          rotate_left
          · (intro w hSw; (try dsimp only at hSw); go_simp; first | done | with_reducible rfl)
          try simp only [Act.put, List.setIfInBounds_toArray, List.set_cons_zero, List.set_cons_succ]
          refine wpAnyH_take (i := 9) (oi := ⟨some 97, _, _, _, _, _⟩) (v := ?_) rfl (by kernel_rfl) (by kernel_rfl) (by kernel_rfl) (fun _ _ _ h => h) (Or.inl ⟨by rfl, ?_⟩) (by assumption) ?_
          rotate_left
          · (intro w hSw; (try dsimp only at hSw); go_simp; first | done | with_reducible rfl)
          try simp only [Act.put, List.setIfInBounds_toArray, List.set_cons_zero, List.set_cons_succ]
          refine wpAnyH_take (i := 10) (oi := ⟨some 98, _, _, _, _, _⟩) (v := ?_) rfl (by kernel_rfl) (by kernel_rfl) (by kernel_rfl) (fun _ _ _ h => h) (Or.inl ⟨by rfl, ?_⟩) (by assumption) ?_
          rotate_left
          · (intro w hSw; (try dsimp only at hSw); go_simp; first | done | with_reducible rfl)
          try simp only [Act.put, List.setIfInBounds_toArray, List.set_cons_zero, List.set_cons_succ]
          refine wpAnyH_take (i := 11) (oi := ⟨some 99, _, _, _, _, _⟩) (v := ?_) rfl (by kernel_rfl) (by kernel_rfl) (by kernel_rfl) (fun _ _ _ h => h) (Or.inl ⟨by rfl, ?_⟩) (by assumption) ?_
          rotate_left
          · (intro w hSw; (try dsimp only at hSw); go_simp; first | done | with_reducible rfl)
          try simp only [Act.put, List.setIfInBounds_toArray, List.set_cons_zero, List.set_cons_succ]
          refine wpAnyH_take (i := 12) (oi := ⟨some 100, _, _, _, _, _⟩) (v := ?_) rfl (by kernel_rfl) (by kernel_rfl) (by kernel_rfl) (fun _ _ _ h => h) (Or.inl ⟨by rfl, ?_⟩) (by assumption) ?_
          rotate_left
          · (intro w hSw; (try dsimp only at hSw); go_simp; first | done | with_reducible rfl)
          try simp only [Act.put, List.setIfInBounds_toArray, List.set_cons_zero, List.set_cons_succ]
          refine wpAnyH_take (i := 13) (oi := ⟨some 101, _, _, _, _, _⟩) (v := ?_) rfl (by kernel_rfl) (by kernel_rfl) (by kernel_rfl) (fun _ _ _ h => h) (Or.inl ⟨by rfl, ?_⟩) (by assumption) ?_
          rotate_left
          · (intro w hSw; (try dsimp only at hSw); go_simp; first | done | with_reducible rfl)
          try simp only [Act.put, List.setIfInBounds_toArray, List.set_cons_zero, List.set_cons_succ]
          refine wpAnyH_take (i := 14) (oi := ⟨some 102, _, _, _, _, _⟩) (v := ?_) rfl (by kernel_rfl) (by kernel_rfl) (by kernel_rfl) (fun _ _ _ h => h) (Or.inl ⟨by rfl, ?_⟩) (by assumption) ?_
          rotate_left
          · (intro w hSw; (try dsimp only at hSw); go_simp; first | done | with_reducible rfl)
          try simp only [Act.put, List.setIfInBounds_toArray, List.set_cons_zero, List.set_cons_succ]
          refine wpAnyH_take (i := 15) (oi := ⟨some 103, _, _, _, _, _⟩) (v := ?_) rfl (by kernel_rfl) (by kernel_rfl) (by kernel_rfl) (fun _ _ _ h => h) (Or.inl ⟨by rfl, ?_⟩) (by assumption) ?_
          rotate_left
          · (intro w hSw; (try dsimp only at hSw); go_simp; first | done | with_reducible rfl)
          try simp only [Act.put, List.setIfInBounds_toArray, List.set_cons_zero, List.set_cons_succ]
          have a1 := HA.out.grown (w' := wr.drew) ((Below.refl _ _).drew)
          refine wpAnyH_ready (rs := [16]) (by kernel_rfl) (by simp) ?_
          refine AllReadyH.cons (o := ⟨some 104, _, _, _, _, _⟩) rfl (fun K hK => ?_) AllReadyH.nil
          go_simp
          refine (sector_any _ xx hxx).mono ?_
          rintro e w10 ⟨rfl, ho, hb10⟩
          refine hK.out _ _ (hHeld.trans (hb10.mono (a1.size))) (fun hHeld => ?_)
          clear hK K
          try simp only [Act.put, List.setIfInBounds_toArray, List.set_cons_zero, List.set_cons_succ]
          have x2 := beside_sector a1.shelf ho
          have a2 := a1.grown hb10
          refine wpAnyH_ready (rs := [17]) (by kernel_rfl) (by simp) ?_
          refine AllReadyH.cons (o := ⟨some 105, _, _, _, _, _⟩) rfl (fun K hK => ?_) AllReadyH.nil
          go_simp
          refine (write_of w10 p dd mm (secOf xx) a2.shelf hltS.out (secOf_sec hxx) x2.1 x2.2).mono ?_
          rintro e w11 ⟨y, S2, rfl, hwr, hlf⟩
          refine hK.out _ _ ((by obtain ⟨F3, a3, _⟩ := a2.left hlf; exact a3.bel)) (fun hHeld => ?_)
          clear hK K
          try simp only [Act.put, List.setIfInBounds_toArray, List.set_cons_zero, List.set_cons_succ]
          refine wpAnyH_done (by kernel_rfl) ?_ _
          obtain ⟨F3, a3, _⟩ := a2.left hlf
          have B3 := Lib.hid (show Bag w w11 p n (secOf x) (k + 1) from ⟨S2, F3, a3, HI.out.wrote hne.out hwr⟩)
          clear a1 a2 a3 x2 ho hb10 hlf hwr hHeld e1 e2 e4
          go_wp2_with fail
          go_roundw
          case rel => exact ⟨k + 1, by omega, by omega, by go_num, B3⟩
          case measure => simp [intOf]; omega
      · by_cases hk3 : kind = 3
        · subst hk3
          go_wp2_with fail
          refine (flush_of wr p dd HA.out.shelf hltS.out).mono ?_
          rintro e w11 ⟨y, S2, rfl, hwr, hlf⟩
          obtain ⟨F3, a3, _⟩ := HA.out.left hlf
          have B3 := Lib.hid (show Bag w w11 p n (secOf x) (k + 1) from ⟨S2, F3, a3, HI.out.flushed hwr⟩)
          clear a3 hlf hwr
          go_wp2_with fail
          go_roundw
          case rel => exact ⟨k + 1, by omega, by omega, by go_num, B3⟩
          case measure => simp [intOf]; omega
        · have hq2 : (kind == 2) = false := by rw [beq_eq_false_iff_ne]; exact hk2'
          have hq3 : (kind == 3) = false := by rw [beq_eq_false_iff_ne]; exact hk3
          clear hk2' hk3
          by_cases hk7 : kind = 7
          · subst hk7
            clear hq2 hq3
            go_wp2_with fail
            refine (crash_of rfl HA.out kA km kc HKK.out hm5 hltS.out).mono ?_
            rintro e w11 ⟨rfl, hlf⟩
            obtain ⟨F3, a3, _⟩ := HA.out.left hlf
            have B3 := Lib.hid (show Bag w w11 p n (secOf x) (k + 1) from ⟨_, F3, a3, (HI.out.crash kks).next⟩)
            clear a3 hlf
            go_wp2_with fail
            go_roundw
            case rel => exact ⟨k + 1, by omega, by omega, by go_num, B3⟩
            case measure => simp [intOf]; omega
          · have hq7 : (kind == 7) = false := by rw [beq_eq_false_iff_ne]; exact hk7
            clear hk7
            go_wp2_with fail
            go_roundw
            case rel => exact ⟨k + 1, by omega, by omega, by go_num, Lib.hid ⟨S, F, HA.out, HI.out.next⟩⟩
            case measure => simp [intOf]; omega
    · have HI := Lib.hid hI
      have HA := Lib.hid a
      have hltS := Lib.hid (hI.lt hk2)
      clear hI a
      by_cases h1 : k < nn
      · have h2 : 2000 ≤ k := by omega
        have hq : decide ((k : Int) < 2000) = false := by simp; omega
        clear hlt
        go_wp2_with fail
        refine (crash_of rfl HA.out B bn bc HK.out hbn hltS.out).mono ?_
        rintro e w7 ⟨rfl, hlf⟩
        obtain ⟨F7, a7, _⟩ := HA.out.left hlf
        clear hlf
        go_wp2_with fail
        refine (read_done w7 p 2 n a7.shelf (by rw [(HI.out.crash ks).len]; decide) (by rw [(HI.out.crash ks).sec]; exact hn) (HI.out.val ks).2).mono ?_
        rintro e w8 ⟨A1, c1, rfl, hb1, hs1, ho1⟩
        have a8 := a7.stays hs1 ho1
        have y1 := beside_read a7.shelf hb1
        have y1 := beside_eq (l' := secOf x) y1 (HI.out.val ks).1
        have q8 := Lib.hid a8.bel
        have hsz := a8.size
        clear a7 hb1 hs1 ho1 a8
        generalize hsx : strL (secOf x) = sx at *
        have t1 := conv_grown (c := c1) y1 hsx
        have HSx := Lib.hid hsx
        clear y1 hsx
        go_wp2_with fail
        refine wp_region_held_drew (S := fun W' => Below w8.heap.size w8 W') (by kernel_rfl) ((Below.refl _ _).drew) (fun hHeld => ?_)
        refine wpAnyH_take (i := 0) (oi := ⟨some 133, _, _, _, _, _⟩) (v := ?_) rfl (by kernel_rfl) (by kernel_rfl) (by kernel_rfl) (fun _ _ _ h => h) (Or.inl ⟨by rfl, ?_⟩) (by assumption) ?_
        rotate_left
        · (intro w hSw; (try dsimp only at hSw); go_simp; first | done | with_reducible rfl)
        try simp only [Act.put, List.setIfInBounds_toArray, List.set_cons_zero, List.set_cons_succ]
        refine wpAnyH_take (i := 1) (oi := ⟨some 134, _, _, _, _, _⟩) (v := ?_) rfl (by kernel_rfl) (by kernel_rfl) (by kernel_rfl) (fun _ _ _ h => h) (Or.inl ⟨by rfl, ?_⟩) (by assumption) ?_
        rotate_left
        · (intro w hSw; (try dsimp only at hSw); go_simp; first | done | with_reducible rfl)
        try simp only [Act.put, List.setIfInBounds_toArray, List.set_cons_zero, List.set_cons_succ]
        refine wpAnyH_take (i := 2) (oi := ⟨some 135, _, _, _, _, _⟩) (v := ?_) rfl (by kernel_rfl) (by kernel_rfl) (by kernel_rfl) (fun _ _ _ h => h) (Or.inl ⟨by rfl, ?_⟩) (by assumption) ?_
        rotate_left
        · (intro w hSw; (try dsimp only at hSw); go_simp; first | done | with_reducible rfl)
        try simp only [Act.put, List.setIfInBounds_toArray, List.set_cons_zero, List.set_cons_succ]
        refine wpAnyH_take (i := 3) (oi := ⟨some 136, _, _, _, _, _⟩) (v := ?_) rfl (by kernel_rfl) (by kernel_rfl) (by kernel_rfl) (fun _ _ _ h => h) (Or.inl ⟨by rfl, ?_⟩) (by assumption) ?_
        rotate_left
        · (intro w hSw; (try dsimp only at hSw); go_simp; first | done | with_reducible rfl)
        try simp only [Act.put, List.setIfInBounds_toArray, List.set_cons_zero, List.set_cons_succ]
        refine wpAnyH_take (i := 4) (oi := ⟨some 137, _, _, _, _, _⟩) (v := ?_) rfl (by kernel_rfl) (by kernel_rfl) (by kernel_rfl) (fun _ _ _ h => h) (Or.inl ⟨by rfl, ?_⟩) (by assumption) ?_
        rotate_left
        · (intro w hSw; (try dsimp only at hSw); go_simp; first | done | with_reducible rfl)
        try simp only [Act.put, List.setIfInBounds_toArray, List.set_cons_zero, List.set_cons_succ]
        refine wpAnyH_take (i := 5) (oi := ⟨some 138, _, _, _, _, _⟩) (v := ?_) rfl (by kernel_rfl) (by kernel_rfl) (by kernel_rfl) (fun _ _ _ h => h) (Or.inl ⟨by rfl, ?_⟩) (by assumption) ?_
        rotate_left
        · (intro w hSw; (try dsimp only at hSw); go_simp; first | done | with_reducible rfl)
        try simp only [Act.put, List.setIfInBounds_toArray, List.set_cons_zero, List.set_cons_succ]
        refine wpAnyH_ready (rs := [6]) (by kernel_rfl) (by simp) ?_
        refine AllReadyH.cons (o := ⟨some 139, _, _, _, _, _⟩) rfl (fun K hK => ?_) AllReadyH.nil
        go_simp
        refine (sector_any _ x hx).mono ?_
        rintro e w9 ⟨rfl, ho9, hb9⟩
        refine hK.out _ _ (below_on hHeld hb9) (fun hHeld => ?_)
        clear hK K
        try simp only [Act.put, List.setIfInBounds_toArray, List.set_cons_zero, List.set_cons_succ]
        have hb8 : Below w8.heap.size w8 w9 := hHeld
        clear hHeld t1
        refine wpAnyH_mono (S' := fun W' => Below w9.heap.size w9 W') (fun W' h => below_on hb8 h) _ _ _ _ ?_
        have hHeld : Below w9.heap.size w9 w9 := Below.refl _ _
        have ho9 : w9.ownsRow w8.heap.size 5 1 (.slice (some ⟨w8.heap.size, 0, none⟩) 128 128) 128 (bts (secOf x)) := ho9
        have t3 := conv_own ho9 HSx.out
        refine wpAnyH_take (i := 7) (oi := ⟨some 140, _, _, _, _, _⟩) (v := ?_) rfl (by kernel_rfl) (by kernel_rfl) (by kernel_rfl) (fun _ _ _ h => h) (Or.inl ⟨by rfl, ?_⟩) (by assumption) ?_
        rotate_left
        · (intro w hSw; (try dsimp only at hSw); go_simp; first | done | with_reducible rfl)
        try simp only [Act.put, List.setIfInBounds_toArray, List.set_cons_zero, List.set_cons_succ]
        refine wpAnyH_take (i := 8) (oi := ⟨some 141, _, _, _, _, _⟩) (v := ?_) rfl (by kernel_rfl) (by kernel_rfl) (by kernel_rfl) (fun _ _ _ h => h) (Or.inl ⟨by rfl, ?_⟩) (by assumption) ?_
        rotate_left
        · (intro w hSw; (try dsimp only at hSw); go_simp; first | done | with_reducible rfl)
        try simp only [Act.put, List.setIfInBounds_toArray, List.set_cons_zero, List.set_cons_succ]
        refine wpAnyH_take (i := 9) (oi := ⟨some 142, _, _, _, _, _⟩) (v := ?_) rfl (by kernel_rfl) (by kernel_rfl) (by kernel_rfl) (fun _ _ _ h => h) (Or.inl ⟨by rfl, ?_⟩) (by assumption) ?_
        rotate_left
        · (intro w hSw; (try dsimp only at hSw); go_simp; first | done | with_reducible rfl)
        try simp only [Act.put, List.setIfInBounds_toArray, List.set_cons_zero, List.set_cons_succ]
        refine wpAnyH_take (i := 10) (oi := ⟨some 10, _, _, _, _, _⟩) (v := ?_) rfl (by kernel_rfl) (by kernel_rfl) (by kernel_rfl) (fun _ _ _ h => h) (Or.inl ⟨by rfl, ?_⟩) (by assumption) ?_
        rotate_left
        · (intro w hSw; (try dsimp only at hSw); go_simp; first | done | with_reducible rfl)
        try simp only [Act.put, List.setIfInBounds_toArray, List.set_cons_zero, List.set_cons_succ]
        refine wpAnyH_done (by kernel_rfl) ?_ _
        go_wp2
        go_ret
        exact ⟨rfl, q8.out.trans ((below_on hb8 hHeld).mono hsz)⟩
      · have hq : decide ((k : Int) < (nn : Int)) = false := by simp; omega
        clear hlt
        go_wp2_with fail
        refine (crash_of rfl HA.out B bn bc HK.out hbn hltS.out).mono ?_
        rintro e w7 ⟨rfl, hlf⟩
        obtain ⟨F7, a7, _⟩ := HA.out.left hlf
        clear hlf
        go_wp2_with fail
        refine (read_done w7 p 2 n a7.shelf (by rw [(HI.out.crash ks).len]; decide) (by rw [(HI.out.crash ks).sec]; exact hn) (HI.out.val ks).2).mono ?_
        rintro e w8 ⟨A1, c1, rfl, hb1, hs1, ho1⟩
        have a8 := a7.stays hs1 ho1
        have y1 := beside_read a7.shelf hb1
        have y1 := beside_eq (l' := secOf x) y1 (HI.out.val ks).1
        have q8 := Lib.hid a8.bel
        have hsz := a8.size
        clear a7 hb1 hs1 ho1 a8
        generalize hsx : strL (secOf x) = sx at *
        have t1 := conv_grown (c := c1) y1 hsx
        have HSx := Lib.hid hsx
        clear y1 hsx
        go_wp2_with fail
        refine wp_region_held_drew (S := fun W' => Below w8.heap.size w8 W') (by kernel_rfl) ((Below.refl _ _).drew) (fun hHeld => ?_)
        refine wpAnyH_take (i := 0) (oi := ⟨some 133, _, _, _, _, _⟩) (v := ?_) rfl (by kernel_rfl) (by kernel_rfl) (by kernel_rfl) (fun _ _ _ h => h) (Or.inl ⟨by rfl, ?_⟩) (by assumption) ?_
        rotate_left
        · (intro w hSw; (try dsimp only at hSw); go_simp; first | done | with_reducible rfl)
        try simp only [Act.put, List.setIfInBounds_toArray, List.set_cons_zero, List.set_cons_succ]
        refine wpAnyH_take (i := 1) (oi := ⟨some 134, _, _, _, _, _⟩) (v := ?_) rfl (by kernel_rfl) (by kernel_rfl) (by kernel_rfl) (fun _ _ _ h => h) (Or.inl ⟨by rfl, ?_⟩) (by assumption) ?_
        rotate_left
        · (intro w hSw; (try dsimp only at hSw); go_simp; first | done | with_reducible rfl)
        try simp only [Act.put, List.setIfInBounds_toArray, List.set_cons_zero, List.set_cons_succ]
        refine wpAnyH_take (i := 2) (oi := ⟨some 135, _, _, _, _, _⟩) (v := ?_) rfl (by kernel_rfl) (by kernel_rfl) (by kernel_rfl) (fun _ _ _ h => h) (Or.inl ⟨by rfl, ?_⟩) (by assumption) ?_
        rotate_left
        · (intro w hSw; (try dsimp only at hSw); go_simp; first | done | with_reducible rfl)
        try simp only [Act.put, List.setIfInBounds_toArray, List.set_cons_zero, List.set_cons_succ]
        refine wpAnyH_take (i := 3) (oi := ⟨some 136, _, _, _, _, _⟩) (v := ?_) rfl (by kernel_rfl) (by kernel_rfl) (by kernel_rfl) (fun _ _ _ h => h) (Or.inl ⟨by rfl, ?_⟩) (by assumption) ?_
        rotate_left
        · (intro w hSw; (try dsimp only at hSw); go_simp; first | done | with_reducible rfl)
        try simp only [Act.put, List.setIfInBounds_toArray, List.set_cons_zero, List.set_cons_succ]
        refine wpAnyH_take (i := 4) (oi := ⟨some 137, _, _, _, _, _⟩) (v := ?_) rfl (by kernel_rfl) (by kernel_rfl) (by kernel_rfl) (fun _ _ _ h => h) (Or.inl ⟨by rfl, ?_⟩) (by assumption) ?_
        rotate_left
        · (intro w hSw; (try dsimp only at hSw); go_simp; first | done | with_reducible rfl)
        try simp only [Act.put, List.setIfInBounds_toArray, List.set_cons_zero, List.set_cons_succ]
        refine wpAnyH_take (i := 5) (oi := ⟨some 138, _, _, _, _, _⟩) (v := ?_) rfl (by kernel_rfl) (by kernel_rfl) (by kernel_rfl) (fun _ _ _ h => h) (Or.inl ⟨by rfl, ?_⟩) (by assumption) ?_
        rotate_left
        · (intro w hSw; (try dsimp only at hSw); go_simp; first | done | with_reducible rfl)
        try simp only [Act.put, List.setIfInBounds_toArray, List.set_cons_zero, List.set_cons_succ]
        refine wpAnyH_ready (rs := [6]) (by kernel_rfl) (by simp) ?_
        refine AllReadyH.cons (o := ⟨some 139, _, _, _, _, _⟩) rfl (fun K hK => ?_) AllReadyH.nil
        go_simp
        refine (sector_any _ x hx).mono ?_
        rintro e w9 ⟨rfl, ho9, hb9⟩
        refine hK.out _ _ (below_on hHeld hb9) (fun hHeld => ?_)
        clear hK K
        try simp only [Act.put, List.setIfInBounds_toArray, List.set_cons_zero, List.set_cons_succ]
        have hb8 : Below w8.heap.size w8 w9 := hHeld
        clear hHeld t1
        refine wpAnyH_mono (S' := fun W' => Below w9.heap.size w9 W') (fun W' h => below_on hb8 h) _ _ _ _ ?_
        have hHeld : Below w9.heap.size w9 w9 := Below.refl _ _
        have ho9 : w9.ownsRow w8.heap.size 5 1 (.slice (some ⟨w8.heap.size, 0, none⟩) 128 128) 128 (bts (secOf x)) := ho9
        have t3 := conv_own ho9 HSx.out
        refine wpAnyH_take (i := 7) (oi := ⟨some 140, _, _, _, _, _⟩) (v := ?_) rfl (by kernel_rfl) (by kernel_rfl) (by kernel_rfl) (fun _ _ _ h => h) (Or.inl ⟨by rfl, ?_⟩) (by assumption) ?_
        rotate_left
        · (intro w hSw; (try dsimp only at hSw); go_simp; first | done | with_reducible rfl)
        try simp only [Act.put, List.setIfInBounds_toArray, List.set_cons_zero, List.set_cons_succ]
        refine wpAnyH_take (i := 8) (oi := ⟨some 141, _, _, _, _, _⟩) (v := ?_) rfl (by kernel_rfl) (by kernel_rfl) (by kernel_rfl) (fun _ _ _ h => h) (Or.inl ⟨by rfl, ?_⟩) (by assumption) ?_
        rotate_left
        · (intro w hSw; (try dsimp only at hSw); go_simp; first | done | with_reducible rfl)
        try simp only [Act.put, List.setIfInBounds_toArray, List.set_cons_zero, List.set_cons_succ]
        refine wpAnyH_take (i := 9) (oi := ⟨some 142, _, _, _, _, _⟩) (v := ?_) rfl (by kernel_rfl) (by kernel_rfl) (by kernel_rfl) (fun _ _ _ h => h) (Or.inl ⟨by rfl, ?_⟩) (by assumption) ?_
        rotate_left
        · (intro w hSw; (try dsimp only at hSw); go_simp; first | done | with_reducible rfl)
        try simp only [Act.put, List.setIfInBounds_toArray, List.set_cons_zero, List.set_cons_succ]
        refine wpAnyH_take (i := 10) (oi := ⟨some 10, _, _, _, _, _⟩) (v := ?_) rfl (by kernel_rfl) (by kernel_rfl) (by kernel_rfl) (fun _ _ _ h => h) (Or.inl ⟨by rfl, ?_⟩) (by assumption) ?_
        rotate_left
        · (intro w hSw; (try dsimp only at hSw); go_simp; first | done | with_reducible rfl)
        try simp only [Act.put, List.setIfInBounds_toArray, List.set_cons_zero, List.set_cons_succ]
        refine wpAnyH_done (by kernel_rfl) ?_ _
        go_wp2
        go_ret
        exact ⟨rfl, q8.out.trans ((below_on hb8 hHeld).mono hsz)⟩
theorem walk {w : World} (A : Option Addr) (nn c : Nat) (f : Nat → OpV) (hl : OpsAre w A nn f) (n : Int) (_ : -9223372036854775808 ≤ n) (_ : n ≤ 9223372036854775807) (x : Nat) (hx : x < 256) (B : Option Addr) (bn bc : Nat) (ks : List (List Int)) (hbn : bn ≤ 9223372036854775807) (hk : KeepIs w (Old w) B bn ks) (m : Int) (hm1 : -9223372036854775808 ≤ m) (hm2 : m ≤ 9223372036854775807) :
    Calls Try.prog 5 #[.slice A nn c, .int .i64 n, .int .u8 x, .slice B bn bc, .int .i64 m] w fun e w' => e = .returned (.bool true) ∧ Below w.heap.size w w' := by
  by_cases h0 : n < 0
  · exact low A nn c n (.inl h0) x hx B bn bc m
  · by_cases h7 : 7 < n
    · exact low A nn c n (.inr ⟨by omega, h7⟩) x hx B bn bc m
    · obtain ⟨n, rfl⟩ : ∃ m : Nat, n = (m : Int) := ⟨n.toNat, by omega⟩
      exact mid A nn c f hl n (by omega) x hx B bn bc ks hbn hk m hm1 hm2
set_option maxRecDepth 100000 in
/-- WHAT THE WALK GIVES, FOR EVERY ARGUMENT AND EVERY WORLD THAT HOLDS THE TABLES. -/
theorem contract (H : Type) (enc : TypeId × Value → H) (W : World) (base : Nat) (args : Array Value) (ds gs : List (DataW H)) (before : List MemPlace)
    (hval : ∀ (j : Nat) t v, Try.f5.params[j]? = some t → args[j]? = some v → Value.okWide Try.prog W .any base t v)
    (hW : DataW.Whole enc Try.prog Try.f5.params.toList Rows.shelfSureSpec.vars false W args.toList ds gs before)
    (hsz : (DataW.weightsEach Try.prog (Try.f5.params.toList ++ (OpenSpec.ofChange Rows.shelfSureSpec).bare.plain.varTypes Try.prog) (ds ++ gs)).all (· ≤ reachBytes) = true) (_hL : laidMetH Try.prog laidBoth W) :
    Calls Try.prog 5 args W fun e W' => ∃ v, e = .returned v ∧ Rows.shelfSureSpec.post enc Try.prog Try.f5 false true false false W args v W' := by
  have hW' := hW
  obtain ⟨p, q, hA0, hV, rfl, hfz, hnd⟩ := hW
  have hA : DataW.TrodAll enc Try.prog W 0 (fun _ => true) true Try.f5.params.toList args.toList ds p := hA0
  have hsz2 : (DataW.weightsEach Try.prog (Try.f5.params.toList ++ []) (ds ++ gs)).all (· ≤ reachBytes) = true := hsz
  rw [Try.params5] at hA hval hsz2
  obtain ⟨v0, vs0, d0, ds0, p0, q0, hargs, rfl, rfl, h0, r0⟩ := trodAll_cons hA
  obtain ⟨v1, vs1, d1, ds1, p1, q1, rfl, rfl, rfl, h1, r1⟩ := trodAll_cons r0
  obtain ⟨v2, vs2, d2, ds2, p2, q2, rfl, rfl, rfl, h2, r2⟩ := trodAll_cons r1
  obtain ⟨v3, vs3, d3, ds3, p3, q3, rfl, rfl, rfl, h3, r3⟩ := trodAll_cons r2
  obtain ⟨v4, vs4, d4, ds4, p4, q4, rfl, rfl, rfl, h4, r4⟩ := trodAll_cons r3
  obtain ⟨rfl, rfl, rfl⟩ := trodAll_nil r4
  obtain rfl : args = #[v0, v1, v2, v3, v4] := by cases args; simp_all
  obtain ⟨rfl, rfl⟩ := trodVars_none hV
  obtain ⟨A0, n0, c0, rfl⟩ := okWide_slice Try.underlying22 (hval 0 22 v0 rfl rfl)
  have k0 := h0
  have lt0 : ∀ x ∈ p0, x.block < W.heap.size := by obtain ⟨m, hm⟩ := k0; exact DataW.trod_lt m _ _ _ hm
  obtain ⟨f0, hl0⟩ : ∃ f, OpsAre W A0 n0 f := by obtain ⟨fuel, hf⟩ := h0; exact ops_in (by simpa [Value.cells] using hf)
  obtain ⟨a1, rfl, rfl, rfl, w1⟩ := open_int Try.underlying3 (hval 1 3 v1 rfl rfl) h1
  have bd1 := bounds_i64 w1
  obtain ⟨a2, rfl, rfl, rfl, w2⟩ := open_int Try.underlying5 (hval 2 5 v2 rfl rfl) h2
  have bd2 := bounds_u8 w2
  obtain ⟨m2, hm2⟩ : ∃ m : Nat, a2 = (m : Int) := ⟨a2.toNat, by omega⟩
  obtain ⟨A3, n3, c3, rfl⟩ := okWide_slice Try.underlying31 (hval 3 31 v3 rfl rfl)
  have k3 := h3
  have lt3 : ∀ x ∈ p3, x.block < W.heap.size := by obtain ⟨m, hm⟩ := k3; exact DataW.trod_lt m _ _ _ hm
  obtain ⟨ks3, nb3, hk3⟩ : ∃ ks : List (List Int), n3 ≤ 9223372036854775807 ∧ KeepIs W (Old W) A3 n3 ks := by obtain ⟨fuel, hf⟩ := h3; exact keep_in (by simpa [Value.cells] using hf)
  obtain ⟨a4, rfl, rfl, rfl, w4⟩ := open_int Try.underlying3 (hval 4 3 v4 rfl rfl) h4
  have bd4 := bounds_i64 w4
  subst hm2
  refine (walk A0 n0 c0 f0 hl0 a1 bd1.1 bd1.2 m2 (by omega) A3 n3 c3 ks3 nb3 hk3 a4 bd4.1 bd4.2).mono fun e W' ⟨he, bel⟩ => ?_
  subst he
  exact ⟨_, rfl, _, _, _, [], _, [], hW', trodAll_mk1 (shut_bool Try.underlying4 _), (trodAll_cons_mk (Below.trod laidOut (by kernel_rfl) (of_decide_eq_true (by kernel_rfl)) k0 bel lt0) (trodAll_cons_mk (shut_int Try.underlying3 w1) (trodAll_cons_mk (shut_int Try.underlying5 w2) (trodAll_cons_mk (Below.trod laidOut (by kernel_rfl) (of_decide_eq_true (by kernel_rfl)) k3 bel lt3) (trodAll_cons_mk (shut_int Try.underlying3 w4) trodAll_mk0))))), rfl, bel.frame _, fun h => by cases h⟩

theorem laid_met (os : Os) : laidMetH Try.prog laidBoth ((laidWorld os).forCall (fun _ _ => 0) ⟨#[], #[.slice none 0 0, .int .i64 0, .int .u8 0, .slice none 0 0, .int .i64 0], []⟩).memory :=
  laidMetH_of_parts3 (fuel := 8) (laidMet_of_run' 8 (by kernel_rfl) (by kernel_rfl)) (by kernel_rfl) (by kernel_rfl)
theorem reads (os : Os) {H : Type} (enc : TypeId × Value → H) : ∃ places, DataW.whole enc Try.prog ((laidWorld os).forCall (fun _ _ => 0) ⟨#[], #[.slice none 0 0, .int .i64 0, .int .u8 0, .slice none 0 0, .int .i64 0], []⟩).memory Try.f5.params.toList Rows.shelfSureSpec.vars false (#[.slice none 0 0, .int .i64 0, .int .u8 0, .slice none 0 0, .int .i64 0] : Array Value).toList 8 = some ([.nil, .lit (.int .i64 0), .lit (.int .u8 0), .nil, .lit (.int .i64 0)], [], places) :=
  ⟨[], by kernel_rfl⟩
set_option maxRecDepth 100000 in
theorem lifted (os : Os) (started : os.Started) (H : Type) (enc : TypeId × Value → H) (F : Stop.Interp) :
    ReturnsInHanded {} Try.checked os 5 .any ((OpenSpec.ofChange Rows.shelfSureSpec).preRow enc Try.prog Try.f5 Rows.shelfSureRow.domain false Rows.shelfSureRow.laid) (((OpenSpec.ofChange Rows.shelfSureSpec).at F).post enc Try.prog Try.f5 false true false false) := by
  obtain ⟨places, hx⟩ := reads os enc
  refine returnsInHanded_of_row (C := Try.checked) (s := (OpenSpec.ofChange Rows.shelfSureSpec)) own started (by kernel_rfl) Try.func5
    (witness_row_at (enc := enc) (C := Try.checked) false (laidWorld os) #[.slice none 0 0, .int .i64 0, .int .u8 0, .slice none 0 0, .int .i64 0] rfl (by kernel_rfl) (by kernel_rfl) (by kernel_rfl)
      (OpenSpec.preRow_of_cond 8 hx (by kernel_rfl) (fun k hk => by cases hk) (by kernel_rfl) (laid_met os))) ?_
  intro W base args ds gs before hval hW _ hcond hsz hL _ _
  exact contract H enc W base args ds gs before hval hW hsz hL
theorem said : Rows.ShelfSureSaid :=
  OpenClaim.holds_of_cond 5 Try.f5 rfl rfl rfl rfl rfl rfl rfl ⟨rfl, rfl, rfl, rfl, rfl⟩ rfl rfl rfl rfl rfl (by kernel_rfl) Try.func5 (by kernel_rfl)
    (of_decide_eq_true (by kernel_rfl)) (by unfold Func.isWrapper; first | (rw [if_pos (by decide +kernel)]; kernel_rfl) | (rw [if_neg (by decide +kernel)]; exact ⟨rfl, rfl⟩))
    (fun os started H enc _ F => by rw [OpenClaim.pre_eq_preRow]; exact lifted os started H enc F)
end Go.Proofs.Ytaejlkkdljpghaa.Sh.shelfSure
