/-
  CacheFull (P10.1, P10.2): where all blocks are pinned no other one is kept; one Unpin makes room.
  Conditions: every argument, every world that holds the program's tables.
-/
import Derived.Test.YtepoepmndckmaaaGreatDoorZ41
import Derived.Test.YtepoepmndckmaaaGreatDoorZ40
import Derived.Test.YtepoepmndckmaaaGreatDoorZ39
import Derived.Deep.DeepCutAuto
namespace Go.Proofs.YtepoepmndckmaaaGreatDoor.U.cacheFull
open Go.ChangeShapes Go.WideShapes Go.ChangeAt Go.RowKit Go.Maps
open Go.Proofs.YtepoepmndckmaaaGreatDoor.Kc (En Cg Cav CQ lFull)
open Go.Proofs.YtepoepmndckmaaaGreatDoor.U.cacheNobody (laidBoth tabs_of_laid)

set_option maxRecDepth 100000 in
set_option maxHeartbeats 8000000 in
theorem walk {w : World} (mo : Int) (hm1 : -9223372036854775808 ≤ mo) (hm2 : mo ≤ 9223372036854775807) (bl : Int) (_hb1 : -9223372036854775808 ≤ bl) (_hb2 : bl ≤ 9223372036854775807) (hA : All10 w) :
    Calls Tryz.prog 6 #[.int .i64 mo, .int .i64 bl] w fun e w' => e = .returned (.bool true) ∧ Below w.heap.size w w' := by
  obtain ⟨n, h1, h10, hn⟩ := Go.Proofs.YtepoepmndckmaaaGreatDoor.Kc.most_of mo 10 (by decide) (by decide)
  have h10 : n ≤ 10 := by omega
  have HBE := Lib.hid (begin10 hA n h1 (by omega))
  have HA := Lib.hid hA
  have HN := Lib.hid hn
  clear hA hn
  go_enter Tryz.func6, Tryz.ntmps6
  go_upto_if 22 with fail
  go_cut [5] (fun s5 wx => s5 = .int .i64 (n : Int) ∧ wx = w)
  case first =>
    rcases HN.out with ⟨e1, e2⟩ | ⟨e1, e2⟩
    · subst e2
      have q : decide (mo < 0) = true := decide_eq_true e1
      go_wp2_with fail
      all_goals (go_meet; exact ⟨rfl, rfl⟩)
    · have q : decide (mo < 0) = false := decide_eq_false (by omega)
      rw [e2]
      go_wp2_with fail
      all_goals (go_meet; exact ⟨rfl, rfl⟩)
  case rest =>
    obtain ⟨rfl, rfl⟩ := hcut
    clear HN
    go_wp2_with fail
    refine HBE.out.mono ?_
    rintro e w2 ⟨J, x0, sp, q, xr, g, hG, hN, rfl, hcont, hB, hW, hbeg⟩
    have HP0 := Lib.hid hbeg.cq
    have HBW := Lib.hid (And.intro hB hW)
    have HL := Lib.hid (lives10 (HA.out.over (cq_below hbeg.cq hB hW)))
    have hV := ok_hv hG hN
    have hVn : (Hv J ar10 hG hN).n = 12 := rfl
    clear hbeg hcont hB hW HBE
    go_wp2_with fail
    refine HL.out.mono ?_
    rintro e w3 ⟨rfl, hb3⟩
    have HP3 := Lib.hid (HP0.out.grown hb3)
    clear hb3 HL HP0 HA
    have hrel0 : Hid (∃ p, CQ (Hv J ar10 hG hN) w3 g.c n (lFull p 0) x0 (390000 - 2 * 0) [(q, pairO g.c xr)]) := Lib.hid ⟨fun _ => 0, HP3.out⟩
    clear HP3
    go_wp2
    go_loopw [9] (fun s wr => ∃ j : Nat, j ≤ n ∧ s = .int .i64 j ∧ Hid (∃ p, CQ (Hv J ar10 hG hN) wr g.c n (lFull p j) x0 (390000 - 2 * j) [(q, pairO g.c xr)])) (fun s _ => n - (intOf s).toNat)
    case atStart => exact ⟨0, Nat.zero_le _, rfl, hrel0⟩
    case round =>
    obtain ⟨j, hj, rfl, hrel⟩ := hrel
    clear hrel0
    have HPC : Hid (∀ W : World, Go.Proofs.YtepoepmndckmaaaGreatDoor.Kc.SQ [(q, pairO g.c xr)] W → W.cell? ⟨q, 0, none⟩ = some (.pointer (some ⟨g.c, 0, none⟩))) := Lib.hid fun W hW => pair_cell hW.head
    by_cases hlt : j < n
    · obtain ⟨pp, hp⟩ := hrel.out
      have hS := hp.sq
      rw [show 390000 - 2 * j = 389999 - 2 * j + 1 by omega] at hp
      have HPR := Lib.hid (hp.grown ((Below.refl _ wr).drew))
      have HPM : Hid (∀ {y : Int} {l6 : List En} {x6 : Rs}, Go.Proofs.YtepoepmndckmaaaGreatDoor.Kc.PutR (Hv J ar10 hG hN) n (j : Int) (Sh.secOf 9) (lFull pp j) x0 y l6 x6 → y = 0 ∧ x6 = x0 ∧ ∃ p6, l6 = lFull pp j ++ [⟨j, p6, Sh.secOf 9, true, 0⟩]) := Lib.hid fun h => Go.Proofs.YtepoepmndckmaaaGreatDoor.Kc.put_miss (m := j) h rfl (by rw [hVn]; omega) (Sh.secOf_len 9) (Go.Proofs.YtepoepmndckmaaaGreatDoor.Kc.lFull_none pp j) (by rw [Go.Proofs.YtepoepmndckmaaaGreatDoor.Kc.lFull_length]; exact hlt)
      clear hp hrel
      go_wp2_with fail
      refine wp_region_held_drew (S := Go.Proofs.YtepoepmndckmaaaGreatDoor.Kc.SQ [(q, pairO g.c xr)]) (by kernel_rfl) hS (fun hHeld => ?_)
      refine wpAnyH_take (i := 0) (oi := ⟨some 40, _, _, _, _, _⟩) (v := ?_) rfl (by kernel_rfl) (by kernel_rfl) (by kernel_rfl) (fun _ _ _ h => h) (Or.inl ⟨by rfl, ?_⟩) (by assumption) ?_
      rotate_left
      · (intro w hSw; (try dsimp only at hSw); go_simp; first | done | with_reducible rfl)
      try simp only [Act.put, List.setIfInBounds_toArray, List.set_cons_zero, List.set_cons_succ]
      refine wpAnyH_take (i := 1) (oi := ⟨some 41, _, _, _, _, _⟩) (v := ?_) rfl (by kernel_rfl) (by kernel_rfl) (by kernel_rfl) (fun _ _ _ h => h) (Or.inl ⟨by rfl, ?_⟩) (by assumption) ?_
      rotate_left
      · (intro w hSw; (try dsimp only at hSw); go_simp; first | done | with_reducible rfl)
      try simp only [Act.put, List.setIfInBounds_toArray, List.set_cons_zero, List.set_cons_succ]
      refine wpAnyH_take (i := 2) (oi := ⟨some 42, _, _, _, _, _⟩) (v := ?_) rfl (by kernel_rfl) (by kernel_rfl) (by kernel_rfl) (fun _ _ _ h => h) (Or.inl ⟨by rfl, ?_⟩) (by assumption) ?_
      rotate_left
      · (intro w hSw; (try dsimp only at hSw); go_simp; first | done | with_reducible rfl)
      try simp only [Act.put, List.setIfInBounds_toArray, List.set_cons_zero, List.set_cons_succ]
      refine wpAnyH_take (i := 3) (oi := ⟨some 43, _, _, _, _, _⟩) (v := ?_) rfl (by kernel_rfl) (by kernel_rfl) (by kernel_rfl) (fun _ _ _ h => h) (Or.inl ⟨by rfl, ?_⟩) (by assumption) ?_
      rotate_left
      · (intro w hSw; have c9 := HPC.out w hSw; clear hSw; (try dsimp only at hSw); go_simp; first | done | with_reducible rfl)
      try simp only [Act.put, List.setIfInBounds_toArray, List.set_cons_zero, List.set_cons_succ]
      refine wpAnyH_take (i := 4) (oi := ⟨some 44, _, _, _, _, _⟩) (v := ?_) rfl (by kernel_rfl) (by kernel_rfl) (by kernel_rfl) (fun _ _ _ h => h) (Or.inl ⟨by rfl, ?_⟩) (by assumption) ?_
      rotate_left
      · (intro w hSw; (try dsimp only at hSw); go_simp; first | done | with_reducible rfl)
      try simp only [Act.put, List.setIfInBounds_toArray, List.set_cons_zero, List.set_cons_succ]
      refine wpAnyH_ready (rs := [5]) (by kernel_rfl) (by simp) ?_
      refine AllReadyH.cons (o := ⟨some 45, _, _, _, _, _⟩) rfl (fun K hK => ?_) AllReadyH.nil
      go_simp
      refine (Sh.sector_any _ 9 (by decide)).mono ?_
      rintro e w5 ⟨rfl, ho5, hb5⟩
      refine hK.out _ _ ((HPR.out.grown hb5).sq) (fun hHeld => ?_)
      clear hK K
      try simp only [Act.put, List.setIfInBounds_toArray, List.set_cons_zero, List.set_cons_succ]
      refine wpAnyH_ready (rs := [6]) (by kernel_rfl) (by simp) ?_
      refine AllReadyH.cons (o := ⟨some 46, _, _, _, _, _⟩) rfl (fun K hK => ?_) AllReadyH.nil
      go_simp
      refine (HPR.out.put _ (by decide) hb5 ho5).mono ?_
      rintro e w6 ⟨y, l6, x6, rfl, hput, hp6⟩
      refine hK.out _ _ hp6.sq (fun hHeld => ?_)
      clear hK K
      try simp only [Act.put, List.setIfInBounds_toArray, List.set_cons_zero, List.set_cons_succ]
      obtain ⟨rfl, rfl, p6, rfl⟩ := HPM.out hput
      have HPI := Lib.hid (Go.Proofs.YtepoepmndckmaaaGreatDoor.Kc.pin_one hp6 (by omega))
      clear hp6 hput hb5 ho5
      refine wpAnyH_take (i := 7) (oi := ⟨some 47, _, _, _, _, _⟩) (v := ?_) rfl (by kernel_rfl) (by kernel_rfl) (by kernel_rfl) (fun _ _ _ h => h) (Or.inl ⟨by rfl, ?_⟩) (by assumption) ?_
      rotate_left
      · (intro w hSw; (try dsimp only at hSw); go_simp; first | done | with_reducible rfl)
      try simp only [Act.put, List.setIfInBounds_toArray, List.set_cons_zero, List.set_cons_succ]
      refine wpAnyH_take (i := 8) (oi := ⟨some 48, _, _, _, _, _⟩) (v := ?_) rfl (by kernel_rfl) (by kernel_rfl) (by kernel_rfl) (fun _ _ _ h => h) (Or.inl ⟨by rfl, ?_⟩) (by assumption) ?_
      rotate_left
      · (intro w hSw; (try dsimp only at hSw); go_simp; first | done | with_reducible rfl)
      try simp only [Act.put, List.setIfInBounds_toArray, List.set_cons_zero, List.set_cons_succ]
      refine wpAnyH_take (i := 9) (oi := ⟨some 49, _, _, _, _, _⟩) (v := ?_) rfl (by kernel_rfl) (by kernel_rfl) (by kernel_rfl) (fun _ _ _ h => h) (Or.inl ⟨by rfl, ?_⟩) (by assumption) ?_
      rotate_left
      · (intro w hSw; (try dsimp only at hSw); go_simp; first | done | with_reducible rfl)
      try simp only [Act.put, List.setIfInBounds_toArray, List.set_cons_zero, List.set_cons_succ]
      refine wpAnyH_take (i := 10) (oi := ⟨some 50, _, _, _, _, _⟩) (v := ?_) rfl (by kernel_rfl) (by kernel_rfl) (by kernel_rfl) (fun _ _ _ h => h) (Or.inl ⟨by rfl, ?_⟩) (by assumption) ?_
      rotate_left
      · (intro w hSw; (try dsimp only at hSw); go_simp; first | done | with_reducible rfl)
      try simp only [Act.put, List.setIfInBounds_toArray, List.set_cons_zero, List.set_cons_succ]
      refine wpAnyH_take (i := 11) (oi := ⟨some 51, _, _, _, _, _⟩) (v := ?_) rfl (by kernel_rfl) (by kernel_rfl) (by kernel_rfl) (fun _ _ _ h => h) (Or.inl ⟨by rfl, ?_⟩) (by assumption) ?_
      rotate_left
      · (intro w hSw; (try dsimp only at hSw); go_simp; first | done | with_reducible rfl)
      try simp only [Act.put, List.setIfInBounds_toArray, List.set_cons_zero, List.set_cons_succ]
      refine wpAnyH_take (i := 12) (oi := ⟨some 52, _, _, _, _, _⟩) (v := ?_) rfl (by kernel_rfl) (by kernel_rfl) (by kernel_rfl) (fun _ _ _ h => h) (Or.inl ⟨by rfl, ?_⟩) (by assumption) ?_
      rotate_left
      · (intro w hSw; have c9 := HPC.out w hSw; clear hSw; (try dsimp only at hSw); go_simp; first | done | with_reducible rfl)
      try simp only [Act.put, List.setIfInBounds_toArray, List.set_cons_zero, List.set_cons_succ]
      refine wpAnyH_take (i := 13) (oi := ⟨some 53, _, _, _, _, _⟩) (v := ?_) rfl (by kernel_rfl) (by kernel_rfl) (by kernel_rfl) (fun _ _ _ h => h) (Or.inl ⟨by rfl, ?_⟩) (by assumption) ?_
      rotate_left
      · (intro w hSw; (try dsimp only at hSw); go_simp; first | done | with_reducible rfl)
      try simp only [Act.put, List.setIfInBounds_toArray, List.set_cons_zero, List.set_cons_succ]
      refine wpAnyH_ready (rs := [14]) (by kernel_rfl) (by simp) ?_
      refine AllReadyH.cons (o := ⟨some 54, _, _, _, _, _⟩) rfl (fun K hK => ?_) AllReadyH.nil
      go_simp
      refine (HPI.out).mono ?_
      rintro e w7 ⟨rfl, hp7⟩
      refine hK.out _ _ hp7.sq (fun hHeld => ?_)
      clear hK K
      try simp only [Act.put, List.setIfInBounds_toArray, List.set_cons_zero, List.set_cons_succ]
      refine wpAnyH_take (i := 15) (oi := ⟨some 55, _, _, _, _, _⟩) (v := ?_) rfl (by kernel_rfl) (by kernel_rfl) (by kernel_rfl) (fun _ _ _ h => h) (Or.inl ⟨by rfl, ?_⟩) (by assumption) ?_
      rotate_left
      · (intro w hSw; (try dsimp only at hSw); go_simp; first | done | with_reducible rfl)
      try simp only [Act.put, List.setIfInBounds_toArray, List.set_cons_zero, List.set_cons_succ]
      refine wpAnyH_take (i := 16) (oi := ⟨some 56, _, _, _, _, _⟩) (v := ?_) rfl (by kernel_rfl) (by kernel_rfl) (by kernel_rfl) (fun _ _ _ h => h) (Or.inl ⟨by rfl, ?_⟩) (by assumption) ?_
      rotate_left
      · (intro w hSw; (try dsimp only at hSw); go_simp; first | done | with_reducible rfl)
      try simp only [Act.put, List.setIfInBounds_toArray, List.set_cons_zero, List.set_cons_succ]
      refine wpAnyH_done (by kernel_rfl) ?_ _
      have HP7 := Lib.hid hp7
      clear hp7 hHeld HPI HPM HPR
      go_wp2
      go_roundw
      case rel => exact ⟨j + 1, by omega, by go_num, Lib.hid ⟨_, HP7.out.less (by omega)⟩⟩
      case measure => simp [intOf]; omega
    · obtain rfl : j = n := by omega
      obtain ⟨pp, hp⟩ := hrel.out
      have c0 := pair_cell hp.at_
      have HG := Lib.hid ((hp.less (k' := 389980) (by omega)).get 11)
      clear hp hrel
      go_wp2_with fail
      refine HG.out.mono ?_
      rintro r w4 ⟨y, A4, len4, cap4, X4, l4, x4, rfl, hget, hp4, hcase⟩
      obtain ⟨rfl, rfl, Y4, hrd4⟩ := hV.get_none (m := 11) hget rfl (by rw [hVn]; decide) (Go.Proofs.YtepoepmndckmaaaGreatDoor.Kc.lFull_far pp j h10) (by rw [Go.Proofs.YtepoepmndckmaaaGreatDoor.Kc.lFull_length]; omega) (Go.Proofs.YtepoepmndckmaaaGreatDoor.Kc.lFull_pins pp j)
      obtain ⟨e0, _⟩ | ⟨_, rfl, rfl, rfl⟩ := hcase
      · exact absurd e0 (by decide)
      have hS4 := hp4.sq
      have HP4 := Lib.hid (hp4.grown ((Below.refl _ w4).drew))
      have HPM : Hid (∀ {y : Int} {l6 : List En} {x6 : Rs}, Go.Proofs.YtepoepmndckmaaaGreatDoor.Kc.PutR (Hv J ar10 hG hN) j 11 (Sh.secOf 1) (lFull pp j) x4 y l6 x6 → y = 6 ∧ l6 = lFull pp j ∧ x6 = x4) := Lib.hid fun h => Go.Proofs.YtepoepmndckmaaaGreatDoor.Kc.put_none (m := 11) h rfl (by rw [hVn]; decide) (Sh.secOf_len 1) (Go.Proofs.YtepoepmndckmaaaGreatDoor.Kc.lFull_far pp j h10) (by rw [Go.Proofs.YtepoepmndckmaaaGreatDoor.Kc.lFull_length]; omega) (Go.Proofs.YtepoepmndckmaaaGreatDoor.Kc.lFull_pins pp j)
      clear hget hp4 c0 HG hrd4
      go_wp2_with fail
      refine wp_region_held_drew (S := Go.Proofs.YtepoepmndckmaaaGreatDoor.Kc.SQ [(q, pairO g.c xr)]) (by kernel_rfl) hS4 (fun hHeld => ?_)
      refine wpAnyH_take (i := 0) (oi := ⟨some 65, _, _, _, _, _⟩) (v := ?_) rfl (by kernel_rfl) (by kernel_rfl) (by kernel_rfl) (fun _ _ _ h => h) (Or.inl ⟨by rfl, ?_⟩) (by assumption) ?_
      rotate_left
      · (intro w hSw; (try dsimp only at hSw); go_simp; first | done | with_reducible rfl)
      try simp only [Act.put, List.setIfInBounds_toArray, List.set_cons_zero, List.set_cons_succ]
      refine wpAnyH_take (i := 1) (oi := ⟨some 66, _, _, _, _, _⟩) (v := ?_) rfl (by kernel_rfl) (by kernel_rfl) (by kernel_rfl) (fun _ _ _ h => h) (Or.inl ⟨by rfl, ?_⟩) (by assumption) ?_
      rotate_left
      · (intro w hSw; (try dsimp only at hSw); go_simp; first | done | with_reducible rfl)
      try simp only [Act.put, List.setIfInBounds_toArray, List.set_cons_zero, List.set_cons_succ]
      refine wpAnyH_take (i := 2) (oi := ⟨some 67, _, _, _, _, _⟩) (v := ?_) rfl (by kernel_rfl) (by kernel_rfl) (by kernel_rfl) (fun _ _ _ h => h) (Or.inl ⟨by rfl, ?_⟩) (by assumption) ?_
      rotate_left
      · (intro w hSw; (try dsimp only at hSw); go_simp; first | done | with_reducible rfl)
      try simp only [Act.put, List.setIfInBounds_toArray, List.set_cons_zero, List.set_cons_succ]
      refine wpAnyH_take (i := 3) (oi := ⟨some 68, _, _, _, _, _⟩) (v := ?_) rfl (by kernel_rfl) (by kernel_rfl) (by kernel_rfl) (fun _ _ _ h => h) (Or.inl ⟨by rfl, ?_⟩) (by assumption) ?_
      rotate_left
      · (intro w hSw; have c9 := HPC.out w hSw; clear hSw; (try dsimp only at hSw); go_simp; first | done | with_reducible rfl)
      try simp only [Act.put, List.setIfInBounds_toArray, List.set_cons_zero, List.set_cons_succ]
      refine wpAnyH_ready (rs := [4]) (by kernel_rfl) (by simp) ?_
      refine AllReadyH.cons (o := ⟨some 69, _, _, _, _, _⟩) rfl (fun K hK => ?_) AllReadyH.nil
      go_simp
      refine (Sh.sector_any _ 1 (by decide)).mono ?_
      rintro e w5 ⟨rfl, ho5, hb5⟩
      refine hK.out _ _ ((HP4.out.grown hb5).sq) (fun hHeld => ?_)
      clear hK K
      try simp only [Act.put, List.setIfInBounds_toArray, List.set_cons_zero, List.set_cons_succ]
      refine wpAnyH_ready (rs := [5]) (by kernel_rfl) (by simp) ?_
      refine AllReadyH.cons (o := ⟨some 70, _, _, _, _, _⟩) rfl (fun K hK => ?_) AllReadyH.nil
      go_simp
      refine (HP4.out.put _ (by decide) hb5 ho5).mono ?_
      rintro e w6 ⟨y, l6, x6, rfl, hput, hp6⟩
      refine hK.out _ _ hp6.sq (fun hHeld => ?_)
      clear hK K
      try simp only [Act.put, List.setIfInBounds_toArray, List.set_cons_zero, List.set_cons_succ]
      obtain ⟨rfl, rfl, rfl⟩ := HPM.out hput
      refine wpAnyH_take (i := 6) (oi := ⟨some 12, _, _, _, _, _⟩) (v := ?_) rfl (by kernel_rfl) (by kernel_rfl) (by kernel_rfl) (fun _ _ _ h => h) (Or.inl ⟨by rfl, ?_⟩) (by assumption) ?_
      rotate_left
      · (intro w hSw; (try dsimp only at hSw); go_simp; first | done | with_reducible rfl)
      try simp only [Act.put, List.setIfInBounds_toArray, List.set_cons_zero, List.set_cons_succ]
      refine wpAnyH_done (by kernel_rfl) ?_ _
      have c6 := pair_cell hp6.at_
      have HG0 := Lib.hid (hp6.get 0)
      clear hp6 hput hb5 ho5 hHeld HPM HP4
      go_wp2_with fail
      refine HG0.out.mono ?_
      rintro r w7 ⟨y, A7, len7, cap7, X7, l7, x7, rfl, hget7, hp7, hgot7⟩
      obtain ⟨rfl, rfl, rfl, rfl⟩ := Go.Proofs.YtepoepmndckmaaaGreatDoor.Kc.get_hit hget7 ⟨by decide, by rw [hVn]; decide⟩ (Go.Proofs.YtepoepmndckmaaaGreatDoor.Kc.lFull_zero pp j (by omega))
      obtain ⟨_, rfl, ad7, o7, rfl, hby7, _, hq7⟩ | ⟨h0, _⟩ := hgot7
      rotate_left
      · exact absurd rfl h0
      have hfull := (Go.Proofs.YtepoepmndckmaaaGreatDoor.Kc.lFull_full pp j).use (Go.Proofs.YtepoepmndckmaaaGreatDoor.Kc.finds_some (Go.Proofs.YtepoepmndckmaaaGreatDoor.Kc.lFull_zero pp j (by omega))).1
      generalize hl7 : Go.Proofs.YtepoepmndckmaaaGreatDoor.Kc.useE (Go.Proofs.YtepoepmndckmaaaGreatDoor.Kc.lFull pp j) ⟨0, pp 0, Sh.secOf 9, true, 1⟩ = l7 at *
      have HFU := Lib.hid hfull
      have HQ7 := Lib.hid hq7
      obtain ⟨kk, hkk, hz⟩ := Go.Proofs.YtepoepmndckmaaaGreatDoor.Kc.tmodn bl j (by omega)
      have HZ := Lib.hid hz
      have hj1 : 1 ≤ (j : Int) := by omega
      have hj0 : (j : Int) ≠ 0 := by omega
      have HCV := Lib.hid (Go.Proofs.YtepoepmndckmaaaGreatDoor.Kc.got_conv hby7 rfl hq7.at_)
      clear hget7 hp7 hq7 hby7 hfull HG0 hz c6 hl7
      go_upto_if 83 with fail
      go_cut [15] (fun s15 wx => s15 = .int .i64 (kk : Int) ∧ wx = w7)
      case first =>
        rcases HZ.out with ⟨e1, e2, e3⟩ | ⟨e1, e2⟩
        · have q : decide (bl.tmod (j : Int) < 0) = true := decide_eq_true e1
          generalize bl.tmod (j : Int) = t at *
          have HE2 := Lib.hid e2
          clear e2
          go_wp2_with fail
          all_goals (go_meet; exact ⟨by rw [← HE2.out], rfl⟩)
        · rw [e2] at e1
          rw [e2]
          have q : decide ((kk : Int) < 0) = false := decide_eq_false (by omega)
          go_wp2_with fail
          all_goals (go_meet; exact ⟨rfl, rfl⟩)
      case rest =>
        obtain ⟨rfl, rfl⟩ := hcut
        clear HZ
        have hHQ := HQ7.out
        have HP7 := Lib.hid (hHQ.grown ((Below.refl _ wc).drew))
        have HPC : Hid (∀ W : World, Go.Proofs.YtepoepmndckmaaaGreatDoor.Kc.SQ [(ad7.block, o7), (q, pairO g.c xr)] W → W.cell? ⟨q, 0, none⟩ = some (.pointer (some ⟨g.c, 0, none⟩))) := Lib.hid fun W hW => pair_cell hW.tail.head
        have HBY : Hid (∀ W : World, Go.Proofs.YtepoepmndckmaaaGreatDoor.Kc.SQ [(ad7.block, o7), (q, pairO g.c xr)] W → (convert 40 9 (.slice (some ad7) 128 cap7)).run Tryz.prog W = .ok (.string (Sh.strL (Sh.secOf 9))) W) := Lib.hid fun W hW => HCV.out W hW.head cap7 _ rfl
        have hS7 := hHQ.sq
        generalize hs9 : Sh.strL (Sh.secOf 9) = s9 at *
        have HS9 := Lib.hid hs9
        clear hHQ HQ7 HCV hs9
        go_wp2_with fail
        refine wp_region_held_drew (S := Go.Proofs.YtepoepmndckmaaaGreatDoor.Kc.SQ [(ad7.block, o7), (q, pairO g.c xr)]) (by kernel_rfl) hS7 (fun hHeld => ?_)
        refine wpAnyH_take (i := 0) (oi := ⟨some 86, _, _, _, _, _⟩) (v := ?_) rfl (by kernel_rfl) (by kernel_rfl) (by kernel_rfl) (fun _ _ _ h => h) (Or.inl ⟨by rfl, ?_⟩) (by assumption) ?_
        rotate_left
        · (intro w hSw; (try dsimp only at hSw); go_simp; first | done | with_reducible rfl)
        try simp only [Act.put, List.setIfInBounds_toArray, List.set_cons_zero, List.set_cons_succ]
        refine wpAnyH_take (i := 1) (oi := ⟨some 87, _, _, _, _, _⟩) (v := ?_) rfl (by kernel_rfl) (by kernel_rfl) (by kernel_rfl) (fun _ _ _ h => h) (Or.inl ⟨by rfl, ?_⟩) (by assumption) ?_
        rotate_left
        · (intro w hSw; (try dsimp only at hSw); go_simp; first | done | with_reducible rfl)
        try simp only [Act.put, List.setIfInBounds_toArray, List.set_cons_zero, List.set_cons_succ]
        refine wpAnyH_take (i := 2) (oi := ⟨some 88, _, _, _, _, _⟩) (v := ?_) rfl (by kernel_rfl) (by kernel_rfl) (by kernel_rfl) (fun _ _ _ h => h) (Or.inl ⟨by rfl, ?_⟩) (by assumption) ?_
        rotate_left
        · (intro w hSw; (try dsimp only at hSw); go_simp; first | done | with_reducible rfl)
        try simp only [Act.put, List.setIfInBounds_toArray, List.set_cons_zero, List.set_cons_succ]
        refine wpAnyH_take (i := 3) (oi := ⟨some 89, _, _, _, _, _⟩) (v := ?_) rfl (by kernel_rfl) (by kernel_rfl) (by kernel_rfl) (fun _ _ _ h => h) (Or.inl ⟨by rfl, ?_⟩) (by assumption) ?_
        rotate_left
        · (intro w hSw; (try dsimp only at hSw); go_simp; first | done | with_reducible rfl)
        try simp only [Act.put, List.setIfInBounds_toArray, List.set_cons_zero, List.set_cons_succ]
        refine wpAnyH_take (i := 4) (oi := ⟨some 90, _, _, _, _, _⟩) (v := ?_) rfl (by kernel_rfl) (by kernel_rfl) (by kernel_rfl) (fun _ _ _ h => h) (Or.inl ⟨by rfl, ?_⟩) (by assumption) ?_
        rotate_left
        · (intro w hSw; (try dsimp only at hSw); go_simp; first | done | with_reducible rfl)
        try simp only [Act.put, List.setIfInBounds_toArray, List.set_cons_zero, List.set_cons_succ]
        refine wpAnyH_take (i := 5) (oi := ⟨some 91, _, _, _, _, _⟩) (v := ?_) rfl (by kernel_rfl) (by kernel_rfl) (by kernel_rfl) (fun _ _ _ h => h) (Or.inl ⟨by rfl, ?_⟩) (by assumption) ?_
        rotate_left
        · (intro w hSw; (try dsimp only at hSw); go_simp; first | done | with_reducible rfl)
        try simp only [Act.put, List.setIfInBounds_toArray, List.set_cons_zero, List.set_cons_succ]
        refine wpAnyH_take (i := 6) (oi := ⟨some 92, _, _, _, _, _⟩) (v := ?_) rfl (by kernel_rfl) (by kernel_rfl) (by kernel_rfl) (fun _ _ _ h => h) (Or.inl ⟨by rfl, ?_⟩) (by assumption) ?_
        rotate_left
        · (intro w hSw; (try dsimp only at hSw); go_simp; first | done | with_reducible rfl)
        try simp only [Act.put, List.setIfInBounds_toArray, List.set_cons_zero, List.set_cons_succ]
        refine wpAnyH_take (i := 7) (oi := ⟨some 93, _, _, _, _, _⟩) (v := ?_) rfl (by kernel_rfl) (by kernel_rfl) (by kernel_rfl) (fun _ _ _ h => h) (Or.inl ⟨by rfl, ?_⟩) (by assumption) ?_
        rotate_left
        · (intro w hSw; (try dsimp only at hSw); go_simp; first | done | with_reducible rfl)
        try simp only [Act.put, List.setIfInBounds_toArray, List.set_cons_zero, List.set_cons_succ]
        refine wpAnyH_take (i := 8) (oi := ⟨some 94, _, _, _, _, _⟩) (v := ?_) rfl (by kernel_rfl) (by kernel_rfl) (by kernel_rfl) (fun _ _ _ h => h) (Or.inl ⟨by rfl, ?_⟩) (by assumption) ?_
        rotate_left
        · (intro w hSw; (try dsimp only at hSw); go_simp; first | done | with_reducible rfl)
        try simp only [Act.put, List.setIfInBounds_toArray, List.set_cons_zero, List.set_cons_succ]
        refine wpAnyH_take (i := 9) (oi := ⟨some 95, _, _, _, _, _⟩) (v := ?_) rfl (by kernel_rfl) (by kernel_rfl) (by kernel_rfl) (fun _ _ _ h => h) (Or.inl ⟨by rfl, ?_⟩) (by assumption) ?_
        rotate_left
        · (intro w hSw; (try dsimp only at hSw); go_simp; first | done | with_reducible rfl)
        try simp only [Act.put, List.setIfInBounds_toArray, List.set_cons_zero, List.set_cons_succ]
        refine wpAnyH_take (i := 10) (oi := ⟨some 96, _, _, _, _, _⟩) (v := ?_) rfl (by kernel_rfl) (by kernel_rfl) (by kernel_rfl) (fun _ _ _ h => h) (Or.inl ⟨by rfl, ?_⟩) (by assumption) ?_
        rotate_left
        · (intro w hSw; (try dsimp only at hSw); go_simp; first | done | with_reducible rfl)
        try simp only [Act.put, List.setIfInBounds_toArray, List.set_cons_zero, List.set_cons_succ]
        refine wpAnyH_take (i := 11) (oi := ⟨some 97, _, _, _, _, _⟩) (v := ?_) rfl (by kernel_rfl) (by kernel_rfl) (by kernel_rfl) (fun _ _ _ h => h) (Or.inl ⟨by rfl, ?_⟩) (by assumption) ?_
        rotate_left
        · (intro w hSw; (try dsimp only at hSw); go_simp; first | done | with_reducible rfl)
        try simp only [Act.put, List.setIfInBounds_toArray, List.set_cons_zero, List.set_cons_succ]
        refine wpAnyH_take (i := 12) (oi := ⟨some 98, _, _, _, _, _⟩) (v := ?_) rfl (by kernel_rfl) (by kernel_rfl) (by kernel_rfl) (fun _ _ _ h => h) (Or.inl ⟨by rfl, ?_⟩) (by assumption) ?_
        rotate_left
        · (intro w hSw; (try dsimp only at hSw); go_simp; first | done | with_reducible rfl)
        try simp only [Act.put, List.setIfInBounds_toArray, List.set_cons_zero, List.set_cons_succ]
        refine wpAnyH_take (i := 13) (oi := ⟨some 99, _, _, _, _, _⟩) (v := ?_) rfl (by kernel_rfl) (by kernel_rfl) (by kernel_rfl) (fun _ _ _ h => h) (Or.inl ⟨by rfl, ?_⟩) (by assumption) ?_
        rotate_left
        · (intro w hSw; (try dsimp only at hSw); go_simp; first | done | with_reducible rfl)
        try simp only [Act.put, List.setIfInBounds_toArray, List.set_cons_zero, List.set_cons_succ]
        refine wpAnyH_take (i := 14) (oi := ⟨some 100, _, _, _, _, _⟩) (v := ?_) rfl (by kernel_rfl) (by kernel_rfl) (by kernel_rfl) (fun _ _ _ h => h) (Or.inl ⟨by rfl, ?_⟩) (by assumption) ?_
        rotate_left
        · (intro w hSw; (try dsimp only at hSw); go_simp; first | done | with_reducible rfl)
        try simp only [Act.put, List.setIfInBounds_toArray, List.set_cons_zero, List.set_cons_succ]
        refine wpAnyH_take (i := 15) (oi := ⟨some 101, _, _, _, _, _⟩) (v := ?_) rfl (by kernel_rfl) (by kernel_rfl) (by kernel_rfl) (fun _ _ _ h => h) (Or.inl ⟨by rfl, ?_⟩) (by assumption) ?_
        rotate_left
        · (intro w hSw; (try dsimp only at hSw); go_simp; first | done | with_reducible rfl)
        try simp only [Act.put, List.setIfInBounds_toArray, List.set_cons_zero, List.set_cons_succ]
        refine wpAnyH_take (i := 16) (oi := ⟨some 102, _, _, _, _, _⟩) (v := ?_) rfl (by kernel_rfl) (by kernel_rfl) (by kernel_rfl) (fun _ _ _ h => h) (Or.inl ⟨by rfl, ?_⟩) (by assumption) ?_
        rotate_left
        · (intro w hSw; (try dsimp only at hSw); go_simp; first | done | with_reducible rfl)
        try simp only [Act.put, List.setIfInBounds_toArray, List.set_cons_zero, List.set_cons_succ]
        refine wpAnyH_take (i := 17) (oi := ⟨some 103, _, _, _, _, _⟩) (v := ?_) rfl (by kernel_rfl) (by kernel_rfl) (by kernel_rfl) (fun _ _ _ h => h) (Or.inl ⟨by rfl, ?_⟩) (by assumption) ?_
        rotate_left
        · (intro w hSw; have c9 := HBY.out w hSw; clear hSw; (try dsimp only at hSw); go_simp; first | done | with_reducible rfl)
        try simp only [Act.put, List.setIfInBounds_toArray, List.set_cons_zero, List.set_cons_succ]
        refine wpAnyH_ready (rs := [18]) (by kernel_rfl) (by simp) ?_
        refine AllReadyH.cons (o := ⟨some 104, _, _, _, _, _⟩) rfl (fun K hK => ?_) AllReadyH.nil
        go_simp
        refine (Sh.sector_any _ 9 (by decide)).mono ?_
        rintro e w8 ⟨rfl, ho8, hb8⟩
        refine hK.out _ _ ((HP7.out.grown hb8).sq) (fun hHeld => ?_)
        clear hK K
        try simp only [Act.put, List.setIfInBounds_toArray, List.set_cons_zero, List.set_cons_succ]
        obtain ⟨o8, hbl8, hcv8⟩ := Go.Proofs.YtepoepmndckmaaaGreatDoor.Kc.own_conv ho8
        have hq8 := HP7.out.add hb8 (Nat.le_refl _) hbl8
        have HPC8 : Hid (∀ W : World, Go.Proofs.YtepoepmndckmaaaGreatDoor.Kc.SQ [(wc.heap.size, o8), (ad7.block, o7), (q, pairO g.c xr)] W → W.cell? ⟨q, 0, none⟩ = some (.pointer (some ⟨g.c, 0, none⟩))) := Lib.hid fun W hW => HPC.out W hW.tail
        have HBY8 : Hid (∀ W : World, Go.Proofs.YtepoepmndckmaaaGreatDoor.Kc.SQ [(wc.heap.size, o8), (ad7.block, o7), (q, pairO g.c xr)] W → (convert 40 9 (.slice (some ⟨wc.heap.size, 0, none⟩) 128 128)).run Tryz.prog W = .ok (.string s9) W) := Lib.hid fun W hW => hcv8 W hW.head _ HS9.out
        have HQ8 := Lib.hid hq8
        refine Sh.wpAnyH_mono (S' := Go.Proofs.YtepoepmndckmaaaGreatDoor.Kc.SQ [(wc.heap.size, o8), (ad7.block, o7), (q, pairO g.c xr)]) (fun W hW => hW.tail) _ _ _ _ ?_
        clear hHeld
        have hHeld : (Go.Proofs.YtepoepmndckmaaaGreatDoor.Kc.SQ [(wc.heap.size, o8), (ad7.block, o7), (q, pairO g.c xr)]) _ := hq8.sq
        have HB8 := Lib.hid hq8.blocks
        clear HPC HBY HP7 ho8 hb8 hbl8 hcv8 hq8
        clear hS7
        refine wpAnyH_take (i := 19) (oi := ⟨some 105, _, _, _, _, _⟩) (v := ?_) rfl (by kernel_rfl) (by kernel_rfl) (by kernel_rfl) (fun _ _ _ h => h) (Or.inl ⟨by rfl, ?_⟩) (by assumption) ?_
        rotate_left
        · (intro w hSw; have c9 := HBY8.out w hSw; clear hSw; (try dsimp only at hSw); go_simp; first | done | with_reducible rfl)
        try simp only [Act.put, List.setIfInBounds_toArray, List.set_cons_zero, List.set_cons_succ]
        refine wpAnyH_take (i := 20) (oi := ⟨some 106, _, _, _, _, _⟩) (v := ?_) rfl (by kernel_rfl) (by kernel_rfl) (by kernel_rfl) (fun _ _ _ h => h) (Or.inl ⟨by rfl, ?_⟩) (by assumption) ?_
        rotate_left
        · (intro w hSw; (try dsimp only at hSw); go_simp; first | done | with_reducible rfl)
        try simp only [Act.put, List.setIfInBounds_toArray, List.set_cons_zero, List.set_cons_succ]
        refine wpAnyH_take (i := 21) (oi := ⟨some 107, _, _, _, _, _⟩) (v := ?_) rfl (by kernel_rfl) (by kernel_rfl) (by kernel_rfl) (fun _ _ _ h => h) (Or.inl ⟨by rfl, ?_⟩) (by assumption) ?_
        rotate_left
        · (intro w hSw; (try dsimp only at hSw); go_simp; first | done | with_reducible rfl)
        try simp only [Act.put, List.setIfInBounds_toArray, List.set_cons_zero, List.set_cons_succ]
        refine wpAnyH_take (i := 22) (oi := ⟨some 108, _, _, _, _, _⟩) (v := ?_) rfl (by kernel_rfl) (by kernel_rfl) (by kernel_rfl) (fun _ _ _ h => h) (Or.inl ⟨by rfl, ?_⟩) (by assumption) ?_
        rotate_left
        · (intro w hSw; (try dsimp only at hSw); go_simp; first | done | with_reducible rfl)
        try simp only [Act.put, List.setIfInBounds_toArray, List.set_cons_zero, List.set_cons_succ]
        refine wpAnyH_take (i := 23) (oi := ⟨some 109, _, _, _, _, _⟩) (v := ?_) rfl (by kernel_rfl) (by kernel_rfl) (by kernel_rfl) (fun _ _ _ h => h) (Or.inl ⟨by rfl, ?_⟩) (by assumption) ?_
        rotate_left
        · (intro w hSw; (try dsimp only at hSw); go_simp; first | done | with_reducible rfl)
        try simp only [Act.put, List.setIfInBounds_toArray, List.set_cons_zero, List.set_cons_succ]
        refine wpAnyH_take (i := 24) (oi := ⟨some 110, _, _, _, _, _⟩) (v := ?_) rfl (by kernel_rfl) (by kernel_rfl) (by kernel_rfl) (fun _ _ _ h => h) (Or.inl ⟨by rfl, ?_⟩) (by assumption) ?_
        rotate_left
        · (intro w hSw; (try dsimp only at hSw); go_simp; first | done | with_reducible rfl)
        try simp only [Act.put, List.setIfInBounds_toArray, List.set_cons_zero, List.set_cons_succ]
        refine wpAnyH_take (i := 25) (oi := ⟨some 111, _, _, _, _, _⟩) (v := ?_) rfl (by kernel_rfl) (by kernel_rfl) (by kernel_rfl) (fun _ _ _ h => h) (Or.inl ⟨by rfl, ?_⟩) (by assumption) ?_
        rotate_left
        · (intro w hSw; (try dsimp only at hSw); go_simp; first | done | with_reducible rfl)
        try simp only [Act.put, List.setIfInBounds_toArray, List.set_cons_zero, List.set_cons_succ]
        refine wpAnyH_take (i := 26) (oi := ⟨some 112, _, _, _, _, _⟩) (v := ?_) rfl (by kernel_rfl) (by kernel_rfl) (by kernel_rfl) (fun _ _ _ h => h) (Or.inl ⟨by rfl, ?_⟩) (by assumption) ?_
        rotate_left
        · (intro w hSw; have c9 := HPC8.out w hSw; clear hSw; (try dsimp only at hSw); go_simp; first | done | with_reducible rfl)
        try simp only [Act.put, List.setIfInBounds_toArray, List.set_cons_zero, List.set_cons_succ]
        refine wpAnyH_take (i := 29) (oi := ⟨some 115, _, _, _, _, _⟩) (v := ?_) rfl (by kernel_rfl) (by kernel_rfl) (by kernel_rfl) (fun _ _ _ h => h) (Or.inl ⟨by rfl, ?_⟩) (by assumption) ?_
        rotate_left
        · (intro w hSw; (try dsimp only at hSw); go_simp; first | done | with_reducible rfl)
        try simp only [Act.put, List.setIfInBounds_toArray, List.set_cons_zero, List.set_cons_succ]
        refine wpAnyH_ready (rs := [27]) (by kernel_rfl) (by simp) ?_
        refine AllReadyH.cons (o := ⟨some 113, _, _, _, _, _⟩) rfl (fun K hK => ?_) AllReadyH.nil
        go_simp
        refine (HB8.out).mono ?_
        rintro e w9 ⟨v9, rfl, ho9, hb9⟩
        refine hK.out _ _ ((HQ8.out.grown hb9).sq) (fun hHeld => ?_)
        clear hK K
        try simp only [Act.put, List.setIfInBounds_toArray, List.set_cons_zero, List.set_cons_succ]
        have hl7 := HFU.out.len
        obtain ⟨b9, c9, o9, hv9, _, _, _⟩ := Go.Proofs.YtepoepmndckmaaaGreatDoor.Kc.own_block ho9 (by omega)
        subst hv9
        rw [hl7]
        obtain ⟨ek, hek, hp1⟩ := HFU.out.finds hkk
        have HU := Lib.hid ((HQ8.out.grown hb9).unpin1 (by omega) hek (by omega))
        have HFR := Lib.hid (HFU.out.free hek h10)
        clear ho9 hb9 HB8 HQ8 hl7 hek hp1
        refine wpAnyH_take (i := 28) (oi := ⟨some 114, _, _, _, _, _⟩) (v := ?_) rfl (by kernel_rfl) (by kernel_rfl) (by kernel_rfl) (fun _ _ _ h => h) (Or.inl ⟨by rfl, ?_⟩) (by assumption) ?_
        rotate_left
        · (intro w hSw; (try dsimp only at hSw); go_simp; first | done | with_reducible rfl)
        try simp only [Act.put, List.setIfInBounds_toArray, List.set_cons_zero, List.set_cons_succ]
        refine wpAnyH_take (i := 30) (oi := ⟨some 116, _, _, _, _, _⟩) (v := ?_) rfl (by kernel_rfl) (by kernel_rfl) (by kernel_rfl) (fun _ _ _ h => h) (Or.inl ⟨by rfl, ?_⟩) (by assumption) ?_
        rotate_left
        · (intro w hSw; (try dsimp only at hSw); go_simp; first | done | with_reducible rfl)
        try simp only [Act.put, List.setIfInBounds_toArray, List.set_cons_zero, List.set_cons_succ]
        refine wpAnyH_take (i := 31) (oi := ⟨some 117, _, _, _, _, _⟩) (v := ?_) rfl (by kernel_rfl) (by kernel_rfl) (by kernel_rfl) (fun _ _ _ h => h) (Or.inl ⟨by rfl, ?_⟩) (by assumption) ?_
        rotate_left
        · (intro w hSw; (try dsimp only at hSw); go_simp; first | done | with_reducible rfl)
        try simp only [Act.put, List.setIfInBounds_toArray, List.set_cons_zero, List.set_cons_succ]
        refine wpAnyH_take (i := 32) (oi := ⟨some 118, _, _, _, _, _⟩) (v := ?_) rfl (by kernel_rfl) (by kernel_rfl) (by kernel_rfl) (fun _ _ _ h => h) (Or.inl ⟨by rfl, ?_⟩) (by assumption) ?_
        rotate_left
        · (intro w hSw; (try dsimp only at hSw); go_simp; first | done | with_reducible rfl)
        try simp only [Act.put, List.setIfInBounds_toArray, List.set_cons_zero, List.set_cons_succ]
        refine wpAnyH_take (i := 33) (oi := ⟨some 119, _, _, _, _, _⟩) (v := ?_) rfl (by kernel_rfl) (by kernel_rfl) (by kernel_rfl) (fun _ _ _ h => h) (Or.inl ⟨by rfl, ?_⟩) (by assumption) ?_
        rotate_left
        · (intro w hSw; (try dsimp only at hSw); go_simp; first | done | with_reducible rfl)
        try simp only [Act.put, List.setIfInBounds_toArray, List.set_cons_zero, List.set_cons_succ]
        refine wpAnyH_take (i := 34) (oi := ⟨some 120, _, _, _, _, _⟩) (v := ?_) rfl (by kernel_rfl) (by kernel_rfl) (by kernel_rfl) (fun _ _ _ h => h) (Or.inl ⟨by rfl, ?_⟩) (by assumption) ?_
        rotate_left
        · (intro w hSw; (try dsimp only at hSw); go_simp; first | done | with_reducible rfl)
        try simp only [Act.put, List.setIfInBounds_toArray, List.set_cons_zero, List.set_cons_succ]
        refine wpAnyH_take (i := 35) (oi := ⟨some 121, _, _, _, _, _⟩) (v := ?_) rfl (by kernel_rfl) (by kernel_rfl) (by kernel_rfl) (fun _ _ _ h => h) (Or.inl ⟨by rfl, ?_⟩) (by assumption) ?_
        rotate_left
        · (intro w hSw; (try dsimp only at hSw); go_simp; first | done | with_reducible rfl)
        try simp only [Act.put, List.setIfInBounds_toArray, List.set_cons_zero, List.set_cons_succ]
        refine wpAnyH_take (i := 36) (oi := ⟨some 122, _, _, _, _, _⟩) (v := ?_) rfl (by kernel_rfl) (by kernel_rfl) (by kernel_rfl) (fun _ _ _ h => h) (Or.inl ⟨by rfl, ?_⟩) (by assumption) ?_
        rotate_left
        · (intro w hSw; have c9 := HPC8.out w hSw; clear hSw; (try dsimp only at hSw); go_simp; first | done | with_reducible rfl)
        try simp only [Act.put, List.setIfInBounds_toArray, List.set_cons_zero, List.set_cons_succ]
        refine wpAnyH_take (i := 37) (oi := ⟨some 123, _, _, _, _, _⟩) (v := ?_) rfl (by kernel_rfl) (by kernel_rfl) (by kernel_rfl) (fun _ _ _ h => h) (Or.inl ⟨by rfl, ?_⟩) (by assumption) ?_
        rotate_left
        · (intro w hSw; (try dsimp only at hSw); go_simp; first | done | with_reducible rfl)
        try simp only [Act.put, List.setIfInBounds_toArray, List.set_cons_zero, List.set_cons_succ]
        refine wpAnyH_ready (rs := [38]) (by kernel_rfl) (by simp) ?_
        refine AllReadyH.cons (o := ⟨some 124, _, _, _, _, _⟩) rfl (fun K hK => ?_) AllReadyH.nil
        go_simp
        refine (HU.out).mono ?_
        rintro e w10 ⟨rfl, hq10⟩
        refine hK.out _ _ hq10.sq (fun hHeld => ?_)
        clear hK K
        try simp only [Act.put, List.setIfInBounds_toArray, List.set_cons_zero, List.set_cons_succ]
        refine wpAnyH_take (i := 39) (oi := ⟨some 125, _, _, _, _, _⟩) (v := ?_) rfl (by kernel_rfl) (by kernel_rfl) (by kernel_rfl) (fun _ _ _ h => h) (Or.inl ⟨by rfl, ?_⟩) (by assumption) ?_
        rotate_left
        · (intro w hSw; (try dsimp only at hSw); go_simp; first | done | with_reducible rfl)
        try simp only [Act.put, List.setIfInBounds_toArray, List.set_cons_zero, List.set_cons_succ]
        refine wpAnyH_take (i := 40) (oi := ⟨some 126, _, _, _, _, _⟩) (v := ?_) rfl (by kernel_rfl) (by kernel_rfl) (by kernel_rfl) (fun _ _ _ h => h) (Or.inl ⟨by rfl, ?_⟩) (by assumption) ?_
        rotate_left
        · (intro w hSw; (try dsimp only at hSw); go_simp; first | done | with_reducible rfl)
        try simp only [Act.put, List.setIfInBounds_toArray, List.set_cons_zero, List.set_cons_succ]
        refine wpAnyH_done (by kernel_rfl) ?_ _
        have HG10 := Lib.hid ((hq10.less (k' := 380002) (by omega)).get 11)
        have c10 := pair_cell hq10.tail.at2
        obtain ⟨f1, f2, e2, f3, f4, f5, f6⟩ := HFR.out
        have HF6 := Lib.hid f6
        have HGL : Hid (∀ {y : Int} {X : Sh.Bs} {l2 : List En} {x2 : Rs}, Go.Proofs.YtepoepmndckmaaaGreatDoor.Kc.GetR (Hv J ar10 hG hN) j 11 (Go.Proofs.YtepoepmndckmaaaGreatDoor.Kc.putE l7 { ek with pins := ek.pins - 1 }) x7 y X l2 x2 → y = 0 ∧ ∃ p, l2 = Go.Proofs.YtepoepmndckmaaaGreatDoor.Kc.dropE (Go.Proofs.YtepoepmndckmaaaGreatDoor.Kc.putE l7 { ek with pins := ek.pins - 1 }) e2.k ++ [⟨11, p, X, false, 0⟩]) := Lib.hid fun h => by
          obtain ⟨q1, _, _, p, _, _, q2⟩ := hV.get_left (m := 11) h rfl (by rw [hVn]; decide) f1 f2 f3 f4
          exact ⟨q1, p, q2⟩
        clear hq10 hHeld HU HPC8 HBY8 HFR f1 f2 f3 f4 f5 f6
        go_wp2_with fail
        refine HG10.out.mono ?_
        rintro r w11 ⟨y, A11, len11, cap11, X11, l11, x11, rfl, hget11, hq11, _⟩
        obtain ⟨rfl, p11, rfl⟩ := HGL.out hget11
        have hend := HF6.out ⟨11, p11, X11, false, 0⟩ rfl
        have HB11 := Lib.hid hq11.blocks
        have c11 := pair_cell hq11.tail.at2
        have HQ11 := Lib.hid hq11
        have HEND := Lib.hid hend
        clear hget11 hq11 hend HG10 HGL HF6 c10
        go_wp2_with fail
        refine HB11.out.mono ?_
        rintro r w12 ⟨v12, rfl, ho12, hb12⟩
        rw [HEND.out.1] at ho12
        obtain ⟨b12, cp12, o12, hv12, hlo12, hbl12, hrd12⟩ := Go.Proofs.YtepoepmndckmaaaGreatDoor.Kc.own_block ho12 (by omega)
        subst hv12
        have hq12 := HQ11.out.add hb12 hlo12 hbl12
        have HBL := Lib.hid (cq_below hq12 HBW.out.1 HBW.out.2)
        have HRD := Lib.hid hrd12
        have HO12 := Lib.hid hbl12
        clear ho12 hb12 hlo12 hbl12 hrd12 hq12 HB11 HQ11 c11
        generalize hl12 : Go.Proofs.YtepoepmndckmaaaGreatDoor.Kc.dropE (Go.Proofs.YtepoepmndckmaaaGreatDoor.Kc.putE l7 { ek with pins := ek.pins - 1 }) e2.k = l12 at *
        clear hl12
        go_wp2
        go_loopw [17] (fun s wx => ∃ t : Nat, t ≤ j ∧ s = .int .i64 t ∧ wx = w12) (fun s _ => j - (intOf s).toNat)
        case atStart => exact ⟨0, Nat.zero_le _, rfl, rfl⟩
        case round =>
          obtain ⟨t, ht, rfl, rfl⟩ := hrel
          by_cases hlt : t < j
          · have hlt2 : t < (l12 ++ ([⟨11, p11, X11, false, 0⟩] : List En)).length := by rw [HEND.out.1]; exact hlt
            have d12 := HRD.out wr HO12.out t (.int .i64 (((l12 ++ ([⟨11, p11, X11, false, 0⟩] : List En))[t].k : Nat) : Int)) (by unfold Go.Proofs.YtepoepmndckmaaaGreatDoor.Kc.keysV; rw [List.getElem?_map, List.getElem?_eq_getElem hlt2]; rfl)
            have hne := HEND.out.2 _ (List.getElem_mem hlt2)
            generalize (l12 ++ ([⟨11, p11, X11, false, 0⟩] : List En))[t].k = kt at *
            have qk : ((kt : Int) == (kk : Int)) = false := by rw [beq_eq_false_iff_ne]; omega
            clear hne hlt2
            go_wp2
            go_roundw
            case rel => exact ⟨t + 1, by omega, by go_num, by first | trivial | rfl⟩
            case measure => simp [intOf]; omega
          · obtain rfl : t = j := by omega
            have hl1 : l12.length + 1 = t := by have := HEND.out.1; rw [List.length_append, List.length_singleton] at this; exact this
            have d12 := HRD.out wr HO12.out (t - 1) (.int .i64 11) (by unfold Go.Proofs.YtepoepmndckmaaaGreatDoor.Kc.keysV; rw [List.getElem?_map, List.getElem?_append_right (by omega), show t - 1 - l12.length = 0 by omega]; rfl)
            obtain ⟨t1, rfl⟩ : ∃ t1, t = t1 + 1 := ⟨t - 1, by omega⟩
            rw [Nat.add_sub_cancel] at d12
            go_wp2
            go_ret
            exact ⟨rfl, HBL.out⟩
set_option maxRecDepth 100000 in
/-- WHAT THE WALK GIVES, FOR EVERY ARGUMENT AND EVERY WORLD THAT HOLDS THE TABLES. -/
theorem contract (H : Type) (enc : TypeId × Value → H) (W : World) (base : Nat) (args : Array Value) (ds gs : List (DataW H)) (before : List MemPlace)
    (hval : ∀ (j : Nat) t v, Tryz.f6.params[j]? = some t → args[j]? = some v → Value.okWide Tryz.prog W .any base t v)
    (hW : DataW.Whole enc Tryz.prog Tryz.f6.params.toList Rows.cacheFullSpec.vars false W args.toList ds gs before)
    (hsz : (DataW.weightsEach Tryz.prog (Tryz.f6.params.toList ++ (OpenSpec.ofChange Rows.cacheFullSpec).bare.plain.varTypes Tryz.prog) (ds ++ gs)).all (· ≤ reachBytes) = true) (hL : laidMetH Tryz.prog laidBoth W) :
    Calls Tryz.prog 6 args W fun e W' => ∃ v, e = .returned v ∧ Rows.cacheFullSpec.post enc Tryz.prog Tryz.f6 false true false false W args v W' := by
  have hW' := hW
  obtain ⟨p, q, hA0, hV, rfl, hfz, hnd⟩ := hW
  have hA : DataW.TrodAll enc Tryz.prog W 0 (fun _ => true) true Tryz.f6.params.toList args.toList ds p := hA0
  have hsz2 : (DataW.weightsEach Tryz.prog (Tryz.f6.params.toList ++ []) (ds ++ gs)).all (· ≤ reachBytes) = true := hsz
  rw [Tryz.params6] at hA hval hsz2
  obtain ⟨v0, vs0, d0, ds0, p0, q0, hargs, rfl, rfl, h0, r0⟩ := trodAll_cons hA
  obtain ⟨v1, vs1, d1, ds1, p1, q1, rfl, rfl, rfl, h1, r1⟩ := trodAll_cons r0
  obtain ⟨rfl, rfl, rfl⟩ := trodAll_nil r1
  obtain rfl : args = #[v0, v1] := by cases args; simp_all
  obtain ⟨rfl, rfl⟩ := trodVars_none hV
  obtain ⟨a0, rfl, rfl, rfl, w0⟩ := open_int Tryz.underlying3 (hval 0 3 v0 rfl rfl) h0
  have bd0 := bounds_i64 w0
  obtain ⟨a1, rfl, rfl, rfl, w1⟩ := open_int Tryz.underlying3 (hval 1 3 v1 rfl rfl) h1
  have bd1 := bounds_i64 w1
  have hT := tabs_of_laid hL
  refine (walk a0 bd0.1 bd0.2 a1 bd1.1 bd1.2 hT).mono fun e W' ⟨he, bel⟩ => ?_
  subst he
  exact ⟨_, rfl, _, _, _, [], _, [], hW', trodAll_mk1 (shut_bool Tryz.underlying4 _), (trodAll_cons_mk (shut_int Tryz.underlying3 w0) (trodAll_cons_mk (shut_int Tryz.underlying3 w1) trodAll_mk0)), rfl, bel.frame _, fun h => by cases h⟩

theorem laid_met (os : Os) : laidMetH Tryz.prog laidBoth ((laidWorld os).forCall (fun _ _ => 0) ⟨#[], #[.int .i64 0, .int .i64 0], []⟩).memory :=
  laidMetH_of_parts3 (fuel := 8) (laidMet_of_run' 8 (by kernel_rfl) (by kernel_rfl)) (by kernel_rfl) (by kernel_rfl)
theorem reads (os : Os) {H : Type} (enc : TypeId × Value → H) : ∃ places, DataW.whole enc Tryz.prog ((laidWorld os).forCall (fun _ _ => 0) ⟨#[], #[.int .i64 0, .int .i64 0], []⟩).memory Tryz.f6.params.toList Rows.cacheFullSpec.vars false (#[.int .i64 0, .int .i64 0] : Array Value).toList 8 = some ([.lit (.int .i64 0), .lit (.int .i64 0)], [], places) :=
  ⟨[], by kernel_rfl⟩
set_option maxRecDepth 100000 in
theorem lifted (os : Os) (started : os.Started) (H : Type) (enc : TypeId × Value → H) (F : Stop.Interp) :
    ReturnsInHanded {} Tryz.checked os 6 .any ((OpenSpec.ofChange Rows.cacheFullSpec).preRow enc Tryz.prog Tryz.f6 Rows.cacheFullRow.domain false Rows.cacheFullRow.laid) (((OpenSpec.ofChange Rows.cacheFullSpec).at F).post enc Tryz.prog Tryz.f6 false true false false) := by
  obtain ⟨places, hx⟩ := reads os enc
  refine returnsInHanded_of_row (C := Tryz.checked) (s := (OpenSpec.ofChange Rows.cacheFullSpec)) own started (by kernel_rfl) Tryz.func6
    (witness_row_at (enc := enc) (C := Tryz.checked) false (laidWorld os) #[.int .i64 0, .int .i64 0] rfl (by kernel_rfl) (by kernel_rfl) (by kernel_rfl)
      (OpenSpec.preRow_of_cond 8 hx (by kernel_rfl) (fun k hk => by cases hk) (by kernel_rfl) (laid_met os))) ?_
  intro W base args ds gs before hval hW _ hcond hsz hL _ _
  exact contract H enc W base args ds gs before hval hW hsz hL
theorem said : Rows.CacheFullSaid :=
  OpenClaim.holds_of_cond 6 Tryz.f6 rfl rfl rfl rfl rfl rfl rfl ⟨rfl, rfl, rfl, rfl, rfl⟩ rfl rfl rfl rfl rfl (by kernel_rfl) Tryz.func6 (by kernel_rfl)
    (of_decide_eq_true (by kernel_rfl)) (by unfold Func.isWrapper; first | (rw [if_pos (by decide +kernel)]; kernel_rfl) | (rw [if_neg (by decide +kernel)]; exact ⟨rfl, rfl⟩))
    (fun os started H enc _ F => by rw [OpenClaim.pre_eq_preRow]; exact lifted os started H enc F)
theorem plain (f : FuncId) (fn : Func) (hf : Tryz.pinned.checked.prog.funcNamed "ashlar/ashlarlaw10.CacheFull" = some f) (hfn : Tryz.pinned.checked.prog.funcs[f]? = some fn) :
    false = Tryz.pinned.checked.prog.looks [] ∧ ∀ (j : Nat) t, fn.params[j]? = some t → Tryz.pinned.checked.prog.wantsStandIn t = false := by
  obtain rfl : f = 6 := Option.some.inj ((show Tryz.prog.funcNamed "ashlar/ashlarlaw10.CacheFull" = some 6 by kernel_rfl).symm.trans hf) |>.symm
  obtain rfl : fn = Tryz.f6 := (Option.some.inj (Tryz.func6.symm.trans hfn)).symm
  refine ⟨by kernel_rfl, fun j t ht => ?_⟩
  rw [Tryz.params6] at ht
  have hm : t ∈ [3, 3] := by simpa using Array.mem_of_getElem? ht
  have hall : ([3, 3].all fun u => !Tryz.prog.wantsStandIn u) = true := by kernel_rfl
  exact (show Tryz.prog.wantsStandIn t = false by simpa using List.all_eq_true.1 hall t hm)

/-- ████ THE CARD ████ -/
theorem card : Rows.CacheFullCardSaid :=
  Claim7.holds_tied_plain_at .later [] _ _ _ _ said (fun _ h => by cases h) (by kernel_rfl) (fun _ h => by cases h) cacheFull_row_tie rfl ⟨rfl, rfl⟩ (by kernel_rfl) rfl plain (by kernel_rfl)
end Go.Proofs.YtepoepmndckmaaaGreatDoor.U.cacheFull
