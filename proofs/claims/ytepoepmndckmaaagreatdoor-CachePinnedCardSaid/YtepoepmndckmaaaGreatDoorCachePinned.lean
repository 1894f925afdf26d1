/-
  CachePinned (P10.4): what is pinned stays, and is not written to the volume, whatever else is used and flushed.
  Conditions: every argument, every world that holds the program's tables.
-/
import Derived.Test.YtepoepmndckmaaaGreatDoorZ41
import Derived.Test.YtepoepmndckmaaaGreatDoorZ40
import Derived.Test.YtepoepmndckmaaaGreatDoorZ39
import Derived.Deep.DeepCutAuto
namespace Go.Proofs.YtepoepmndckmaaaGreatDoor.U.cachePinned
open Go.ChangeShapes Go.WideShapes Go.ChangeAt Go.RowKit Go.Maps
open Go.Proofs.YtepoepmndckmaaaGreatDoor.Kc (En Cg Cav CQ Pnd)
open Go.Proofs.YtepoepmndckmaaaGreatDoor.U.cacheNobody (laidBoth tabs_of_laid)

set_option maxRecDepth 100000 in
set_option maxHeartbeats 8000000 in
theorem walk {w : World} (mo : Int) (hm1 : -9223372036854775808 ≤ mo) (hm2 : mo ≤ 9223372036854775807) (bl : Int) (_hb1 : -9223372036854775808 ≤ bl) (_hb2 : bl ≤ 9223372036854775807) (wi : Nat) (hwi : wi < 256) (A : Option Addr) (m c : Nat) (f : Nat → Go.Proofs.YtepoepmndckmaaaGreatDoor.Kc.Op10) (hl : Go.Proofs.YtepoepmndckmaaaGreatDoor.Kc.Ops10 w A m f) (hA : All10 w) :
    Calls Tryz.prog 5 #[.int .i64 mo, .int .i64 bl, .int .u8 (wi : Int), .slice A m c] w fun e w' => e = .returned (.bool true) ∧ Below w.heap.size w w' := by
  obtain ⟨n, h2, h7, hn⟩ := Go.Proofs.YtepoepmndckmaaaGreatDoor.Kc.most_of2 mo 6 (by decide) (by decide)
  have h7 : n ≤ 7 := by omega
  have HBE := Lib.hid (begin10 hA n (by omega) (by omega))
  have HA := Lib.hid hA
  have HF := Lib.hid hl
  have HN := Lib.hid hn
  have hmm : m ≤ 9223372036854775807 := hl.1
  have hw255 : (wi : Int) < 256 := by omega
  clear hA hl hn
  go_enter Tryz.func5, Tryz.ntmps5
  go_upto_if 26 with fail
  go_cut [9] (fun s9 wx => s9 = .int .i64 (n : Int) ∧ wx = w)
  case first =>
    rcases HN.out with ⟨e1, e2⟩ | ⟨e1, e2⟩
    · subst e2
      have q : decide (mo < 0) = true := decide_eq_true e1
      go_wp2_with fail
      all_goals (go_meet; exact ⟨rfl, rfl⟩)
    · have q : decide (mo < 0) = false := decide_eq_false (by omega)
      rw [e2]
      go_wp2_with fail
      all_goals (go_meet; exact ⟨rfl, rfl⟩)
  case rest =>
    obtain ⟨rfl, hcw⟩ := hcut
    have hcw := hcw.symm
    subst hcw
    clear HN
    go_wp2_with fail
    refine HBE.out.mono ?_
    rintro e w2 ⟨J, x0, sp, q, xr, g, hG, hN, rfl, hcont, hB, hW, hbeg⟩
    have HP0 := Lib.hid hbeg.cq
    have HBW := Lib.hid (And.intro hB hW)
    have HL := Lib.hid (lives10 (HA.out.over (cq_below hbeg.cq hB hW)))
    have HCO := Lib.hid hcont
    have hV := ok_hv hG hN
    have hVn : (Hv J ar10 hG hN).n = 12 := rfl
    clear hbeg hcont hB hW HBE
    go_wp2_with fail
    refine HL.out.mono ?_
    rintro e w3 ⟨rfl, hb3⟩
    have HP3 := Lib.hid (HP0.out.grown hb3)
    obtain ⟨kk, hkk, hz⟩ := Go.Proofs.YtepoepmndckmaaaGreatDoor.Kc.tmod12 bl
    have HZ := Lib.hid hz
    clear hb3 HL HP0 HA hz
    go_upto_if 42 with fail
    go_cut [13] (fun s13 wx => s13 = .int .i64 (kk : Int) ∧ wx = w3)
    case first =>
      rcases HZ.out with ⟨e1, e2, e3⟩ | ⟨e1, e2⟩
      · have q : decide (bl.tmod 12 < 0) = true := decide_eq_true e1
        generalize bl.tmod 12 = t at *
        have HE2 := Lib.hid e2
        clear e2
        go_wp2_with fail
        all_goals (go_meet; exact ⟨by rw [← HE2.out], rfl⟩)
      · rw [e2] at e1
        rw [e2]
        have q : decide ((kk : Int) < 0) = false := decide_eq_false (by omega)
        go_wp2_with fail
        all_goals (go_meet; exact ⟨rfl, rfl⟩)
    case rest =>
      obtain ⟨rfl, hcw⟩ := hcut
      have hcw := hcw.symm
      subst hcw
      clear HZ
      have hp := HP3.out
      have hS := hp.sq
      have HPR := Lib.hid ((hp.less (k' := 389990 + 1) (by omega)).grown ((Below.refl _ w3).drew))
      have HPC : Hid (∀ W : World, Go.Proofs.YtepoepmndckmaaaGreatDoor.Kc.SQ [(q, pairO g.c xr)] W → W.cell? ⟨q, 0, none⟩ = some (.pointer (some ⟨g.c, 0, none⟩))) := Lib.hid fun W hW => pair_cell hW.head
      have HPM : Hid (∀ {y : Int} {l6 : List En} {x6 : Rs}, Go.Proofs.YtepoepmndckmaaaGreatDoor.Kc.PutR (Hv J ar10 hG hN) n (kk : Int) (Sh.secOf wi) [] x0 y l6 x6 → y = 0 ∧ x6 = x0 ∧ ∃ p6, l6 = [] ++ [⟨kk, p6, Sh.secOf wi, true, 0⟩]) := Lib.hid fun h => Go.Proofs.YtepoepmndckmaaaGreatDoor.Kc.put_miss (m := kk) h rfl (by rw [hVn]; omega) (Sh.secOf_len wi) rfl (by show 0 < n; omega)
      clear hp HP3
      go_wp2_with fail
      refine wp_region_held_drew (S := Go.Proofs.YtepoepmndckmaaaGreatDoor.Kc.SQ [(q, pairO g.c xr)]) (by kernel_rfl) hS (fun hHeld => ?_)
      refine wpAnyH_take (i := 0) (oi := ⟨some 45, _, _, _, _, _⟩) (v := ?_) rfl (by kernel_rfl) (by kernel_rfl) (by kernel_rfl) (fun _ _ _ h => h) (Or.inl ⟨by rfl, ?_⟩) (by assumption) ?_
      rotate_left
      · (intro w hSw; (try dsimp only at hSw); go_simp; first | done | with_reducible rfl)
      try simp only [Act.put, List.setIfInBounds_toArray, List.set_cons_zero, List.set_cons_succ]
      refine wpAnyH_take (i := 1) (oi := ⟨some 46, _, _, _, _, _⟩) (v := ?_) rfl (by kernel_rfl) (by kernel_rfl) (by kernel_rfl) (fun _ _ _ h => h) (Or.inl ⟨by rfl, ?_⟩) (by assumption) ?_
      rotate_left
      · (intro w hSw; (try dsimp only at hSw); go_simp; first | done | with_reducible rfl)
      try simp only [Act.put, List.setIfInBounds_toArray, List.set_cons_zero, List.set_cons_succ]
      refine wpAnyH_take (i := 2) (oi := ⟨some 47, _, _, _, _, _⟩) (v := ?_) rfl (by kernel_rfl) (by kernel_rfl) (by kernel_rfl) (fun _ _ _ h => h) (Or.inl ⟨by rfl, ?_⟩) (by assumption) ?_
      rotate_left
      · (intro w hSw; (try dsimp only at hSw); go_simp; first | done | with_reducible rfl)
      try simp only [Act.put, List.setIfInBounds_toArray, List.set_cons_zero, List.set_cons_succ]
      refine wpAnyH_take (i := 3) (oi := ⟨some 48, _, _, _, _, _⟩) (v := ?_) rfl (by kernel_rfl) (by kernel_rfl) (by kernel_rfl) (fun _ _ _ h => h) (Or.inl ⟨by rfl, ?_⟩) (by assumption) ?_
      rotate_left
      · (intro w hSw; have c9 := HPC.out w hSw; clear hSw; (try dsimp only at hSw); go_simp; first | done | with_reducible rfl)
      try simp only [Act.put, List.setIfInBounds_toArray, List.set_cons_zero, List.set_cons_succ]
      refine wpAnyH_take (i := 4) (oi := ⟨some 49, _, _, _, _, _⟩) (v := ?_) rfl (by kernel_rfl) (by kernel_rfl) (by kernel_rfl) (fun _ _ _ h => h) (Or.inl ⟨by rfl, ?_⟩) (by assumption) ?_
      rotate_left
      · (intro w hSw; (try dsimp only at hSw); go_simp; first | done | with_reducible rfl)
      try simp only [Act.put, List.setIfInBounds_toArray, List.set_cons_zero, List.set_cons_succ]
      refine wpAnyH_take (i := 5) (oi := ⟨some 50, _, _, _, _, _⟩) (v := ?_) rfl (by kernel_rfl) (by kernel_rfl) (by kernel_rfl) (fun _ _ _ h => h) (Or.inl ⟨by rfl, ?_⟩) (by assumption) ?_
      rotate_left
      · (intro w hSw; (try dsimp only at hSw); go_simp; first | done | with_reducible rfl)
      try simp only [Act.put, List.setIfInBounds_toArray, List.set_cons_zero, List.set_cons_succ]
      refine wpAnyH_ready (rs := [6]) (by kernel_rfl) (by simp) ?_
      refine AllReadyH.cons (o := ⟨some 51, _, _, _, _, _⟩) rfl (fun K hK => ?_) AllReadyH.nil
      go_simp
      refine (Sh.sector_any _ wi hwi).mono ?_
      rintro e w5 ⟨rfl, ho5, hb5⟩
      refine hK.out _ _ ((HPR.out.grown hb5).sq) (fun hHeld => ?_)
      clear hK K
      try simp only [Act.put, List.setIfInBounds_toArray, List.set_cons_zero, List.set_cons_succ]
      refine wpAnyH_ready (rs := [7]) (by kernel_rfl) (by simp) ?_
      refine AllReadyH.cons (o := ⟨some 52, _, _, _, _, _⟩) rfl (fun K hK => ?_) AllReadyH.nil
      go_simp
      refine (HPR.out.put _ hwi hb5 ho5).mono ?_
      rintro e w6 ⟨y, l6, x6, rfl, hput, hq6⟩
      refine hK.out _ _ hq6.sq (fun hHeld => ?_)
      clear hK K
      try simp only [Act.put, List.setIfInBounds_toArray, List.set_cons_zero, List.set_cons_succ]
      obtain ⟨rfl, rfl, p6, rfl⟩ := HPM.out hput
      have HPI := Lib.hid (hq6.pin1 (m := kk) (by omega) (fun e he => by rw [List.mem_singleton.1 he]; show (0 : Nat) < 4611686018427387904; decide) (e := ⟨kk, p6, Sh.secOf wi, true, 0⟩) (by unfold Go.Proofs.YtepoepmndckmaaaGreatDoor.Kc.finds; simp))
      clear hput hq6 ho5 hb5 HPM HPR
      refine wpAnyH_take (i := 8) (oi := ⟨some 53, _, _, _, _, _⟩) (v := ?_) rfl (by kernel_rfl) (by kernel_rfl) (by kernel_rfl) (fun _ _ _ h => h) (Or.inl ⟨by rfl, ?_⟩) (by assumption) ?_
      rotate_left
      · (intro w hSw; (try dsimp only at hSw); go_simp; first | done | with_reducible rfl)
      try simp only [Act.put, List.setIfInBounds_toArray, List.set_cons_zero, List.set_cons_succ]
      refine wpAnyH_take (i := 9) (oi := ⟨some 54, _, _, _, _, _⟩) (v := ?_) rfl (by kernel_rfl) (by kernel_rfl) (by kernel_rfl) (fun _ _ _ h => h) (Or.inl ⟨by rfl, ?_⟩) (by assumption) ?_
      rotate_left
      · (intro w hSw; (try dsimp only at hSw); go_simp; first | done | with_reducible rfl)
      try simp only [Act.put, List.setIfInBounds_toArray, List.set_cons_zero, List.set_cons_succ]
      refine wpAnyH_take (i := 10) (oi := ⟨some 55, _, _, _, _, _⟩) (v := ?_) rfl (by kernel_rfl) (by kernel_rfl) (by kernel_rfl) (fun _ _ _ h => h) (Or.inl ⟨by rfl, ?_⟩) (by assumption) ?_
      rotate_left
      · (intro w hSw; (try dsimp only at hSw); go_simp; first | done | with_reducible rfl)
      try simp only [Act.put, List.setIfInBounds_toArray, List.set_cons_zero, List.set_cons_succ]
      refine wpAnyH_take (i := 11) (oi := ⟨some 56, _, _, _, _, _⟩) (v := ?_) rfl (by kernel_rfl) (by kernel_rfl) (by kernel_rfl) (fun _ _ _ h => h) (Or.inl ⟨by rfl, ?_⟩) (by assumption) ?_
      rotate_left
      · (intro w hSw; (try dsimp only at hSw); go_simp; first | done | with_reducible rfl)
      try simp only [Act.put, List.setIfInBounds_toArray, List.set_cons_zero, List.set_cons_succ]
      refine wpAnyH_take (i := 12) (oi := ⟨some 57, _, _, _, _, _⟩) (v := ?_) rfl (by kernel_rfl) (by kernel_rfl) (by kernel_rfl) (fun _ _ _ h => h) (Or.inl ⟨by rfl, ?_⟩) (by assumption) ?_
      rotate_left
      · (intro w hSw; (try dsimp only at hSw); go_simp; first | done | with_reducible rfl)
      try simp only [Act.put, List.setIfInBounds_toArray, List.set_cons_zero, List.set_cons_succ]
      refine wpAnyH_take (i := 13) (oi := ⟨some 58, _, _, _, _, _⟩) (v := ?_) rfl (by kernel_rfl) (by kernel_rfl) (by kernel_rfl) (fun _ _ _ h => h) (Or.inl ⟨by rfl, ?_⟩) (by assumption) ?_
      rotate_left
      · (intro w hSw; have c9 := HPC.out w hSw; clear hSw; (try dsimp only at hSw); go_simp; first | done | with_reducible rfl)
      try simp only [Act.put, List.setIfInBounds_toArray, List.set_cons_zero, List.set_cons_succ]
      refine wpAnyH_take (i := 14) (oi := ⟨some 59, _, _, _, _, _⟩) (v := ?_) rfl (by kernel_rfl) (by kernel_rfl) (by kernel_rfl) (fun _ _ _ h => h) (Or.inl ⟨by rfl, ?_⟩) (by assumption) ?_
      rotate_left
      · (intro w hSw; (try dsimp only at hSw); go_simp; first | done | with_reducible rfl)
      try simp only [Act.put, List.setIfInBounds_toArray, List.set_cons_zero, List.set_cons_succ]
      refine wpAnyH_ready (rs := [15]) (by kernel_rfl) (by simp) ?_
      refine AllReadyH.cons (o := ⟨some 60, _, _, _, _, _⟩) rfl (fun K hK => ?_) AllReadyH.nil
      go_simp
      refine (HPI.out).mono ?_
      rintro e w7 ⟨rfl, hq7⟩
      refine hK.out _ _ hq7.sq (fun hHeld => ?_)
      clear hK K
      try simp only [Act.put, List.setIfInBounds_toArray, List.set_cons_zero, List.set_cons_succ]
      refine wpAnyH_take (i := 16) (oi := ⟨some 61, _, _, _, _, _⟩) (v := ?_) rfl (by kernel_rfl) (by kernel_rfl) (by kernel_rfl) (fun _ _ _ h => h) (Or.inl ⟨by rfl, ?_⟩) (by assumption) ?_
      rotate_left
      · (intro w hSw; (try dsimp only at hSw); go_simp; first | done | with_reducible rfl)
      try simp only [Act.put, List.setIfInBounds_toArray, List.set_cons_zero, List.set_cons_succ]
      refine wpAnyH_take (i := 17) (oi := ⟨some 62, _, _, _, _, _⟩) (v := ?_) rfl (by kernel_rfl) (by kernel_rfl) (by kernel_rfl) (fun _ _ _ h => h) (Or.inl ⟨by rfl, ?_⟩) (by assumption) ?_
      rotate_left
      · (intro w hSw; (try dsimp only at hSw); go_simp; first | done | with_reducible rfl)
      try simp only [Act.put, List.setIfInBounds_toArray, List.set_cons_zero, List.set_cons_succ]
      refine wpAnyH_done (by kernel_rfl) ?_ _
      have HQ7 := Lib.hid hq7
      have HLV := Lib.hid (hv_leaves (J := J) (hG := hG) (hN := hN) kk hkk Sh.noughts)
      have hrel0 : Hid (∃ l x, CQ (Hv J ar10 hG hN) w7 g.c n l x (389990 - 20 * 0) [(q, pairO g.c xr)] ∧ Pnd (Hv J ar10 hG hN) (fun x : Rs => contR ar10 x kk = Sh.noughts) ⟨kk, p6, Sh.secOf wi, true, 1⟩ l x) := Lib.hid ⟨_, _, hq7, hq7.pnd (z := ⟨kk, p6, Sh.secOf wi, true, 1⟩) (by unfold Go.Proofs.YtepoepmndckmaaaGreatDoor.Kc.putE; simp) (by show (1 : Nat) ≠ 0; decide) (HCO.out kk)⟩
      clear hq7 hHeld HQ7 HPI hS
      generalize hzz : (⟨kk, p6, Sh.secOf wi, true, 1⟩ : En) = z at *
      have HZZ := Lib.hid hzz
      have hzk : z.k = kk := by rw [← hzz]
      clear hzz
      go_wp2
      go_loopw [14] (fun s wr => ∃ j : Nat, j ≤ 200 ∧ s = .int .i64 j ∧ Hid (∃ l x, CQ (Hv J ar10 hG hN) wr g.c n l x (389990 - 20 * j) [(q, pairO g.c xr)] ∧ Pnd (Hv J ar10 hG hN) (fun x : Rs => contR ar10 x kk = Sh.noughts) z l x)) (fun s _ => 200 - (intOf s).toNat)
      case atStart => exact ⟨0, Nat.zero_le _, rfl, hrel0⟩
      case round =>
        obtain ⟨j, hj, rfl, hrel⟩ := hrel
        clear hrel0
        obtain ⟨l, x, hcq, hpn⟩ := hrel.out
        by_cases hlt : j < m ∧ j < 200
        · as_aux_lemma =>
          obtain ⟨hlt, hlt2⟩ := hlt
          have q3 : (j : Int) < (m : Int) := by omega
          have q4 : (j : Int) < 200 := by omega
          obtain ⟨b0, off0, rfl, hbl, hop⟩ := HF.out.2 (by omega)
          have hop := hop j hlt
          have HBE := Lib.hid (cq_below hcq HBW.out.1 HBW.out.2)
          have d0 : wr.cell? ⟨b0, off0 + j * 3, none⟩ = some (.int .i64 (f j).kind) := (HBE.out.cell (p := ⟨b0, off0 + j * 3, none⟩) hbl).trans hop.c0
          have d1 : wr.cell? ⟨b0, off0 + j * 3 + 1, none⟩ = some (.int .i64 (f j).n) := (HBE.out.cell (p := ⟨b0, off0 + j * 3 + 1, none⟩) hbl).trans hop.c1
          have HD1 : Hid (∀ W : World, Go.Proofs.YtepoepmndckmaaaGreatDoor.Kc.SQ [(q, pairO g.c xr)] W ∧ Below w.heap.size w W → W.cell? ⟨b0, off0 + j * 3 + 1, none⟩ = some (.int .i64 (f j).n)) := Lib.hid fun W hW => (hW.2.cell (p := ⟨b0, off0 + j * 3 + 1, none⟩) hbl).trans hop.c1
          have HD2 : Hid (∀ W : World, Go.Proofs.YtepoepmndckmaaaGreatDoor.Kc.SQ [(q, pairO g.c xr)] W ∧ Below w.heap.size w W → W.cell? ⟨b0, off0 + j * 3 + 2, none⟩ = some (.int .u8 ((f j).x : Int))) := Lib.hid fun W hW => (hW.2.cell (p := ⟨b0, off0 + j * 3 + 2, none⟩) hbl).trans hop.c2
          have HPW : Hid (∀ W : World, Go.Proofs.YtepoepmndckmaaaGreatDoor.Kc.SQ [(q, pairO g.c xr)] W ∧ Below w.heap.size w W → W.cell? ⟨q, 0, none⟩ = some (.pointer (some ⟨g.c, 0, none⟩))) := Lib.hid fun W hW => HPC.out W hW.1
          have hxx := hop.b2
          generalize (f j).kind = kd at *
          generalize (f j).n = nn at *
          generalize (f j).x = xx at *
          have hcell := pair_cell hcq.at_
          have hll := hcq.len
          have HC0 := Lib.hid (And.intro hcq hpn)
          by_cases hn : nn = (kk : Int)
          · subst hn
            clear hcq hpn hrel hop HD1 HD2 HPW hcell HBE
            go_wp2
            go_roundw
            case rel => exact ⟨j + 1, by omega, by go_num, Lib.hid ⟨_, _, HC0.out.1.less (by omega), HC0.out.2⟩⟩
            case measure => simp [intOf]; omega
          · have qn : (nn == (kk : Int)) = false := by rw [beq_eq_false_iff_ne]; exact hn
            have hnz : nn ≠ (z.k : Int) := by rw [hzk]; exact hn
            have hLV : Go.Proofs.YtepoepmndckmaaaGreatDoor.Kc.Leaves (Hv J ar10 hG hN) z.k (fun x : Rs => contR ar10 x kk = Sh.noughts) := by rw [hzk]; exact HLV.out
            have HPG : Hid (∀ {y : Int} {X : Sh.Bs} {l' : List En} {x' : Rs}, Go.Proofs.YtepoepmndckmaaaGreatDoor.Kc.GetR (Hv J ar10 hG hN) n nn l x y X l' x' → Pnd (Hv J ar10 hG hN) (fun x : Rs => contR ar10 x kk = Sh.noughts) z l' x') := Lib.hid fun h => hpn.get hLV hnz h
            have HPU : Hid (∀ {y : Int} {b : Sh.Bs} {l' : List En} {x' : Rs}, Go.Proofs.YtepoepmndckmaaaGreatDoor.Kc.PutR (Hv J ar10 hG hN) n nn b l x y l' x' → Pnd (Hv J ar10 hG hN) (fun x : Rs => contR ar10 x kk = Sh.noughts) z l' x') := Lib.hid fun h => hpn.put hLV hnz h
            have HPF : Hid (∀ {y : Int} {l' : List En} {x' : Rs}, Go.Proofs.YtepoepmndckmaaaGreatDoor.Kc.FlushR (Hv J ar10 hG hN) l x y l' x' → Pnd (Hv J ar10 hG hN) (fun x : Rs => contR ar10 x kk = Sh.noughts) z l' x') := Lib.hid fun h => hpn.flush hLV h
            have hfew : (Go.Proofs.YtepoepmndckmaaaGreatDoor.Kc.risesE Go.Proofs.YtepoepmndckmaaaGreatDoor.Kc.fFlush l).length ≤ 7 := Nat.le_trans Go.Proofs.YtepoepmndckmaaaGreatDoor.Kc.rises_few (Nat.le_trans hll h7)
            have HGP := Lib.hid ((hcq.less (k' := 389990 - 20 * (j + 1) + 1) (by omega)).grown ((Below.refl _ wr).drew))
            have HGE := Lib.hid (((hcq.less (k' := 389990 - 20 * (j + 1) + 2) (by omega)).grown ((Below.refl _ wr).drew)).get nn)
            have HFL := Lib.hid ((hcq.less (k' := 389990 - 20 * (j + 1) + 1 + (Go.Proofs.YtepoepmndckmaaaGreatDoor.Kc.risesE Go.Proofs.YtepoepmndckmaaaGreatDoor.Kc.fFlush l).length) (by omega)).flush)
            have hS1 : Go.Proofs.YtepoepmndckmaaaGreatDoor.Kc.SQ [(q, pairO g.c xr)] wr.drew ∧ Below w.heap.size w wr.drew := ⟨hcq.sq, HBE.out.drew⟩
            clear hcq hpn hrel hop hLV hnz hn hfew HBE
            by_cases k1 : kd = 1
            · subst k1
              clear hcell
              go_wp2_with fail
              refine wp_region_held_drew (S := fun W : World => Go.Proofs.YtepoepmndckmaaaGreatDoor.Kc.SQ [(q, pairO g.c xr)] W ∧ Below w.heap.size w W) (by kernel_rfl) hS1 (fun hHeld => ?_)
              refine wpAnyH_take (i := 0) (oi := ⟨some 87, _, _, _, _, _⟩) (v := ?_) rfl (by kernel_rfl) (by kernel_rfl) (by kernel_rfl) (fun _ _ _ h => h) (Or.inl ⟨by rfl, ?_⟩) (by assumption) ?_
              rotate_left
              · (intro w hSw; (try dsimp only at hSw); go_simp; first | done | with_reducible rfl)
              try simp only [Act.put, List.setIfInBounds_toArray, List.set_cons_zero, List.set_cons_succ]
              refine wpAnyH_take (i := 1) (oi := ⟨some 88, _, _, _, _, _⟩) (v := ?_) rfl (by kernel_rfl) (by kernel_rfl) (by kernel_rfl) (fun _ _ _ h => h) (Or.inl ⟨by rfl, ?_⟩) (by assumption) ?_
              rotate_left
              · (intro w hSw; (try dsimp only at hSw); go_simp; first | done | with_reducible rfl)
              try simp only [Act.put, List.setIfInBounds_toArray, List.set_cons_zero, List.set_cons_succ]
              refine wpAnyH_take (i := 2) (oi := ⟨some 89, _, _, _, _, _⟩) (v := ?_) rfl (by kernel_rfl) (by kernel_rfl) (by kernel_rfl) (fun _ _ _ h => h) (Or.inl ⟨by rfl, ?_⟩) (by assumption) ?_
              rotate_left
              · (intro w hSw; (try dsimp only at hSw); go_simp; first | done | with_reducible rfl)
              try simp only [Act.put, List.setIfInBounds_toArray, List.set_cons_zero, List.set_cons_succ]
              refine wpAnyH_take (i := 3) (oi := ⟨some 90, _, _, _, _, _⟩) (v := ?_) rfl (by kernel_rfl) (by kernel_rfl) (by kernel_rfl) (fun _ _ _ h => h) (Or.inl ⟨by rfl, ?_⟩) (by assumption) ?_
              rotate_left
              · (intro w hSw; have c9 := HPW.out w hSw; clear hSw; (try dsimp only at hSw); go_simp; first | done | with_reducible rfl)
              try simp only [Act.put, List.setIfInBounds_toArray, List.set_cons_zero, List.set_cons_succ]
              refine wpAnyH_take (i := 4) (oi := ⟨some 91, _, _, _, _, _⟩) (v := ?_) rfl (by kernel_rfl) (by kernel_rfl) (by kernel_rfl) (fun _ _ _ h => h) (Or.inl ⟨by rfl, ?_⟩) (by assumption) ?_
              rotate_left
              · (intro w hSw; (try dsimp only at hSw); go_simp; first | done | with_reducible rfl)
              try simp only [Act.put, List.setIfInBounds_toArray, List.set_cons_zero, List.set_cons_succ]
              refine wpAnyH_take (i := 5) (oi := ⟨some 92, _, _, _, _, _⟩) (v := ?_) rfl (by kernel_rfl) (by kernel_rfl) (by kernel_rfl) (fun _ _ _ h => h) (Or.inl ⟨by rfl, ?_⟩) (by assumption) ?_
              rotate_left
              · (intro w hSw; (try dsimp only at hSw); go_simp; first | done | with_reducible rfl)
              try simp only [Act.put, List.setIfInBounds_toArray, List.set_cons_zero, List.set_cons_succ]
              refine wpAnyH_take (i := 6) (oi := ⟨some 93, _, _, _, _, _⟩) (v := ?_) rfl (by kernel_rfl) (by kernel_rfl) (by kernel_rfl) (fun _ _ _ h => h) (Or.inl ⟨by rfl, ?_⟩) (by assumption) ?_
              rotate_left
              · (intro w hSw; (try dsimp only at hSw); go_simp; first | done | with_reducible rfl)
              try simp only [Act.put, List.setIfInBounds_toArray, List.set_cons_zero, List.set_cons_succ]
              refine wpAnyH_take (i := 7) (oi := ⟨some 94, _, _, _, _, _⟩) (v := ?_) rfl (by kernel_rfl) (by kernel_rfl) (by kernel_rfl) (fun _ _ _ h => h) (Or.inl ⟨by rfl, ?_⟩) (by assumption) ?_
              rotate_left
              · (intro w hSw; (try dsimp only at hSw); go_simp; first | done | with_reducible rfl)
              try simp only [Act.put, List.setIfInBounds_toArray, List.set_cons_zero, List.set_cons_succ]
              refine wpAnyH_take (i := 8) (oi := ⟨some 95, _, _, _, _, _⟩) (v := ?_) rfl (by kernel_rfl) (by kernel_rfl) (by kernel_rfl) (fun _ _ _ h => h) (Or.inl ⟨by rfl, ?_⟩) (by assumption) ?_
              rotate_left
              · (intro w hSw; have c9 := HD1.out w hSw; clear hSw; (try dsimp only at hSw); go_simp; first | done | with_reducible rfl)
              try simp only [Act.put, List.setIfInBounds_toArray, List.set_cons_zero, List.set_cons_succ]
              refine wpAnyH_ready (rs := [9]) (by kernel_rfl) (by simp) ?_
              refine AllReadyH.cons (o := ⟨some 96, _, _, _, _, _⟩) rfl (fun K hK => ?_) AllReadyH.nil
              go_simp
              refine (HGE.out).mono ?_
              rintro e w5 ⟨y, A5, len5, cap5, X5, l5, x5, rfl, hget, hq5, _⟩
              refine hK.out _ _ ⟨hq5.sq, cq_below hq5 HBW.out.1 HBW.out.2⟩ (fun hHeld => ?_)
              clear hK K
              try simp only [Act.put, List.setIfInBounds_toArray, List.set_cons_zero, List.set_cons_succ]
              refine wpAnyH_done (by kernel_rfl) ?_ _
              have HN5 := Lib.hid (And.intro hq5 (HPG.out hget))
              clear hget hq5 hHeld HGE HPG HPU HFL HPF HGP HPW HD1 HD2
              go_wp2
              go_roundw
              case rel => exact ⟨j + 1, by omega, by go_num, Lib.hid ⟨_, _, HN5.out.1.less (by omega), HN5.out.2⟩⟩
              case measure => simp [intOf]; omega
            · have e1 : (kd == 1) = false := by rw [beq_eq_false_iff_ne]; exact k1
              by_cases k2 : kd = 2
              · subst k2
                clear hcell e1 k1
                go_wp2_with fail
                refine wp_region_held_drew (S := fun W : World => Go.Proofs.YtepoepmndckmaaaGreatDoor.Kc.SQ [(q, pairO g.c xr)] W ∧ Below w.heap.size w W) (by kernel_rfl) hS1 (fun hHeld => ?_)
                refine wpAnyH_take (i := 0) (oi := ⟨some 99, _, _, _, _, _⟩) (v := ?_) rfl (by kernel_rfl) (by kernel_rfl) (by kernel_rfl) (fun _ _ _ h => h) (Or.inl ⟨by rfl, ?_⟩) (by assumption) ?_
                rotate_left
                · (intro w hSw; (try dsimp only at hSw); go_simp; first | done | with_reducible rfl)
                try simp only [Act.put, List.setIfInBounds_toArray, List.set_cons_zero, List.set_cons_succ]
                refine wpAnyH_take (i := 1) (oi := ⟨some 100, _, _, _, _, _⟩) (v := ?_) rfl (by kernel_rfl) (by kernel_rfl) (by kernel_rfl) (fun _ _ _ h => h) (Or.inl ⟨by rfl, ?_⟩) (by assumption) ?_
                rotate_left
                · (intro w hSw; (try dsimp only at hSw); go_simp; first | done | with_reducible rfl)
                try simp only [Act.put, List.setIfInBounds_toArray, List.set_cons_zero, List.set_cons_succ]
                refine wpAnyH_take (i := 2) (oi := ⟨some 101, _, _, _, _, _⟩) (v := ?_) rfl (by kernel_rfl) (by kernel_rfl) (by kernel_rfl) (fun _ _ _ h => h) (Or.inl ⟨by rfl, ?_⟩) (by assumption) ?_
                rotate_left
                · (intro w hSw; (try dsimp only at hSw); go_simp; first | done | with_reducible rfl)
                try simp only [Act.put, List.setIfInBounds_toArray, List.set_cons_zero, List.set_cons_succ]
                refine wpAnyH_take (i := 3) (oi := ⟨some 102, _, _, _, _, _⟩) (v := ?_) rfl (by kernel_rfl) (by kernel_rfl) (by kernel_rfl) (fun _ _ _ h => h) (Or.inl ⟨by rfl, ?_⟩) (by assumption) ?_
                rotate_left
                · (intro w hSw; have c9 := HPW.out w hSw; clear hSw; (try dsimp only at hSw); go_simp; first | done | with_reducible rfl)
                try simp only [Act.put, List.setIfInBounds_toArray, List.set_cons_zero, List.set_cons_succ]
                refine wpAnyH_take (i := 4) (oi := ⟨some 103, _, _, _, _, _⟩) (v := ?_) rfl (by kernel_rfl) (by kernel_rfl) (by kernel_rfl) (fun _ _ _ h => h) (Or.inl ⟨by rfl, ?_⟩) (by assumption) ?_
                rotate_left
                · (intro w hSw; (try dsimp only at hSw); go_simp; first | done | with_reducible rfl)
                try simp only [Act.put, List.setIfInBounds_toArray, List.set_cons_zero, List.set_cons_succ]
                refine wpAnyH_take (i := 5) (oi := ⟨some 104, _, _, _, _, _⟩) (v := ?_) rfl (by kernel_rfl) (by kernel_rfl) (by kernel_rfl) (fun _ _ _ h => h) (Or.inl ⟨by rfl, ?_⟩) (by assumption) ?_
                rotate_left
                · (intro w hSw; (try dsimp only at hSw); go_simp; first | done | with_reducible rfl)
                try simp only [Act.put, List.setIfInBounds_toArray, List.set_cons_zero, List.set_cons_succ]
                refine wpAnyH_take (i := 6) (oi := ⟨some 105, _, _, _, _, _⟩) (v := ?_) rfl (by kernel_rfl) (by kernel_rfl) (by kernel_rfl) (fun _ _ _ h => h) (Or.inl ⟨by rfl, ?_⟩) (by assumption) ?_
                rotate_left
                · (intro w hSw; (try dsimp only at hSw); go_simp; first | done | with_reducible rfl)
                try simp only [Act.put, List.setIfInBounds_toArray, List.set_cons_zero, List.set_cons_succ]
                refine wpAnyH_take (i := 7) (oi := ⟨some 106, _, _, _, _, _⟩) (v := ?_) rfl (by kernel_rfl) (by kernel_rfl) (by kernel_rfl) (fun _ _ _ h => h) (Or.inl ⟨by rfl, ?_⟩) (by assumption) ?_
                rotate_left
                · (intro w hSw; (try dsimp only at hSw); go_simp; first | done | with_reducible rfl)
                try simp only [Act.put, List.setIfInBounds_toArray, List.set_cons_zero, List.set_cons_succ]
                refine wpAnyH_take (i := 8) (oi := ⟨some 107, _, _, _, _, _⟩) (v := ?_) rfl (by kernel_rfl) (by kernel_rfl) (by kernel_rfl) (fun _ _ _ h => h) (Or.inl ⟨by rfl, ?_⟩) (by assumption) ?_
                rotate_left
                · (intro w hSw; have c9 := HD1.out w hSw; clear hSw; (try dsimp only at hSw); go_simp; first | done | with_reducible rfl)
                try simp only [Act.put, List.setIfInBounds_toArray, List.set_cons_zero, List.set_cons_succ]
                refine wpAnyH_take (i := 9) (oi := ⟨some 108, _, _, _, _, _⟩) (v := ?_) rfl (by kernel_rfl) (by kernel_rfl) (by kernel_rfl) (fun _ _ _ h => h) (Or.inl ⟨by rfl, ?_⟩) (by assumption) ?_
                rotate_left
                · (intro w hSw; (try dsimp only at hSw); go_simp; first | done | with_reducible rfl)
                try simp only [Act.put, List.setIfInBounds_toArray, List.set_cons_zero, List.set_cons_succ]
                refine wpAnyH_take (i := 10) (oi := ⟨some 109, _, _, _, _, _⟩) (v := ?_) rfl (by kernel_rfl) (by kernel_rfl) (by kernel_rfl) (fun _ _ _ h => h) (Or.inl ⟨by rfl, ?_⟩) (by assumption) ?_
                rotate_left
                · (intro w hSw; (try dsimp only at hSw); go_simp; first | done | with_reducible rfl)
                try simp only [Act.put, List.setIfInBounds_toArray, List.set_cons_zero, List.set_cons_succ]
                refine wpAnyH_take (i := 11) (oi := ⟨some 110, _, _, _, _, _⟩) (v := ?_) rfl (by kernel_rfl) (by kernel_rfl) (by kernel_rfl) (fun _ _ _ h => h) (Or.inl ⟨by rfl, ?_⟩) (by assumption) ?_
                rotate_left
                · (intro w hSw; (try dsimp only at hSw); go_simp; first | done | with_reducible rfl)
                try simp only [Act.put, List.setIfInBounds_toArray, List.set_cons_zero, List.set_cons_succ]
                refine wpAnyH_take (i := 12) (oi := ⟨some 111, _, _, _, _, _⟩) (v := ?_) rfl (by kernel_rfl) (by kernel_rfl) (by kernel_rfl) (fun _ _ _ h => h) (Or.inl ⟨by rfl, ?_⟩) (by assumption) ?_
                rotate_left
                · (intro w hSw; (try dsimp only at hSw); go_simp; first | done | with_reducible rfl)
                try simp only [Act.put, List.setIfInBounds_toArray, List.set_cons_zero, List.set_cons_succ]
                refine wpAnyH_take (i := 13) (oi := ⟨some 112, _, _, _, _, _⟩) (v := ?_) rfl (by kernel_rfl) (by kernel_rfl) (by kernel_rfl) (fun _ _ _ h => h) (Or.inl ⟨by rfl, ?_⟩) (by assumption) ?_
                rotate_left
                · (intro w hSw; have c9 := HD2.out w hSw; clear hSw; (try dsimp only at hSw); go_simp; first | done | with_reducible rfl)
                try simp only [Act.put, List.setIfInBounds_toArray, List.set_cons_zero, List.set_cons_succ]
                refine wpAnyH_ready (rs := [14]) (by kernel_rfl) (by simp) ?_
                refine AllReadyH.cons (o := ⟨some 113, _, _, _, _, _⟩) rfl (fun K hK => ?_) AllReadyH.nil
                go_simp
                refine (Sh.sector_any _ xx hxx).mono ?_
                rintro e w5 ⟨rfl, ho5, hb5⟩
                refine hK.out _ _ ⟨(HGP.out.grown hb5).sq, cq_below (HGP.out.grown hb5) HBW.out.1 HBW.out.2⟩ (fun hHeld => ?_)
                clear hK K
                try simp only [Act.put, List.setIfInBounds_toArray, List.set_cons_zero, List.set_cons_succ]
                refine wpAnyH_ready (rs := [15]) (by kernel_rfl) (by simp) ?_
                refine AllReadyH.cons (o := ⟨some 114, _, _, _, _, _⟩) rfl (fun K hK => ?_) AllReadyH.nil
                go_simp
                refine (HGP.out.put _ hxx hb5 ho5).mono ?_
                rintro e w6 ⟨y, l5, x5, rfl, hput, hq5⟩
                refine hK.out _ _ ⟨hq5.sq, cq_below hq5 HBW.out.1 HBW.out.2⟩ (fun hHeld => ?_)
                clear hK K
                try simp only [Act.put, List.setIfInBounds_toArray, List.set_cons_zero, List.set_cons_succ]
                refine wpAnyH_done (by kernel_rfl) ?_ _
                have HN5 := Lib.hid (And.intro hq5 (HPU.out hput))
                clear hput hq5 hHeld ho5 hb5 HGE HPG HPU HFL HPF HGP HPW HD1 HD2
                go_wp2
                go_roundw
                case rel => exact ⟨j + 1, by omega, by go_num, Lib.hid ⟨_, _, HN5.out.1.less (by omega), HN5.out.2⟩⟩
                case measure => simp [intOf]; omega
              · have e2 : (kd == 2) = false := by rw [beq_eq_false_iff_ne]; exact k2
                by_cases k5 : kd = 5
                · subst k5
                  clear e1 e2 k1 k2 hS1
                  go_wp2_with fail
                  refine HFL.out.mono ?_
                  rintro e w5 ⟨y, l5, x5, rfl, hfl, hq5⟩
                  have HN5 := Lib.hid (And.intro hq5 (HPF.out hfl))
                  clear hfl hq5 HGE HPG HPU HFL HPF HGP HPW HD1 HD2
                  go_wp2
                  go_roundw
                  case rel => exact ⟨j + 1, by omega, by go_num, Lib.hid ⟨_, _, HN5.out.1.less (by omega), HN5.out.2⟩⟩
                  case measure => simp [intOf]; omega
                · have e5 : (kd == 5) = false := by rw [beq_eq_false_iff_ne]; exact k5
                  clear k1 k2 k5 hcell hS1 HPW HD1 HD2 HGP HGE HFL
                  go_wp2
                  go_roundw
                  case rel => exact ⟨j + 1, by omega, by go_num, Lib.hid ⟨_, _, HC0.out.1.less (by omega), HC0.out.2⟩⟩
                  case measure => simp [intOf]; omega
        · have hjm : ¬ (j < m ∧ j < 200) := hlt
          have c0 := pair_cell hcq.at_
          have HPN := Lib.hid hpn
          have HRD := Lib.hid (show Calls Tryz.prog 13 #[.pointer (some ⟨J.v, 0, none⟩), .int .i64 (kk : Int)] wr _ from (hcq.less (k' := 380500 + 1) (by omega)).vread kk (by rw [hVn]; exact hkk))
          clear hcq hpn hrel
          have hend : ((j : Int) < (m : Int) ∧ ¬ (j : Int) < 200) ∨ ¬ (j : Int) < (m : Int) := by omega
          rcases hend with ⟨q3, q4⟩ | q3
          all_goals
            as_aux_lemma =>
            clear hlt hjm
            go_wp2_with fail
            refine HRD.out.mono ?_
            rintro e w5 ⟨y, A5, len5, cap5, X5, x5, rfl, hrd, hqx, hgot⟩
            have hrd : y = 0 ∧ X5 = contR ar10 x kk ∧ ∀ j, contR ar10 x5 j = contR ar10 x j := hrd
            obtain ⟨rfl, hX, hsame⟩ := hrd
            have hX : X5 = Sh.noughts := hX.trans HPN.out.has
            subst hX
            obtain ⟨_, rfl, ad5, o5, rfl, hby5, _, hq5⟩ | ⟨h0, _⟩ := hgot
            rotate_left
            · exact absurd rfl h0
            have hcv5 := Go.Proofs.YtepoepmndckmaaaGreatDoor.Kc.got_conv hby5 rfl hq5.at_
            have HPN5 := Lib.hid (show Pnd (Hv J ar10 hG hN) (fun x : Rs => contR ar10 x kk = Sh.noughts) z l x5 from ⟨HPN.out.mem, HPN.out.pins, (hsame kk).trans HPN.out.has, HPN.out.lows, HPN.out.keys⟩)
            have HQ5 := Lib.hid hq5
            have hS5 := hq5.sq
            obtain ⟨s0, hs0⟩ : ∃ s0, Sh.strL Sh.noughts = s0 := ⟨_, rfl⟩
            have HS0 := Lib.hid hs0
            have HBY : Hid (∀ W : World, Go.Proofs.YtepoepmndckmaaaGreatDoor.Kc.SQ [(ad5.block, o5), (q, pairO g.c xr)] W → (convert 40 9 (.slice (some ad5) 128 cap5)).run Tryz.prog W = .ok (.string s0) W) := Lib.hid fun W hW => hcv5 W hW.head cap5 _ HS0.out
            clear hqx hq5 hby5 hcv5 hsame hs0 HRD c0 HPN
            go_wp2_with fail
            refine wp_region_held_drew (S := Go.Proofs.YtepoepmndckmaaaGreatDoor.Kc.SQ [(ad5.block, o5), (q, pairO g.c xr)]) (by kernel_rfl) hS5 (fun hHeld => ?_)
            refine wpAnyH_take (i := 0) (oi := ⟨some 128, _, _, _, _, _⟩) (v := ?_) rfl (by kernel_rfl) (by kernel_rfl) (by kernel_rfl) (fun _ _ _ h => h) (Or.inl ⟨by rfl, ?_⟩) (by assumption) ?_
            rotate_left
            · (intro w hSw; (try dsimp only at hSw); go_simp; first | done | with_reducible rfl)
            try simp only [Act.put, List.setIfInBounds_toArray, List.set_cons_zero, List.set_cons_succ]
            refine wpAnyH_take (i := 1) (oi := ⟨some 129, _, _, _, _, _⟩) (v := ?_) rfl (by kernel_rfl) (by kernel_rfl) (by kernel_rfl) (fun _ _ _ h => h) (Or.inl ⟨by rfl, ?_⟩) (by assumption) ?_
            rotate_left
            · (intro w hSw; (try dsimp only at hSw); go_simp; first | done | with_reducible rfl)
            try simp only [Act.put, List.setIfInBounds_toArray, List.set_cons_zero, List.set_cons_succ]
            refine wpAnyH_take (i := 2) (oi := ⟨some 130, _, _, _, _, _⟩) (v := ?_) rfl (by kernel_rfl) (by kernel_rfl) (by kernel_rfl) (fun _ _ _ h => h) (Or.inl ⟨by rfl, ?_⟩) (by assumption) ?_
            rotate_left
            · (intro w hSw; (try dsimp only at hSw); go_simp; first | done | with_reducible rfl)
            try simp only [Act.put, List.setIfInBounds_toArray, List.set_cons_zero, List.set_cons_succ]
            refine wpAnyH_take (i := 3) (oi := ⟨some 131, _, _, _, _, _⟩) (v := ?_) rfl (by kernel_rfl) (by kernel_rfl) (by kernel_rfl) (fun _ _ _ h => h) (Or.inl ⟨by rfl, ?_⟩) (by assumption) ?_
            rotate_left
            · (intro w hSw; (try dsimp only at hSw); go_simp; first | done | with_reducible rfl)
            try simp only [Act.put, List.setIfInBounds_toArray, List.set_cons_zero, List.set_cons_succ]
            refine wpAnyH_take (i := 4) (oi := ⟨some 132, _, _, _, _, _⟩) (v := ?_) rfl (by kernel_rfl) (by kernel_rfl) (by kernel_rfl) (fun _ _ _ h => h) (Or.inl ⟨by rfl, ?_⟩) (by assumption) ?_
            rotate_left
            · (intro w hSw; have c9 := HBY.out w hSw; clear hSw; (try dsimp only at hSw); go_simp; first | done | with_reducible rfl)
            try simp only [Act.put, List.setIfInBounds_toArray, List.set_cons_zero, List.set_cons_succ]
            refine wpAnyH_ready (rs := [5]) (by kernel_rfl) (by simp) ?_
            refine AllReadyH.cons (o := ⟨some 133, _, _, _, _, _⟩) rfl (fun K hK => ?_) AllReadyH.nil
            rw [if_pos (by rfl)]
            refine wp_make128 _ _ rfl rfl rfl (fun wm hom hgm => ?_)
            refine hK.out _ _ ((HQ5.out.grown (((Below.refl _ w5).drew).trans (hgm.mono (Nat.le_refl _)))).sq) (fun hHeld => ?_)
            clear hK K
            try simp only [Act.put, List.setIfInBounds_toArray, List.set_cons_zero, List.set_cons_succ]
            obtain ⟨om, hblm, hcvm⟩ := Go.Proofs.YtepoepmndckmaaaGreatDoor.Kc.own_conv (B := w5.heap.size) (b := w5.heap.size) hom
            have HBM : Hid (∀ W : World, Go.Proofs.YtepoepmndckmaaaGreatDoor.Kc.SQ [(w5.heap.size, om), (ad5.block, o5), (q, pairO g.c xr)] W → (convert 40 9 (.slice (some ⟨w5.heap.size, 0, none⟩) 128 128)).run Tryz.prog W = .ok (.string s0) W) := Lib.hid fun W hW => hcvm W hW.head _ HS0.out
            have hqm := HQ5.out.add (a := w5.heap.size) (((Below.refl _ w5).drew).trans (hgm.mono (Nat.le_refl _))) (Nat.le_refl _) hblm
            refine Sh.wpAnyH_mono (S' := Go.Proofs.YtepoepmndckmaaaGreatDoor.Kc.SQ [(w5.heap.size, om), (ad5.block, o5), (q, pairO g.c xr)]) (fun W hW => hW.tail) _ _ _ _ ?_
            clear hHeld
            have hHeld : (Go.Proofs.YtepoepmndckmaaaGreatDoor.Kc.SQ [(w5.heap.size, om), (ad5.block, o5), (q, pairO g.c xr)]) _ := hqm.sq
            have HQM := Lib.hid hqm.tail.tail
            clear hom hgm hblm hcvm hqm HBY HQ5
            refine wpAnyH_take (i := 6) (oi := ⟨some 134, _, _, _, _, _⟩) (v := ?_) rfl (by kernel_rfl) (by kernel_rfl) (by kernel_rfl) (fun _ _ _ h => h) (Or.inl ⟨by rfl, ?_⟩) (by assumption) ?_
            rotate_left
            · (intro w hSw; have c9 := HBM.out w hSw; clear hSw; (try dsimp only at hSw); go_simp; first | done | with_reducible rfl)
            try simp only [Act.put, List.setIfInBounds_toArray, List.set_cons_zero, List.set_cons_succ]
            refine wpAnyH_take (i := 7) (oi := ⟨some 135, _, _, _, _, _⟩) (v := ?_) rfl (by kernel_rfl) (by kernel_rfl) (by kernel_rfl) (fun _ _ _ h => h) (Or.inl ⟨by rfl, ?_⟩) (by assumption) ?_
            rotate_left
            · (intro w hSw; (try dsimp only at hSw); go_simp; first | done | with_reducible rfl)
            try simp only [Act.put, List.setIfInBounds_toArray, List.set_cons_zero, List.set_cons_succ]
            refine wpAnyH_take (i := 8) (oi := ⟨some 136, _, _, _, _, _⟩) (v := ?_) rfl (by kernel_rfl) (by kernel_rfl) (by kernel_rfl) (fun _ _ _ h => h) (Or.inl ⟨by rfl, ?_⟩) (by assumption) ?_
            rotate_left
            · (intro w hSw; (try dsimp only at hSw); go_simp; first | done | with_reducible rfl)
            try simp only [Act.put, List.setIfInBounds_toArray, List.set_cons_zero, List.set_cons_succ]
            refine wpAnyH_done (by kernel_rfl) ?_ _
            clear hHeld HBM
            have cm := pair_cell HQM.out.at_
            have HDI := Lib.hid HQM.out.dirties
            clear hS5
            go_wp2_with fail
            refine HDI.out.mono ?_
            rintro r w6 ⟨v6, rfl, ho6, hb6⟩
            have hin6 := Go.Proofs.YtepoepmndckmaaaGreatDoor.Kc.dirty_in HPN5.out.mem (by rw [← HZZ.out])
            rw [hzk] at hin6
            obtain ⟨b6, c6, o6, rfl, hlo6, hbl6, hrd6⟩ := Go.Proofs.YtepoepmndckmaaaGreatDoor.Kc.own_block ho6 (List.length_pos_of_mem hin6)
            have hq6 := HQM.out.add hb6 hlo6 hbl6
            have HQ6 := Lib.hid hq6
            have HRD6 := Lib.hid (hrd6 w6 hbl6)
            have HIN6 := Lib.hid hin6
            have hlen6 : (Go.Proofs.YtepoepmndckmaaaGreatDoor.Kc.risesE En.dirty l).length ≤ 7 := Nat.le_trans Go.Proofs.YtepoepmndckmaaaGreatDoor.Kc.rises_few (Nat.le_trans HQM.out.len h7)
            clear ho6 hb6 hlo6 hbl6 hrd6 hq6 hin6 HDI cm
            generalize Go.Proofs.YtepoepmndckmaaaGreatDoor.Kc.risesE En.dirty l = ds at *
            generalize hnd : ds.length = nd at *
            have HND := Lib.hid hnd
            have hrel6 : Hid (Go.Proofs.YtepoepmndckmaaaGreatDoor.Kc.SameW w6 w6 ∧ false = (ds.take 0).any fun d => decide (d = (kk : Int))) := Lib.hid ⟨rfl, by rw [List.take_zero]; rfl⟩
            clear hnd
            go_wp2
            go_loopw [17, 19] (fun s17 s19 wx => ∃ (t : Nat) (b : Bool), t ≤ nd ∧ s17 = .bool b ∧ s19 = .int .i64 t ∧ Hid (Go.Proofs.YtepoepmndckmaaaGreatDoor.Kc.SameW wx w6 ∧ b = (ds.take t).any fun d => decide (d = (kk : Int)))) (fun _ s _ => nd - (intOf s).toNat)
            case atStart => exact ⟨0, false, Nat.zero_le _, rfl, rfl, hrel6⟩
            case round =>
              obtain ⟨t, b, ht, rfl, rfl, hrel⟩ := hrel
              clear hrel6
              obtain ⟨hwr, hbb⟩ := hrel.out
              have hwr : w6 = wr := Eq.symm hwr
              subst hwr
              by_cases hlt : t < nd
              · have hlt2 : t < ds.length := by rw [HND.out]; exact hlt
                have d6 := HRD6.out t (.int .i64 ds[t]) (by rw [List.getElem?_map, List.getElem?_eq_getElem hlt2]; rfl)
                have HB2 : Hid ((ds.take (t + 1)).any (fun d => decide (d = (kk : Int))) = (b || decide (ds[t] = (kk : Int)))) := Lib.hid (by rw [List.take_succ_eq_append_getElem hlt2, List.any_append, hbb]; simp)
                generalize ds[t] = dt at *
                clear hbb hlt2 hrel
                cases b with
                | true =>
                  go_wp2
                  go_roundw
                  case rel => exact ⟨t + 1, true, by omega, rfl, by go_num, Lib.hid ⟨rfl, by rw [HB2.out]; rfl⟩⟩
                  case measure => simp [intOf]; omega
                | false =>
                  by_cases hdk : dt = (kk : Int)
                  · have HD := Lib.hid hdk
                    have qd : (dt == (kk : Int)) = true := by rw [hdk]; simp
                    clear hdk
                    go_wp2
                    go_roundw
                    case rel => exact ⟨t + 1, true, by omega, rfl, by go_num, Lib.hid ⟨rfl, by rw [HB2.out, decide_eq_true HD.out]; rfl⟩⟩
                    case measure => simp [intOf]; omega
                  · have HD := Lib.hid hdk
                    have qd : (dt == (kk : Int)) = false := by rw [beq_eq_false_iff_ne]; exact hdk
                    clear hdk
                    go_wp2
                    go_roundw
                    case rel => exact ⟨t + 1, false, by omega, rfl, by go_num, Lib.hid ⟨rfl, by rw [HB2.out, decide_eq_false HD.out]; rfl⟩⟩
                    case measure => simp [intOf]; omega
              · obtain rfl : t = nd := by omega
                have hb1 : b = true := by
                  rw [hbb, ← HND.out, List.take_length, List.any_eq_true]
                  exact ⟨_, HIN6.out, by simp⟩
                subst hb1
                clear hbb hrel HIN6 HRD6
                have c6p := pair_cell HQ6.out.at2
                have HGE := Lib.hid ((HQ6.out.tail.less (k' := 380100 + 2) (by omega)).get (kk : Int))
                have HFZ : Hid (Go.Proofs.YtepoepmndckmaaaGreatDoor.Kc.finds l (kk : Int) = some z) := Lib.hid (by rw [← hzk]; exact Go.Proofs.YtepoepmndckmaaaGreatDoor.Kc.finds_mem HPN5.out.keys HPN5.out.mem)
                go_wp2_with fail
                refine HGE.out.mono ?_
                rintro r w7 ⟨y, A7, len7, cap7, X7, l7, x7, rfl, hget, hqx, hgot⟩
                obtain ⟨rfl, rfl, rfl, rfl⟩ := Go.Proofs.YtepoepmndckmaaaGreatDoor.Kc.get_hit hget ⟨by omega, by rw [hVn]; omega⟩ HFZ.out
                obtain ⟨_, rfl, ad7, o7, rfl, hby7, _, hq7⟩ | ⟨h0, _⟩ := hgot
                rotate_left
                · exact absurd rfl h0
                have hcv7 := Go.Proofs.YtepoepmndckmaaaGreatDoor.Kc.got_conv hby7 rfl hq7.at_
                have hzd : z.d = Sh.secOf wi := by rw [← HZZ.out]
                have hzp : z.pins = 1 := by rw [← HZZ.out]
                have hzy : z.dirty = true := by rw [← HZZ.out]
                have hpn7 : Pnd (Hv J ar10 hG hN) (fun x : Rs => contR ar10 x kk = Sh.noughts) z (Go.Proofs.YtepoepmndckmaaaGreatDoor.Kc.useE l z) x7 := hqx.pnd (by unfold Go.Proofs.YtepoepmndckmaaaGreatDoor.Kc.useE; exact List.mem_append_right _ (List.mem_singleton.2 rfl)) (by rw [hzp]; decide) HPN5.out.has
                have hf7 : Go.Proofs.YtepoepmndckmaaaGreatDoor.Kc.finds (Go.Proofs.YtepoepmndckmaaaGreatDoor.Kc.useE l z) (kk : Int) = some z := by rw [← hzk]; exact Go.Proofs.YtepoepmndckmaaaGreatDoor.Kc.finds_mem hpn7.keys hpn7.mem
                have hf8 : Go.Proofs.YtepoepmndckmaaaGreatDoor.Kc.finds (Go.Proofs.YtepoepmndckmaaaGreatDoor.Kc.putE (Go.Proofs.YtepoepmndckmaaaGreatDoor.Kc.useE l z) { z with pins := z.pins - 1 }) (kk : Int) = some { z with pins := z.pins - 1 } := by rw [Go.Proofs.YtepoepmndckmaaaGreatDoor.Kc.finds_putE hpn7.keys hpn7.mem (e := { z with pins := z.pins - 1 }) rfl, if_pos (by rw [← hzk])]
                have hl8 : (Go.Proofs.YtepoepmndckmaaaGreatDoor.Kc.risesE Go.Proofs.YtepoepmndckmaaaGreatDoor.Kc.fFlush (Go.Proofs.YtepoepmndckmaaaGreatDoor.Kc.putE (Go.Proofs.YtepoepmndckmaaaGreatDoor.Kc.useE l z) { z with pins := z.pins - 1 })).length ≤ 7 := Nat.le_trans Go.Proofs.YtepoepmndckmaaaGreatDoor.Kc.rises_few (by rw [Go.Proofs.YtepoepmndckmaaaGreatDoor.Kc.putE_length]; exact Nat.le_trans hqx.len h7)
                have HF1 := Lib.hid (And.intro hf7 (And.intro hf8 (And.intro (show ({ z with pins := z.pins - 1 } : En).pins = 0 by show z.pins - 1 = 0; rw [hzp]) (And.intro hl8 (show z.pins ≠ 0 by rw [hzp]; decide)))))
                have HFW : Hid (∀ {y : Int} {l' : List En} {x' : Rs}, Go.Proofs.YtepoepmndckmaaaGreatDoor.Kc.FlushR (Hv J ar10 hG hN) (Go.Proofs.YtepoepmndckmaaaGreatDoor.Kc.putE (Go.Proofs.YtepoepmndckmaaaGreatDoor.Kc.useE l z) { z with pins := z.pins - 1 }) x7 y l' x' → y = 0 ∧ contR ar10 x' kk = Sh.secOf wi) := Lib.hid fun h =>
                  Go.Proofs.YtepoepmndckmaaaGreatDoor.Kc.Leaves.flush (z := { z with pins := z.pins - 1 }) (P := fun x : Rs => contR ar10 x kk = Sh.secOf wi) hV (by show Go.Proofs.YtepoepmndckmaaaGreatDoor.Kc.Leaves _ z.k _; rw [hzk]; exact hv_leaves kk hkk _) (fun {a b} hw => by
                    have hw2 : (0 : Int) = 0 ∧ ∀ j, j < ar10.St * (ar10.M - 1) → contR ar10 b j = if j = z.k then z.d else contR ar10 a j := hw
                    rw [hw2.2 kk (by show kk < 12; exact hkk), if_pos hzk.symm, hzd]) h (fun e he => by
                    rcases Go.Proofs.YtepoepmndckmaaaGreatDoor.Kc.mem_putE he with q2 | q2
                    · rw [q2]; show z.k < _; rw [hzk]; exact hkk
                    · exact hpn7.lows e q2.1) (by rw [Go.Proofs.YtepoepmndckmaaaGreatDoor.Kc.putE_keys]; exact hpn7.keys) (by unfold Go.Proofs.YtepoepmndckmaaaGreatDoor.Kc.putE; exact List.mem_map.2 ⟨z, hpn7.mem, if_pos rfl⟩) hzy (by show z.pins - 1 = 0; rw [hzp])
                have HP7 := Lib.hid (hq7.grown ((Below.refl _ w7).drew))
                have hS7 := hq7.sq
                obtain ⟨s9, hs9⟩ : ∃ s9, Sh.strL (Sh.secOf wi) = s9 := ⟨_, rfl⟩
                have HS9 := Lib.hid hs9
                have HPC7 : Hid (∀ W : World, Go.Proofs.YtepoepmndckmaaaGreatDoor.Kc.SQ [(ad7.block, o7), (q, pairO g.c xr)] W → W.cell? ⟨q, 0, none⟩ = some (.pointer (some ⟨g.c, 0, none⟩))) := Lib.hid fun W hW => pair_cell hW.tail.head
                have HBY : Hid (∀ W : World, Go.Proofs.YtepoepmndckmaaaGreatDoor.Kc.SQ [(ad7.block, o7), (q, pairO g.c xr)] W → (convert 40 9 (.slice (some ad7) 128 cap7)).run Tryz.prog W = .ok (.string s9) W) := Lib.hid fun W hW => hcv7 W hW.head cap7 _ (by rw [hzd]; exact HS9.out)
                clear HPC
                have HPC := HPC7
                clear HPC7 hget hqx hq7 hby7 hcv7 hzd hzp hzy hpn7 hf7 hf8 hl8 hs9 HGE c6p HQ6 HQM HPN5 HFZ
                go_wp2_with fail
                refine wp_region_held_drew (S := Go.Proofs.YtepoepmndckmaaaGreatDoor.Kc.SQ [(ad7.block, o7), (q, pairO g.c xr)]) (by kernel_rfl) hS7 (fun hHeld => ?_)
                refine wpAnyH_take (i := 0) (oi := ⟨some 166, _, _, _, _, _⟩) (v := ?_) rfl (by kernel_rfl) (by kernel_rfl) (by kernel_rfl) (fun _ _ _ h => h) (Or.inl ⟨by rfl, ?_⟩) (by assumption) ?_
                rotate_left
                · (intro w hSw; (try dsimp only at hSw); go_simp; first | done | with_reducible rfl)
                try simp only [Act.put, List.setIfInBounds_toArray, List.set_cons_zero, List.set_cons_succ]
                refine wpAnyH_take (i := 1) (oi := ⟨some 167, _, _, _, _, _⟩) (v := ?_) rfl (by kernel_rfl) (by kernel_rfl) (by kernel_rfl) (fun _ _ _ h => h) (Or.inl ⟨by rfl, ?_⟩) (by assumption) ?_
                rotate_left
                · (intro w hSw; (try dsimp only at hSw); go_simp; first | done | with_reducible rfl)
                try simp only [Act.put, List.setIfInBounds_toArray, List.set_cons_zero, List.set_cons_succ]
                refine wpAnyH_take (i := 2) (oi := ⟨some 168, _, _, _, _, _⟩) (v := ?_) rfl (by kernel_rfl) (by kernel_rfl) (by kernel_rfl) (fun _ _ _ h => h) (Or.inl ⟨by rfl, ?_⟩) (by assumption) ?_
                rotate_left
                · (intro w hSw; (try dsimp only at hSw); go_simp; first | done | with_reducible rfl)
                try simp only [Act.put, List.setIfInBounds_toArray, List.set_cons_zero, List.set_cons_succ]
                refine wpAnyH_take (i := 3) (oi := ⟨some 169, _, _, _, _, _⟩) (v := ?_) rfl (by kernel_rfl) (by kernel_rfl) (by kernel_rfl) (fun _ _ _ h => h) (Or.inl ⟨by rfl, ?_⟩) (by assumption) ?_
                rotate_left
                · (intro w hSw; (try dsimp only at hSw); go_simp; first | done | with_reducible rfl)
                try simp only [Act.put, List.setIfInBounds_toArray, List.set_cons_zero, List.set_cons_succ]
                refine wpAnyH_take (i := 4) (oi := ⟨some 170, _, _, _, _, _⟩) (v := ?_) rfl (by kernel_rfl) (by kernel_rfl) (by kernel_rfl) (fun _ _ _ h => h) (Or.inl ⟨by rfl, ?_⟩) (by assumption) ?_
                rotate_left
                · (intro w hSw; (try dsimp only at hSw); go_simp; first | done | with_reducible rfl)
                try simp only [Act.put, List.setIfInBounds_toArray, List.set_cons_zero, List.set_cons_succ]
                refine wpAnyH_take (i := 5) (oi := ⟨some 171, _, _, _, _, _⟩) (v := ?_) rfl (by kernel_rfl) (by kernel_rfl) (by kernel_rfl) (fun _ _ _ h => h) (Or.inl ⟨by rfl, ?_⟩) (by assumption) ?_
                rotate_left
                · (intro w hSw; (try dsimp only at hSw); go_simp; first | done | with_reducible rfl)
                try simp only [Act.put, List.setIfInBounds_toArray, List.set_cons_zero, List.set_cons_succ]
                refine wpAnyH_take (i := 6) (oi := ⟨some 172, _, _, _, _, _⟩) (v := ?_) rfl (by kernel_rfl) (by kernel_rfl) (by kernel_rfl) (fun _ _ _ h => h) (Or.inl ⟨by rfl, ?_⟩) (by assumption) ?_
                rotate_left
                · (intro w hSw; (try dsimp only at hSw); go_simp; first | done | with_reducible rfl)
                try simp only [Act.put, List.setIfInBounds_toArray, List.set_cons_zero, List.set_cons_succ]
                refine wpAnyH_take (i := 7) (oi := ⟨some 173, _, _, _, _, _⟩) (v := ?_) rfl (by kernel_rfl) (by kernel_rfl) (by kernel_rfl) (fun _ _ _ h => h) (Or.inl ⟨by rfl, ?_⟩) (by assumption) ?_
                rotate_left
                · (intro w hSw; (try dsimp only at hSw); go_simp; first | done | with_reducible rfl)
                try simp only [Act.put, List.setIfInBounds_toArray, List.set_cons_zero, List.set_cons_succ]
                refine wpAnyH_take (i := 8) (oi := ⟨some 174, _, _, _, _, _⟩) (v := ?_) rfl (by kernel_rfl) (by kernel_rfl) (by kernel_rfl) (fun _ _ _ h => h) (Or.inl ⟨by rfl, ?_⟩) (by assumption) ?_
                rotate_left
                · (intro w hSw; have c9 := HBY.out w hSw; clear hSw; (try dsimp only at hSw); go_simp; first | done | with_reducible rfl)
                try simp only [Act.put, List.setIfInBounds_toArray, List.set_cons_zero, List.set_cons_succ]
                refine wpAnyH_take (i := 9) (oi := ⟨some 175, _, _, _, _, _⟩) (v := ?_) rfl (by kernel_rfl) (by kernel_rfl) (by kernel_rfl) (fun _ _ _ h => h) (Or.inl ⟨by rfl, ?_⟩) (by assumption) ?_
                rotate_left
                · (intro w hSw; (try dsimp only at hSw); go_simp; first | done | with_reducible rfl)
                try simp only [Act.put, List.setIfInBounds_toArray, List.set_cons_zero, List.set_cons_succ]
                refine wpAnyH_ready (rs := [10]) (by kernel_rfl) (by simp) ?_
                refine AllReadyH.cons (o := ⟨some 176, _, _, _, _, _⟩) rfl (fun K hK => ?_) AllReadyH.nil
                go_simp
                refine (Sh.sector_any _ wi hwi).mono ?_
                rintro e w8 ⟨rfl, ho8, hb8⟩
                refine hK.out _ _ ((HP7.out.grown hb8).sq) (fun hHeld => ?_)
                clear hK K
                try simp only [Act.put, List.setIfInBounds_toArray, List.set_cons_zero, List.set_cons_succ]
                obtain ⟨o8, hbl8, hcv8⟩ := Go.Proofs.YtepoepmndckmaaaGreatDoor.Kc.own_conv ho8
                have hq8 := HP7.out.add hb8 (Nat.le_refl _) hbl8
                have HPC8 : Hid (∀ W : World, Go.Proofs.YtepoepmndckmaaaGreatDoor.Kc.SQ [(w7.heap.size, o8), (ad7.block, o7), (q, pairO g.c xr)] W → W.cell? ⟨q, 0, none⟩ = some (.pointer (some ⟨g.c, 0, none⟩))) := Lib.hid fun W hW => HPC.out W hW.tail
                have HBY8 : Hid (∀ W : World, Go.Proofs.YtepoepmndckmaaaGreatDoor.Kc.SQ [(w7.heap.size, o8), (ad7.block, o7), (q, pairO g.c xr)] W → (convert 40 9 (.slice (some ⟨w7.heap.size, 0, none⟩) 128 128)).run Tryz.prog W = .ok (.string s9) W) := Lib.hid fun W hW => hcv8 W hW.head _ HS9.out
                refine Sh.wpAnyH_mono (S' := Go.Proofs.YtepoepmndckmaaaGreatDoor.Kc.SQ [(w7.heap.size, o8), (ad7.block, o7), (q, pairO g.c xr)]) (fun W hW => hW.tail) _ _ _ _ ?_
                clear hHeld
                have hHeld : (Go.Proofs.YtepoepmndckmaaaGreatDoor.Kc.SQ [(w7.heap.size, o8), (ad7.block, o7), (q, pairO g.c xr)]) _ := hq8.sq
                have HU := Lib.hid (hq8.unpin1 (m := kk) (by omega) HF1.out.1 HF1.out.2.2.2.2)
                clear HPC HBY HP7 ho8 hb8 hbl8 hcv8 hq8 hS7
                refine wpAnyH_take (i := 11) (oi := ⟨some 177, _, _, _, _, _⟩) (v := ?_) rfl (by kernel_rfl) (by kernel_rfl) (by kernel_rfl) (fun _ _ _ h => h) (Or.inl ⟨by rfl, ?_⟩) (by assumption) ?_
                rotate_left
                · (intro w hSw; have c9 := HBY8.out w hSw; clear hSw; (try dsimp only at hSw); go_simp; first | done | with_reducible rfl)
                try simp only [Act.put, List.setIfInBounds_toArray, List.set_cons_zero, List.set_cons_succ]
                refine wpAnyH_take (i := 12) (oi := ⟨some 178, _, _, _, _, _⟩) (v := ?_) rfl (by kernel_rfl) (by kernel_rfl) (by kernel_rfl) (fun _ _ _ h => h) (Or.inl ⟨by rfl, ?_⟩) (by assumption) ?_
                rotate_left
                · (intro w hSw; (try dsimp only at hSw); go_simp; first | done | with_reducible rfl)
                try simp only [Act.put, List.setIfInBounds_toArray, List.set_cons_zero, List.set_cons_succ]
                refine wpAnyH_take (i := 13) (oi := ⟨some 179, _, _, _, _, _⟩) (v := ?_) rfl (by kernel_rfl) (by kernel_rfl) (by kernel_rfl) (fun _ _ _ h => h) (Or.inl ⟨by rfl, ?_⟩) (by assumption) ?_
                rotate_left
                · (intro w hSw; (try dsimp only at hSw); go_simp; first | done | with_reducible rfl)
                try simp only [Act.put, List.setIfInBounds_toArray, List.set_cons_zero, List.set_cons_succ]
                refine wpAnyH_take (i := 14) (oi := ⟨some 180, _, _, _, _, _⟩) (v := ?_) rfl (by kernel_rfl) (by kernel_rfl) (by kernel_rfl) (fun _ _ _ h => h) (Or.inl ⟨by rfl, ?_⟩) (by assumption) ?_
                rotate_left
                · (intro w hSw; (try dsimp only at hSw); go_simp; first | done | with_reducible rfl)
                try simp only [Act.put, List.setIfInBounds_toArray, List.set_cons_zero, List.set_cons_succ]
                refine wpAnyH_take (i := 15) (oi := ⟨some 181, _, _, _, _, _⟩) (v := ?_) rfl (by kernel_rfl) (by kernel_rfl) (by kernel_rfl) (fun _ _ _ h => h) (Or.inl ⟨by rfl, ?_⟩) (by assumption) ?_
                rotate_left
                · (intro w hSw; (try dsimp only at hSw); go_simp; first | done | with_reducible rfl)
                try simp only [Act.put, List.setIfInBounds_toArray, List.set_cons_zero, List.set_cons_succ]
                refine wpAnyH_take (i := 16) (oi := ⟨some 182, _, _, _, _, _⟩) (v := ?_) rfl (by kernel_rfl) (by kernel_rfl) (by kernel_rfl) (fun _ _ _ h => h) (Or.inl ⟨by rfl, ?_⟩) (by assumption) ?_
                rotate_left
                · (intro w hSw; (try dsimp only at hSw); go_simp; first | done | with_reducible rfl)
                try simp only [Act.put, List.setIfInBounds_toArray, List.set_cons_zero, List.set_cons_succ]
                refine wpAnyH_take (i := 17) (oi := ⟨some 183, _, _, _, _, _⟩) (v := ?_) rfl (by kernel_rfl) (by kernel_rfl) (by kernel_rfl) (fun _ _ _ h => h) (Or.inl ⟨by rfl, ?_⟩) (by assumption) ?_
                rotate_left
                · (intro w hSw; (try dsimp only at hSw); go_simp; first | done | with_reducible rfl)
                try simp only [Act.put, List.setIfInBounds_toArray, List.set_cons_zero, List.set_cons_succ]
                refine wpAnyH_take (i := 18) (oi := ⟨some 184, _, _, _, _, _⟩) (v := ?_) rfl (by kernel_rfl) (by kernel_rfl) (by kernel_rfl) (fun _ _ _ h => h) (Or.inl ⟨by rfl, ?_⟩) (by assumption) ?_
                rotate_left
                · (intro w hSw; have c9 := HPC8.out w hSw; clear hSw; (try dsimp only at hSw); go_simp; first | done | with_reducible rfl)
                try simp only [Act.put, List.setIfInBounds_toArray, List.set_cons_zero, List.set_cons_succ]
                refine wpAnyH_take (i := 19) (oi := ⟨some 185, _, _, _, _, _⟩) (v := ?_) rfl (by kernel_rfl) (by kernel_rfl) (by kernel_rfl) (fun _ _ _ h => h) (Or.inl ⟨by rfl, ?_⟩) (by assumption) ?_
                rotate_left
                · (intro w hSw; (try dsimp only at hSw); go_simp; first | done | with_reducible rfl)
                try simp only [Act.put, List.setIfInBounds_toArray, List.set_cons_zero, List.set_cons_succ]
                refine wpAnyH_ready (rs := [20]) (by kernel_rfl) (by simp) ?_
                refine AllReadyH.cons (o := ⟨some 186, _, _, _, _, _⟩) rfl (fun K hK => ?_) AllReadyH.nil
                go_simp
                refine (HU.out).mono ?_
                rintro e w9 ⟨rfl, hq9⟩
                refine hK.out _ _ hq9.sq (fun hHeld => ?_)
                clear hK K
                try simp only [Act.put, List.setIfInBounds_toArray, List.set_cons_zero, List.set_cons_succ]
                have HU2 := Lib.hid (hq9.unpin0 (m := kk) (by omega) HF1.out.2.1 HF1.out.2.2.1)
                have HQ9 := Lib.hid hq9
                clear hq9 HU
                refine wpAnyH_take (i := 21) (oi := ⟨some 187, _, _, _, _, _⟩) (v := ?_) rfl (by kernel_rfl) (by kernel_rfl) (by kernel_rfl) (fun _ _ _ h => h) (Or.inl ⟨by rfl, ?_⟩) (by assumption) ?_
                rotate_left
                · (intro w hSw; (try dsimp only at hSw); go_simp; first | done | with_reducible rfl)
                try simp only [Act.put, List.setIfInBounds_toArray, List.set_cons_zero, List.set_cons_succ]
                refine wpAnyH_take (i := 22) (oi := ⟨some 188, _, _, _, _, _⟩) (v := ?_) rfl (by kernel_rfl) (by kernel_rfl) (by kernel_rfl) (fun _ _ _ h => h) (Or.inl ⟨by rfl, ?_⟩) (by assumption) ?_
                rotate_left
                · (intro w hSw; (try dsimp only at hSw); go_simp; first | done | with_reducible rfl)
                try simp only [Act.put, List.setIfInBounds_toArray, List.set_cons_zero, List.set_cons_succ]
                refine wpAnyH_take (i := 23) (oi := ⟨some 189, _, _, _, _, _⟩) (v := ?_) rfl (by kernel_rfl) (by kernel_rfl) (by kernel_rfl) (fun _ _ _ h => h) (Or.inl ⟨by rfl, ?_⟩) (by assumption) ?_
                rotate_left
                · (intro w hSw; (try dsimp only at hSw); go_simp; first | done | with_reducible rfl)
                try simp only [Act.put, List.setIfInBounds_toArray, List.set_cons_zero, List.set_cons_succ]
                refine wpAnyH_take (i := 24) (oi := ⟨some 190, _, _, _, _, _⟩) (v := ?_) rfl (by kernel_rfl) (by kernel_rfl) (by kernel_rfl) (fun _ _ _ h => h) (Or.inl ⟨by rfl, ?_⟩) (by assumption) ?_
                rotate_left
                · (intro w hSw; (try dsimp only at hSw); go_simp; first | done | with_reducible rfl)
                try simp only [Act.put, List.setIfInBounds_toArray, List.set_cons_zero, List.set_cons_succ]
                refine wpAnyH_take (i := 25) (oi := ⟨some 191, _, _, _, _, _⟩) (v := ?_) rfl (by kernel_rfl) (by kernel_rfl) (by kernel_rfl) (fun _ _ _ h => h) (Or.inl ⟨by rfl, ?_⟩) (by assumption) ?_
                rotate_left
                · (intro w hSw; (try dsimp only at hSw); go_simp; first | done | with_reducible rfl)
                try simp only [Act.put, List.setIfInBounds_toArray, List.set_cons_zero, List.set_cons_succ]
                refine wpAnyH_take (i := 26) (oi := ⟨some 192, _, _, _, _, _⟩) (v := ?_) rfl (by kernel_rfl) (by kernel_rfl) (by kernel_rfl) (fun _ _ _ h => h) (Or.inl ⟨by rfl, ?_⟩) (by assumption) ?_
                rotate_left
                · (intro w hSw; (try dsimp only at hSw); go_simp; first | done | with_reducible rfl)
                try simp only [Act.put, List.setIfInBounds_toArray, List.set_cons_zero, List.set_cons_succ]
                refine wpAnyH_take (i := 27) (oi := ⟨some 193, _, _, _, _, _⟩) (v := ?_) rfl (by kernel_rfl) (by kernel_rfl) (by kernel_rfl) (fun _ _ _ h => h) (Or.inl ⟨by rfl, ?_⟩) (by assumption) ?_
                rotate_left
                · (intro w hSw; have c9 := HPC8.out w hSw; clear hSw; (try dsimp only at hSw); go_simp; first | done | with_reducible rfl)
                try simp only [Act.put, List.setIfInBounds_toArray, List.set_cons_zero, List.set_cons_succ]
                refine wpAnyH_take (i := 28) (oi := ⟨some 194, _, _, _, _, _⟩) (v := ?_) rfl (by kernel_rfl) (by kernel_rfl) (by kernel_rfl) (fun _ _ _ h => h) (Or.inl ⟨by rfl, ?_⟩) (by assumption) ?_
                rotate_left
                · (intro w hSw; (try dsimp only at hSw); go_simp; first | done | with_reducible rfl)
                try simp only [Act.put, List.setIfInBounds_toArray, List.set_cons_zero, List.set_cons_succ]
                refine wpAnyH_ready (rs := [29]) (by kernel_rfl) (by simp) ?_
                refine AllReadyH.cons (o := ⟨some 195, _, _, _, _, _⟩) rfl (fun K hK => ?_) AllReadyH.nil
                go_simp
                refine (HU2.out).mono ?_
                rintro e w10 ⟨rfl, hw10⟩
                refine hK.out _ _ (by rw [← hw10]; exact HQ9.out.sq) (fun hHeld => ?_)
                clear hK K
                try simp only [Act.put, List.setIfInBounds_toArray, List.set_cons_zero, List.set_cons_succ]
                subst hw10
                have HFL := Lib.hid ((HQ9.out.less (k' := 380000 + 1 + (Go.Proofs.YtepoepmndckmaaaGreatDoor.Kc.risesE Go.Proofs.YtepoepmndckmaaaGreatDoor.Kc.fFlush (Go.Proofs.YtepoepmndckmaaaGreatDoor.Kc.putE (Go.Proofs.YtepoepmndckmaaaGreatDoor.Kc.useE l z) { z with pins := z.pins - 1 })).length) (by have := HF1.out.2.2.2.1; omega)).flush)
                clear HU2
                refine wpAnyH_take (i := 30) (oi := ⟨some 196, _, _, _, _, _⟩) (v := ?_) rfl (by kernel_rfl) (by kernel_rfl) (by kernel_rfl) (fun _ _ _ h => h) (Or.inl ⟨by rfl, ?_⟩) (by assumption) ?_
                rotate_left
                · (intro w hSw; (try dsimp only at hSw); go_simp; first | done | with_reducible rfl)
                try simp only [Act.put, List.setIfInBounds_toArray, List.set_cons_zero, List.set_cons_succ]
                refine wpAnyH_take (i := 31) (oi := ⟨some 197, _, _, _, _, _⟩) (v := ?_) rfl (by kernel_rfl) (by kernel_rfl) (by kernel_rfl) (fun _ _ _ h => h) (Or.inl ⟨by rfl, ?_⟩) (by assumption) ?_
                rotate_left
                · (intro w hSw; (try dsimp only at hSw); go_simp; first | done | with_reducible rfl)
                try simp only [Act.put, List.setIfInBounds_toArray, List.set_cons_zero, List.set_cons_succ]
                refine wpAnyH_take (i := 32) (oi := ⟨some 198, _, _, _, _, _⟩) (v := ?_) rfl (by kernel_rfl) (by kernel_rfl) (by kernel_rfl) (fun _ _ _ h => h) (Or.inl ⟨by rfl, ?_⟩) (by assumption) ?_
                rotate_left
                · (intro w hSw; (try dsimp only at hSw); go_simp; first | done | with_reducible rfl)
                try simp only [Act.put, List.setIfInBounds_toArray, List.set_cons_zero, List.set_cons_succ]
                refine wpAnyH_take (i := 33) (oi := ⟨some 199, _, _, _, _, _⟩) (v := ?_) rfl (by kernel_rfl) (by kernel_rfl) (by kernel_rfl) (fun _ _ _ h => h) (Or.inl ⟨by rfl, ?_⟩) (by assumption) ?_
                rotate_left
                · (intro w hSw; (try dsimp only at hSw); go_simp; first | done | with_reducible rfl)
                try simp only [Act.put, List.setIfInBounds_toArray, List.set_cons_zero, List.set_cons_succ]
                refine wpAnyH_take (i := 34) (oi := ⟨some 200, _, _, _, _, _⟩) (v := ?_) rfl (by kernel_rfl) (by kernel_rfl) (by kernel_rfl) (fun _ _ _ h => h) (Or.inl ⟨by rfl, ?_⟩) (by assumption) ?_
                rotate_left
                · (intro w hSw; (try dsimp only at hSw); go_simp; first | done | with_reducible rfl)
                try simp only [Act.put, List.setIfInBounds_toArray, List.set_cons_zero, List.set_cons_succ]
                refine wpAnyH_take (i := 35) (oi := ⟨some 201, _, _, _, _, _⟩) (v := ?_) rfl (by kernel_rfl) (by kernel_rfl) (by kernel_rfl) (fun _ _ _ h => h) (Or.inl ⟨by rfl, ?_⟩) (by assumption) ?_
                rotate_left
                · (intro w hSw; (try dsimp only at hSw); go_simp; first | done | with_reducible rfl)
                try simp only [Act.put, List.setIfInBounds_toArray, List.set_cons_zero, List.set_cons_succ]
                refine wpAnyH_take (i := 36) (oi := ⟨some 202, _, _, _, _, _⟩) (v := ?_) rfl (by kernel_rfl) (by kernel_rfl) (by kernel_rfl) (fun _ _ _ h => h) (Or.inl ⟨by rfl, ?_⟩) (by assumption) ?_
                rotate_left
                · (intro w hSw; have c9 := HPC8.out w hSw; clear hSw; (try dsimp only at hSw); go_simp; first | done | with_reducible rfl)
                try simp only [Act.put, List.setIfInBounds_toArray, List.set_cons_zero, List.set_cons_succ]
                refine wpAnyH_ready (rs := [37]) (by kernel_rfl) (by simp) ?_
                refine AllReadyH.cons (o := ⟨some 203, _, _, _, _, _⟩) rfl (fun K hK => ?_) AllReadyH.nil
                go_simp
                refine (HFL.out).mono ?_
                rintro e w11 ⟨y, l11, x11, rfl, hfl, hq11⟩
                refine hK.out _ _ hq11.sq (fun hHeld => ?_)
                clear hK K
                try simp only [Act.put, List.setIfInBounds_toArray, List.set_cons_zero, List.set_cons_succ]
                obtain ⟨rfl, hcon⟩ := HFW.out hfl
                have HQ11 := Lib.hid hq11
                have HCON := Lib.hid hcon
                clear hfl hq11 hcon HFL HQ9
                refine wpAnyH_take (i := 38) (oi := ⟨some 204, _, _, _, _, _⟩) (v := ?_) rfl (by kernel_rfl) (by kernel_rfl) (by kernel_rfl) (fun _ _ _ h => h) (Or.inl ⟨by rfl, ?_⟩) (by assumption) ?_
                rotate_left
                · (intro w hSw; (try dsimp only at hSw); go_simp; first | done | with_reducible rfl)
                try simp only [Act.put, List.setIfInBounds_toArray, List.set_cons_zero, List.set_cons_succ]
                refine wpAnyH_take (i := 39) (oi := ⟨some 205, _, _, _, _, _⟩) (v := ?_) rfl (by kernel_rfl) (by kernel_rfl) (by kernel_rfl) (fun _ _ _ h => h) (Or.inl ⟨by rfl, ?_⟩) (by assumption) ?_
                rotate_left
                · (intro w hSw; (try dsimp only at hSw); go_simp; first | done | with_reducible rfl)
                try simp only [Act.put, List.setIfInBounds_toArray, List.set_cons_zero, List.set_cons_succ]
                refine wpAnyH_done (by kernel_rfl) ?_ _
                clear hHeld HPC8 HBY8
                have HRD12 := Lib.hid (show Calls Tryz.prog 13 #[.pointer (some ⟨J.v, 0, none⟩), .int .i64 (kk : Int)] w11 _ from (HQ11.out.tail.tail.less (k' := 379000 + 1) (by omega)).vread kk (by rw [hVn]; exact hkk))
                clear HQ11
                go_wp2_with fail
                refine HRD12.out.mono ?_
                rintro e w12 ⟨y, A12, len12, cap12, X12, x12, rfl, hrd, hqx, hgot⟩
                have hrd : y = 0 ∧ X12 = contR ar10 x11 kk ∧ ∀ j, contR ar10 x12 j = contR ar10 x11 j := hrd
                obtain ⟨rfl, hX, _⟩ := hrd
                rw [HCON.out] at hX
                subst hX
                obtain ⟨_, rfl, ad12, o12, rfl, hby12, _, hq12⟩ | ⟨h0, _⟩ := hgot
                rotate_left
                · exact absurd rfl h0
                have hcv12 := Go.Proofs.YtepoepmndckmaaaGreatDoor.Kc.got_conv hby12 rfl hq12.at_
                have HP12 := Lib.hid (hq12.grown ((Below.refl _ w12).drew))
                have hS12 := hq12.sq
                have HBY : Hid (∀ W : World, Go.Proofs.YtepoepmndckmaaaGreatDoor.Kc.SQ [(ad12.block, o12), (q, pairO g.c xr)] W → (convert 40 9 (.slice (some ad12) 128 cap12)).run Tryz.prog W = .ok (.string s9) W) := Lib.hid fun W hW => hcv12 W hW.head cap12 _ HS9.out
                clear hqx hq12 hby12 hcv12 HRD12
                go_wp2_with fail
                refine wp_region_held_drew (S := Go.Proofs.YtepoepmndckmaaaGreatDoor.Kc.SQ [(ad12.block, o12), (q, pairO g.c xr)]) (by kernel_rfl) hS12 (fun hHeld => ?_)
                refine wpAnyH_take (i := 0) (oi := ⟨some 212, _, _, _, _, _⟩) (v := ?_) rfl (by kernel_rfl) (by kernel_rfl) (by kernel_rfl) (fun _ _ _ h => h) (Or.inl ⟨by rfl, ?_⟩) (by assumption) ?_
                rotate_left
                · (intro w hSw; (try dsimp only at hSw); go_simp; first | done | with_reducible rfl)
                try simp only [Act.put, List.setIfInBounds_toArray, List.set_cons_zero, List.set_cons_succ]
                refine wpAnyH_take (i := 1) (oi := ⟨some 213, _, _, _, _, _⟩) (v := ?_) rfl (by kernel_rfl) (by kernel_rfl) (by kernel_rfl) (fun _ _ _ h => h) (Or.inl ⟨by rfl, ?_⟩) (by assumption) ?_
                rotate_left
                · (intro w hSw; (try dsimp only at hSw); go_simp; first | done | with_reducible rfl)
                try simp only [Act.put, List.setIfInBounds_toArray, List.set_cons_zero, List.set_cons_succ]
                refine wpAnyH_take (i := 2) (oi := ⟨some 214, _, _, _, _, _⟩) (v := ?_) rfl (by kernel_rfl) (by kernel_rfl) (by kernel_rfl) (fun _ _ _ h => h) (Or.inl ⟨by rfl, ?_⟩) (by assumption) ?_
                rotate_left
                · (intro w hSw; (try dsimp only at hSw); go_simp; first | done | with_reducible rfl)
                try simp only [Act.put, List.setIfInBounds_toArray, List.set_cons_zero, List.set_cons_succ]
                refine wpAnyH_take (i := 3) (oi := ⟨some 215, _, _, _, _, _⟩) (v := ?_) rfl (by kernel_rfl) (by kernel_rfl) (by kernel_rfl) (fun _ _ _ h => h) (Or.inl ⟨by rfl, ?_⟩) (by assumption) ?_
                rotate_left
                · (intro w hSw; (try dsimp only at hSw); go_simp; first | done | with_reducible rfl)
                try simp only [Act.put, List.setIfInBounds_toArray, List.set_cons_zero, List.set_cons_succ]
                refine wpAnyH_take (i := 4) (oi := ⟨some 216, _, _, _, _, _⟩) (v := ?_) rfl (by kernel_rfl) (by kernel_rfl) (by kernel_rfl) (fun _ _ _ h => h) (Or.inl ⟨by rfl, ?_⟩) (by assumption) ?_
                rotate_left
                · (intro w hSw; have c9 := HBY.out w hSw; clear hSw; (try dsimp only at hSw); go_simp; first | done | with_reducible rfl)
                try simp only [Act.put, List.setIfInBounds_toArray, List.set_cons_zero, List.set_cons_succ]
                refine wpAnyH_take (i := 5) (oi := ⟨some 217, _, _, _, _, _⟩) (v := ?_) rfl (by kernel_rfl) (by kernel_rfl) (by kernel_rfl) (fun _ _ _ h => h) (Or.inl ⟨by rfl, ?_⟩) (by assumption) ?_
                rotate_left
                · (intro w hSw; (try dsimp only at hSw); go_simp; first | done | with_reducible rfl)
                try simp only [Act.put, List.setIfInBounds_toArray, List.set_cons_zero, List.set_cons_succ]
                refine wpAnyH_ready (rs := [6]) (by kernel_rfl) (by simp) ?_
                refine AllReadyH.cons (o := ⟨some 218, _, _, _, _, _⟩) rfl (fun K hK => ?_) AllReadyH.nil
                go_simp
                refine (Sh.sector_any _ wi hwi).mono ?_
                rintro e w13 ⟨rfl, ho13, hb13⟩
                refine hK.out _ _ ((HP12.out.grown hb13).sq) (fun hHeld => ?_)
                clear hK K
                try simp only [Act.put, List.setIfInBounds_toArray, List.set_cons_zero, List.set_cons_succ]
                obtain ⟨o13, hbl13, hcv13⟩ := Go.Proofs.YtepoepmndckmaaaGreatDoor.Kc.own_conv ho13
                have hq13 := HP12.out.add hb13 (Nat.le_refl _) hbl13
                have HBY8 : Hid (∀ W : World, Go.Proofs.YtepoepmndckmaaaGreatDoor.Kc.SQ [(w12.heap.size, o13), (ad12.block, o12), (q, pairO g.c xr)] W → (convert 40 9 (.slice (some ⟨w12.heap.size, 0, none⟩) 128 128)).run Tryz.prog W = .ok (.string s9) W) := Lib.hid fun W hW => hcv13 W hW.head _ HS9.out
                refine Sh.wpAnyH_mono (S' := Go.Proofs.YtepoepmndckmaaaGreatDoor.Kc.SQ [(w12.heap.size, o13), (ad12.block, o12), (q, pairO g.c xr)]) (fun W hW => hW.tail) _ _ _ _ ?_
                clear hHeld
                have hHeld : (Go.Proofs.YtepoepmndckmaaaGreatDoor.Kc.SQ [(w12.heap.size, o13), (ad12.block, o12), (q, pairO g.c xr)]) _ := hq13.sq
                have HBL := Lib.hid (cq_below hq13 HBW.out.1 HBW.out.2)
                clear HBY HP12 ho13 hb13 hbl13 hcv13 hq13 hS12
                refine wpAnyH_take (i := 7) (oi := ⟨some 219, _, _, _, _, _⟩) (v := ?_) rfl (by kernel_rfl) (by kernel_rfl) (by kernel_rfl) (fun _ _ _ h => h) (Or.inl ⟨by rfl, ?_⟩) (by assumption) ?_
                rotate_left
                · (intro w hSw; have c9 := HBY8.out w hSw; clear hSw; (try dsimp only at hSw); go_simp; first | done | with_reducible rfl)
                try simp only [Act.put, List.setIfInBounds_toArray, List.set_cons_zero, List.set_cons_succ]
                refine wpAnyH_take (i := 8) (oi := ⟨some 220, _, _, _, _, _⟩) (v := ?_) rfl (by kernel_rfl) (by kernel_rfl) (by kernel_rfl) (fun _ _ _ h => h) (Or.inl ⟨by rfl, ?_⟩) (by assumption) ?_
                rotate_left
                · (intro w hSw; (try dsimp only at hSw); go_simp; first | done | with_reducible rfl)
                try simp only [Act.put, List.setIfInBounds_toArray, List.set_cons_zero, List.set_cons_succ]
                refine wpAnyH_take (i := 9) (oi := ⟨some 221, _, _, _, _, _⟩) (v := ?_) rfl (by kernel_rfl) (by kernel_rfl) (by kernel_rfl) (fun _ _ _ h => h) (Or.inl ⟨by rfl, ?_⟩) (by assumption) ?_
                rotate_left
                · (intro w hSw; (try dsimp only at hSw); go_simp; first | done | with_reducible rfl)
                try simp only [Act.put, List.setIfInBounds_toArray, List.set_cons_zero, List.set_cons_succ]
                refine wpAnyH_take (i := 10) (oi := ⟨some 8, _, _, _, _, _⟩) (v := ?_) rfl (by kernel_rfl) (by kernel_rfl) (by kernel_rfl) (fun _ _ _ h => h) (Or.inl ⟨by rfl, ?_⟩) (by assumption) ?_
                rotate_left
                · (intro w hSw; (try dsimp only at hSw); go_simp; first | done | with_reducible rfl)
                try simp only [Act.put, List.setIfInBounds_toArray, List.set_cons_zero, List.set_cons_succ]
                refine wpAnyH_done (by kernel_rfl) ?_ _
                go_wp2
                go_ret
                exact ⟨rfl, HBL.out⟩
set_option maxRecDepth 100000 in
/-- WHAT THE WALK GIVES, FOR EVERY ARGUMENT AND EVERY WORLD THAT HOLDS THE TABLES. -/
theorem contract (H : Type) (enc : TypeId × Value → H) (W : World) (base : Nat) (args : Array Value) (ds gs : List (DataW H)) (before : List MemPlace)
    (hval : ∀ (j : Nat) t v, Tryz.f5.params[j]? = some t → args[j]? = some v → Value.okWide Tryz.prog W .any base t v)
    (hW : DataW.Whole enc Tryz.prog Tryz.f5.params.toList Rows.cachePinnedSpec.vars false W args.toList ds gs before)
    (hsz : (DataW.weightsEach Tryz.prog (Tryz.f5.params.toList ++ (OpenSpec.ofChange Rows.cachePinnedSpec).bare.plain.varTypes Tryz.prog) (ds ++ gs)).all (· ≤ reachBytes) = true) (hL : laidMetH Tryz.prog laidBoth W) :
    Calls Tryz.prog 5 args W fun e W' => ∃ v, e = .returned v ∧ Rows.cachePinnedSpec.post enc Tryz.prog Tryz.f5 false true false false W args v W' := by
  have hW' := hW
  obtain ⟨p, q, hA0, hV, rfl, hfz, hnd⟩ := hW
  have hA : DataW.TrodAll enc Tryz.prog W 0 (fun _ => true) true Tryz.f5.params.toList args.toList ds p := hA0
  have hsz2 : (DataW.weightsEach Tryz.prog (Tryz.f5.params.toList ++ []) (ds ++ gs)).all (· ≤ reachBytes) = true := hsz
  rw [Tryz.params5] at hA hval hsz2
  obtain ⟨v0, vs0, d0, ds0, p0, q0, hargs, rfl, rfl, h0, r0⟩ := trodAll_cons hA
  obtain ⟨v1, vs1, d1, ds1, p1, q1, rfl, rfl, rfl, h1, r1⟩ := trodAll_cons r0
  obtain ⟨v2, vs2, d2, ds2, p2, q2, rfl, rfl, rfl, h2, r2⟩ := trodAll_cons r1
  obtain ⟨v3, vs3, d3, ds3, p3, q3, rfl, rfl, rfl, h3, r3⟩ := trodAll_cons r2
  obtain ⟨rfl, rfl, rfl⟩ := trodAll_nil r3
  obtain rfl : args = #[v0, v1, v2, v3] := by cases args; simp_all
  obtain ⟨rfl, rfl⟩ := trodVars_none hV
  obtain ⟨a0, rfl, rfl, rfl, w0⟩ := open_int Tryz.underlying3 (hval 0 3 v0 rfl rfl) h0
  have bd0 := bounds_i64 w0
  obtain ⟨a1, rfl, rfl, rfl, w1⟩ := open_int Tryz.underlying3 (hval 1 3 v1 rfl rfl) h1
  have bd1 := bounds_i64 w1
  obtain ⟨a2, rfl, rfl, rfl, w2⟩ := open_int Tryz.underlying5 (hval 2 5 v2 rfl rfl) h2
  have bd2 := bounds_u8 w2
  obtain ⟨m2, hm2⟩ : ∃ m : Nat, a2 = (m : Int) := ⟨a2.toNat, by omega⟩
  obtain ⟨A3, n3, c3, rfl⟩ := okWide_slice Tryz.underlying22 (hval 3 22 v3 rfl rfl)
  have k3 := h3
  have lt3 : ∀ x ∈ p3, x.block < W.heap.size := by obtain ⟨m, hm⟩ := k3; exact DataW.trod_lt m _ _ _ hm
  obtain ⟨f3, hl3⟩ : ∃ f, Kc.Ops10 W A3 n3 f := by obtain ⟨fuel, hf⟩ := h3; exact Kc.ops10_in (by simpa [Value.cells] using hf)
  have hT := tabs_of_laid hL
  subst hm2
  refine (walk a0 bd0.1 bd0.2 a1 bd1.1 bd1.2 m2 (by omega) A3 n3 c3 f3 hl3 hT).mono fun e W' ⟨he, bel⟩ => ?_
  subst he
  exact ⟨_, rfl, _, _, _, [], _, [], hW', trodAll_mk1 (shut_bool Tryz.underlying4 _), (trodAll_cons_mk (shut_int Tryz.underlying3 w0) (trodAll_cons_mk (shut_int Tryz.underlying3 w1) (trodAll_cons_mk (shut_int Tryz.underlying5 w2) (trodAll_cons_mk (Below.trod laidOut (by kernel_rfl) (of_decide_eq_true (by kernel_rfl)) k3 bel lt3) trodAll_mk0)))), rfl, bel.frame _, fun h => by cases h⟩

theorem laid_met (os : Os) : laidMetH Tryz.prog laidBoth ((laidWorld os).forCall (fun _ _ => 0) ⟨#[], #[.int .i64 0, .int .i64 0, .int .u8 0, .slice none 0 0], []⟩).memory :=
  laidMetH_of_parts3 (fuel := 8) (laidMet_of_run' 8 (by kernel_rfl) (by kernel_rfl)) (by kernel_rfl) (by kernel_rfl)
theorem reads (os : Os) {H : Type} (enc : TypeId × Value → H) : ∃ places, DataW.whole enc Tryz.prog ((laidWorld os).forCall (fun _ _ => 0) ⟨#[], #[.int .i64 0, .int .i64 0, .int .u8 0, .slice none 0 0], []⟩).memory Tryz.f5.params.toList Rows.cachePinnedSpec.vars false (#[.int .i64 0, .int .i64 0, .int .u8 0, .slice none 0 0] : Array Value).toList 8 = some ([.lit (.int .i64 0), .lit (.int .i64 0), .lit (.int .u8 0), .nil], [], places) :=
  ⟨[], by kernel_rfl⟩
set_option maxRecDepth 100000 in
theorem lifted (os : Os) (started : os.Started) (H : Type) (enc : TypeId × Value → H) (F : Stop.Interp) :
    ReturnsInHanded {} Tryz.checked os 5 .any ((OpenSpec.ofChange Rows.cachePinnedSpec).preRow enc Tryz.prog Tryz.f5 Rows.cachePinnedRow.domain false Rows.cachePinnedRow.laid) (((OpenSpec.ofChange Rows.cachePinnedSpec).at F).post enc Tryz.prog Tryz.f5 false true false false) := by
  obtain ⟨places, hx⟩ := reads os enc
  refine returnsInHanded_of_row (C := Tryz.checked) (s := (OpenSpec.ofChange Rows.cachePinnedSpec)) own started (by kernel_rfl) Tryz.func5
    (witness_row_at (enc := enc) (C := Tryz.checked) false (laidWorld os) #[.int .i64 0, .int .i64 0, .int .u8 0, .slice none 0 0] rfl (by kernel_rfl) (by kernel_rfl) (by kernel_rfl)
      (OpenSpec.preRow_of_cond 8 hx (by kernel_rfl) (fun k hk => by cases hk) (by kernel_rfl) (laid_met os))) ?_
  intro W base args ds gs before hval hW _ hcond hsz hL _ _
  exact contract H enc W base args ds gs before hval hW hsz hL
theorem said : Rows.CachePinnedSaid :=
  OpenClaim.holds_of_cond 5 Tryz.f5 rfl rfl rfl rfl rfl rfl rfl ⟨rfl, rfl, rfl, rfl, rfl⟩ rfl rfl rfl rfl rfl (by kernel_rfl) Tryz.func5 (by kernel_rfl)
    (of_decide_eq_true (by kernel_rfl)) (by unfold Func.isWrapper; first | (rw [if_pos (by decide +kernel)]; kernel_rfl) | (rw [if_neg (by decide +kernel)]; exact ⟨rfl, rfl⟩))
    (fun os started H enc _ F => by rw [OpenClaim.pre_eq_preRow]; exact lifted os started H enc F)
theorem plain (f : FuncId) (fn : Func) (hf : Tryz.pinned.checked.prog.funcNamed "ashlar/ashlarlaw10.CachePinned" = some f) (hfn : Tryz.pinned.checked.prog.funcs[f]? = some fn) :
    false = Tryz.pinned.checked.prog.looks [] ∧ ∀ (j : Nat) t, fn.params[j]? = some t → Tryz.pinned.checked.prog.wantsStandIn t = false := by
  obtain rfl : f = 5 := Option.some.inj ((show Tryz.prog.funcNamed "ashlar/ashlarlaw10.CachePinned" = some 5 by kernel_rfl).symm.trans hf) |>.symm
  obtain rfl : fn = Tryz.f5 := (Option.some.inj (Tryz.func5.symm.trans hfn)).symm
  refine ⟨by kernel_rfl, fun j t ht => ?_⟩
  rw [Tryz.params5] at ht
  have hm : t ∈ [3, 3, 5, 22] := by simpa using Array.mem_of_getElem? ht
  have hall : ([3, 3, 5, 22].all fun u => !Tryz.prog.wantsStandIn u) = true := by kernel_rfl
  exact (show Tryz.prog.wantsStandIn t = false by simpa using List.all_eq_true.1 hall t hm)

/-- ████ THE CARD ████ -/
theorem card : Rows.CachePinnedCardSaid :=
  Claim7.holds_tied_plain_at .later [] _ _ _ _ said (fun _ h => by cases h) (by kernel_rfl) (fun _ h => by cases h) cachePinned_row_tie rfl ⟨rfl, rfl⟩ (by kernel_rfl) rfl plain (by kernel_rfl)
end Go.Proofs.YtepoepmndckmaaaGreatDoor.U.cachePinned
