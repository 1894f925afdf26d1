/-
  CacheReads (P10.3): each Get tells what was Put last, noughts at first; behind a Flush of a cache in which nothing is pinned the volume has all, surely.
  Conditions: every argument, every world that holds the program's tables.
-/
import Derived.Test.YtepoepmndckmaaaGreatDoorY45
import Derived.Test.YtepoepmndckmaaaGreatDoorY44
import Derived.Test.YtepoepmndckmaaaGreatDoorY43
import Derived.Deep.DeepCutAuto
namespace Go.Proofs.YtepoepmndckmaaaGreatDoor.U.cacheReads
open Go.ChangeShapes Go.WideShapes Go.ChangeAt Go.RowKit Go.Maps
open Go.Proofs.YtepoepmndckmaaaGreatDoor.Kc (En Cg Cav CQ OffI No)
open Go.Proofs.YtepoepmndckmaaaGreatDoor.Sh (KeepIs Old keep_in)

/-- What stands at the head of each round. -/
def Rnd (J : Vk) (hG : Giv J ar10) (hN : ar10.St * (ar10.M - 1) ≤ 1073741824) (c n k gh q xr : Nat) (w : World) : Prop :=
  ∃ (l : List En) (x : Rs) (hv : Nat → Sh.Bs), CQ (Hs J ar10 hG hN) w c n l x k [(gh, Go.Proofs.YtepoepmndckmaaaGreatDoor.Kc.rowH hv), (q, pairO c xr)] ∧ OffI (Hs J ar10 hG hN) (fun _ => false) (fun x : Rs => contR ar10 x) No hv l x
/-- What stands behind the opening. -/
def Bck (J2 : Vk) (A2 : Ar) (w0 : World) (gh k : Nat) (hv : Nat → Sh.Bs) (w : World) : Prop :=
  ∃ x : Rs, IsR J2 A2 w x k ∧ (∀ j, j < 12 → contR A2 x j = hv j) ∧ w.heap[gh]? = some (Go.Proofs.YtepoepmndckmaaaGreatDoor.Kc.rowH hv) ∧ ¬ AllV J2 x.F gh ∧ J2.B ≤ gh ∧ J2.B = w0.heap.size ∧ J2.W = w0
set_option maxRecDepth 100000 in
set_option maxHeartbeats 8000000 in
theorem walk {w : World} (mo : Int) (hm1 : -9223372036854775808 ≤ mo) (hm2 : mo ≤ 9223372036854775807) (A : Option Addr) (m c : Nat) (f : Nat → Go.Proofs.YtepoepmndckmaaaGreatDoor.Kc.Op10) (hl : Go.Proofs.YtepoepmndckmaaaGreatDoor.Kc.Ops10 w A m f) (B0 : Option Addr) (bn bc : Nat) (ks : List (List Int)) (hbn : bn ≤ 9223372036854775807) (hks : KeepIs w (Old w) B0 bn ks) (hA : All w) :
    Calls Tryz.prog 4 #[.int .i64 mo, .slice A m c, .slice B0 bn bc] w fun e w' => e = .returned (.bool true) ∧ Below w.heap.size w w' := by
  obtain ⟨n, h1, h6, hn⟩ := Go.Proofs.YtepoepmndckmaaaGreatDoor.Kc.most_of mo 6 (by decide) (by decide)
  have hn6 : n ≤ 6 := by omega
  have HBE := Lib.hid (begin10 ⟨hA.tabs, hA.fld, hA.wid⟩ n h1 (by omega))
  have HA := Lib.hid hA
  have HF := Lib.hid hl
  have HN := Lib.hid hn
  have HKS := Lib.hid (And.intro hbn hks)
  have hmm : m ≤ 9223372036854775807 := hl.1
  have hmkS : ∀ W : World, (Instr.makeSlice 32 (.int .i64 12) (.int .i64 12)).run Tryz.prog W = .ok (.slice (some ⟨W.heap.size, 0, none⟩) 12 12) (W.alloc (.cells #[.string ⟨#[]⟩, .string ⟨#[]⟩, .string ⟨#[]⟩, .string ⟨#[]⟩, .string ⟨#[]⟩, .string ⟨#[]⟩, .string ⟨#[]⟩, .string ⟨#[]⟩, .string ⟨#[]⟩, .string ⟨#[]⟩, .string ⟨#[]⟩, .string ⟨#[]⟩] 9)) := fun _ => by kernel_rfl
  clear hA hl hn hbn hks
  go_enter Tryz.func4, Tryz.ntmps4
  go_upto_if 26 with fail
  go_cut [7] (fun s7 wx => s7 = .int .i64 (n : Int) ∧ wx = w)
  case first =>
    rcases HN.out with ⟨e1, e2⟩ | ⟨e1, e2⟩
    · subst e2
      have q : decide (mo < 0) = true := decide_eq_true e1
      go_wp2_with fail
      all_goals (go_meet; exact ⟨rfl, rfl⟩)
    · have q : decide (mo < 0) = false := decide_eq_false (by omega)
      rw [e2]
      go_wp2_with fail
      all_goals (go_meet; exact ⟨rfl, rfl⟩)
  case rest =>
    obtain ⟨rfl, hcw⟩ := hcut
    have hcw := hcw.symm
    subst hcw
    clear HN
    go_wp2_with fail
    refine HBE.out.mono ?_
    rintro e w2 ⟨J, x0, _, q, xr, g, hG, hN, rfl, hcont, hB, hW, hbeg⟩
    have HP0 := Lib.hid (cq_toS hbeg.cq)
    have HBW := Lib.hid (And.intro hB hW)
    have HL := Lib.hid (lives10 (show All10 w2 from ⟨(HA.out.over (cq_below hbeg.cq hB hW)).tabs, (HA.out.over (cq_below hbeg.cq hB hW)).fld, (HA.out.over (cq_below hbeg.cq hB hW)).wid⟩))
    have HCO := Lib.hid hcont
    have hV : Go.Proofs.YtepoepmndckmaaaGreatDoor.Kc.OffV (Hs J ar10 hG hN) (fun _ => false) (fun x : Rs => contR ar10 x) := hs_off
    have hVn : (Hs J ar10 hG hN).n = 12 := rfl
    clear hbeg hcont hB hW HBE
    go_wp2_with fail
    refine HL.out.mono ?_
    rintro e w3 ⟨rfl, hb3⟩
    have hq4 := HP0.out.grown hb3
    clear hb3 HL HP0
    obtain ⟨s0, hs0⟩ : ∃ s0, Sh.strL Sh.noughts = s0 := ⟨_, rfl⟩
    have HS0 := Lib.hid hs0
    have hrel0 : Hid (CQ (Hs J ar10 hG hN) (w3.alloc (.cells #[.string ⟨#[]⟩, .string ⟨#[]⟩, .string ⟨#[]⟩, .string ⟨#[]⟩, .string ⟨#[]⟩, .string ⟨#[]⟩, .string ⟨#[]⟩, .string ⟨#[]⟩, .string ⟨#[]⟩, .string ⟨#[]⟩, .string ⟨#[]⟩, .string ⟨#[]⟩] 9)) g.c n [] x0 390000 [(w3.heap.size, Go.Proofs.YtepoepmndckmaaaGreatDoor.Kc.rowF s0 0), (q, pairO g.c xr)]) := Lib.hid (hq4.add ((Below.refl _ _).alloc (Nat.le_refl _) _) (Nat.le_refl _) (by rw [Go.Proofs.YtepoepmndckmaaaGreatDoor.Kc.rowF_zero]; exact heap_alloc_new w3 _))
    have HNE : Hid (∀ z ∈ [(q, pairO g.c xr)], z.1 ≠ w3.heap.size) := Lib.hid fun z hz e => by
      have := lt_of_block (hq4.of hz)
      omega
    clear hq4 hs0
    go_wp2
    generalize w3.heap.size = gh at *
    go_loopw [12] (fun s wr => ∃ t : Nat, t ≤ 12 ∧ s = .int .i64 t ∧ Hid (CQ (Hs J ar10 hG hN) wr g.c n [] x0 390000 [(gh, Go.Proofs.YtepoepmndckmaaaGreatDoor.Kc.rowF s0 t), (q, pairO g.c xr)])) (fun s _ => 12 - (intOf s).toNat)
    case atStart => exact ⟨0, Nat.zero_le _, rfl, hrel0⟩
    case round =>
      obtain ⟨t, ht, rfl, hrel⟩ := hrel
      clear hrel0
      have hcq := hrel.out
      clear hrel
      by_cases hlt : t < 12
      · have HCQ := Lib.hid hcq
        clear hcq
        go_wp2_with (at_make; refine wpList_make128 rfl _ _ rfl rfl rfl ?_)
        intro wm hom hgm
        have hqm := HCQ.out.grown hgm
        have tc := conv_own' hom HS0.out wm (Below.refl _ _)
        have gc := Go.Proofs.YtepoepmndckmaaaGreatDoor.Kc.rowF_cell hqm.at_ hlt
        have gf := Go.Proofs.YtepoepmndckmaaaGreatDoor.Kc.rowS_free (k := t) hqm.at_
        have HQ2 := Lib.hid (hqm.poke (o' := Go.Proofs.YtepoepmndckmaaaGreatDoor.Kc.rowF s0 (t + 1)) HNE.out (Go.Proofs.YtepoepmndckmaaaGreatDoor.Kc.set_only (k := t) (.string s0)) (Go.Proofs.YtepoepmndckmaaaGreatDoor.Kc.rowF_set hqm.at_ hlt))
        clear hqm hom hgm HCQ
        go_wp2
        go_roundw
        case rel => exact ⟨t + 1, by omega, by go_num, HQ2⟩
        case measure => simp [intOf]; omega
      · obtain rfl : t = 12 := by omega
        rw [Go.Proofs.YtepoepmndckmaaaGreatDoor.Kc.rowF_end HS0.out] at hcq
        have hrel0 : Hid (Rnd J hG hN g.c n (390000 - 20 * 0) gh q xr wr) := Lib.hid ⟨_, _, _, hcq, ⟨(fun _ h => by cases h), (fun _ h => by cases h), (fun _ h => by cases h), List.nodup_nil, (fun _ _ h => by cases h), fun _ j _ _ _ => HCO.out j⟩⟩
        clear hcq HCO HS0
        go_wp2
        go_loopw [13] (fun s wx => ∃ j : Nat, j ≤ 300 ∧ s = .int .i64 j ∧ Hid (Rnd J hG hN g.c n (390000 - 20 * j) gh q xr wx)) (fun s _ => 300 - (intOf s).toNat)
        case atStart => exact ⟨0, Nat.zero_le _, rfl, hrel0⟩
        case round =>
          obtain ⟨j, hj, rfl, hrel⟩ := hrel
          clear hrel0
          obtain ⟨l, x, hv, hcq, hof⟩ := hrel.out
          have hqne : q ≠ gh := HNE.out _ (List.mem_singleton.2 rfl)
          by_cases hlt2 : j < m ∧ j < 300
          · obtain ⟨hlt, hlt3⟩ := hlt2
            have q3 : (j : Int) < (m : Int) := by omega
            have q4 : (j : Int) < 300 := by omega
            obtain ⟨b0, off0, rfl, hbl, hop⟩ := HF.out.2 (by omega)
            have hop := hop j hlt
            have HBL := Lib.hid (cqs_below hcq HBW.out.1 HBW.out.2)
            have d0 : wr.cell? ⟨b0, off0 + j * 3, none⟩ = some (.int .i64 (f j).kind) := (HBL.out.cell (p := ⟨b0, off0 + j * 3, none⟩) hbl).trans hop.c0
            have HD0 : Hid (∀ W : World, Below w.heap.size w W → W.cell? ⟨b0, off0 + j * 3, none⟩ = some (.int .i64 (f j).kind)) := Lib.hid fun W hW => (hW.cell (p := ⟨b0, off0 + j * 3, none⟩) hbl).trans hop.c0
            have d1 : wr.cell? ⟨b0, off0 + j * 3 + 1, none⟩ = some (.int .i64 (f j).n) := (HBL.out.cell (p := ⟨b0, off0 + j * 3 + 1, none⟩) hbl).trans hop.c1
            have HDX : Hid (∀ W : World, Below w.heap.size w W → W.cell? ⟨b0, off0 + j * 3 + 2, none⟩ = some (.int .u8 ((f j).x : Int))) := Lib.hid fun W hW => (hW.cell (p := ⟨b0, off0 + j * 3 + 2, none⟩) hbl).trans hop.c2
            have hxx := hop.b2
            generalize (f j).kind = kd at *
            generalize (f j).n = nn at *
            generalize (f j).x = xx at *
            have HRN := Lib.hid (show Rnd J hG hN g.c n (390000 - 20 * (j + 1)) gh q xr wr from ⟨l, x, hv, hcq.less (by omega), hof⟩)
            have HC0 := Lib.hid (And.intro hcq hof)
            clear hcq hof hrel hop
            have hr : nn < 0 ∨ (0 ≤ nn ∧ 11 < nn) ∨ ∃ mm : Nat, nn = (mm : Int) ∧ mm < 12 := by
              rcases Int.lt_or_le nn 0 with h | h
              · exact .inl h
              · rcases Int.lt_or_le 11 nn with h2 | h2
                · exact .inr (.inl ⟨h, h2⟩)
                · exact .inr (.inr ⟨nn.toNat, by omega, by omega⟩)
            rcases hr with hr | ⟨hr1, hr2⟩ | ⟨mm, rfl, hmm2⟩
            · go_wp2
              go_roundw
              case rel => exact ⟨j + 1, by omega, by go_num, HRN⟩
              case measure => simp [intOf]; omega
            · have hr3 : ¬ nn < 0 := by omega
              go_wp2
              go_roundw
              case rel => exact ⟨j + 1, by omega, by go_num, HRN⟩
              case measure => simp [intOf]; omega
            · have hr3 : ¬ (mm : Int) < 0 := by omega
              have hr4 : (mm : Int) ≤ 11 := by omega
              have hr5 : (mm : Int) < 12 := by omega
              obtain ⟨hcq, hof⟩ := HC0.out
              have c0 := pair_cell hcq.at2
              by_cases k1 : kd = 1
              · subst k1
                have HGE := Lib.hid ((hcq.less (k' := 390000 - 20 * (j + 1) + 2) (by omega)).get (mm : Int))
                have HOFI := Lib.hid hof
                clear hcq hof HC0 HRN HDX HD0 hxx
                go_wp2_with fail
                refine HGE.out.mono ?_
                rintro r w5 ⟨y, A5, len5, cap5, X5, l5, x5, rfl, hget, hqx, hgot⟩
                obtain ⟨rfl, rfl, hof5⟩ | ⟨_, hoff5, _⟩ := HOFI.out.get hV h1 (by rw [hVn]; exact hmm2) hget
                rotate_left
                · cases hoff5
                obtain ⟨_, rfl, ad5, o5, rfl, hby5, _, hq5⟩ | ⟨h0, _⟩ := hgot
                rotate_left
                · exact absurd rfl h0
                have hcv5 := Go.Proofs.YtepoepmndckmaaaGreatDoor.Kc.got_conv hby5 rfl hq5.at_
                obtain ⟨sm, hsm⟩ : ∃ sm, Sh.strL (hv mm) = sm := ⟨_, rfl⟩
                have HSM := Lib.hid hsm
                have HBY : Hid (∀ W : World, Go.Proofs.YtepoepmndckmaaaGreatDoor.Kc.SQ [(ad5.block, o5), (gh, Go.Proofs.YtepoepmndckmaaaGreatDoor.Kc.rowH hv), (q, pairO g.c xr)] W → (convert 40 9 (.slice (some ad5) 128 cap5)).run Tryz.prog W = .ok (.string sm) W) := Lib.hid fun W hW => hcv5 W hW.head cap5 _ HSM.out
                have HLD : Hid (∀ W : World, Go.Proofs.YtepoepmndckmaaaGreatDoor.Kc.SQ [(ad5.block, o5), (gh, Go.Proofs.YtepoepmndckmaaaGreatDoor.Kc.rowH hv), (q, pairO g.c xr)] W → W.cell? ⟨gh, mm, none⟩ = some (.string sm)) := Lib.hid fun W hW => by rw [← HSM.out]; exact Go.Proofs.YtepoepmndckmaaaGreatDoor.Kc.rowH_cell hW.tail.head hmm2
                have hS5 := hq5.sq
                have HM5 : Hid (Rnd J hG hN g.c n (390000 - 20 * (j + 1)) gh q xr w5.drew) := Lib.hid ⟨l5, x5, hv, hqx.grown ((Below.refl _ w5).drew), hof5⟩
                clear hget hqx hby5 hq5 hcv5 hsm hof5 HGE HOFI c0
                go_wp2_with fail
                refine wp_region_held_drew (S := Go.Proofs.YtepoepmndckmaaaGreatDoor.Kc.SQ [(ad5.block, o5), (gh, Go.Proofs.YtepoepmndckmaaaGreatDoor.Kc.rowH hv), (q, pairO g.c xr)]) (by kernel_rfl) hS5 (fun hHeld => ?_)
                refine wpAnyH_take (i := 0) (oi := ⟨some 116, _, _, _, _, _⟩) (v := ?_) rfl (by kernel_rfl) (by kernel_rfl) (by kernel_rfl) (fun _ _ _ h => h) (Or.inl ⟨by rfl, ?_⟩) (by assumption) ?_
                rotate_left
                · (intro w hSw; (try dsimp only at hSw); go_simp; first | done | with_reducible rfl)
                try simp only [Act.put, List.setIfInBounds_toArray, List.set_cons_zero, List.set_cons_succ]
                refine wpAnyH_take (i := 1) (oi := ⟨some 117, _, _, _, _, _⟩) (v := ?_) rfl (by kernel_rfl) (by kernel_rfl) (by kernel_rfl) (fun _ _ _ h => h) (Or.inl ⟨by rfl, ?_⟩) (by assumption) ?_
                rotate_left
                · (intro w hSw; (try dsimp only at hSw); go_simp; first | done | with_reducible rfl)
                try simp only [Act.put, List.setIfInBounds_toArray, List.set_cons_zero, List.set_cons_succ]
                refine wpAnyH_take (i := 2) (oi := ⟨some 118, _, _, _, _, _⟩) (v := ?_) rfl (by kernel_rfl) (by kernel_rfl) (by kernel_rfl) (fun _ _ _ h => h) (Or.inl ⟨by rfl, ?_⟩) (by assumption) ?_
                rotate_left
                · (intro w hSw; (try dsimp only at hSw); go_simp; first | done | with_reducible rfl)
                try simp only [Act.put, List.setIfInBounds_toArray, List.set_cons_zero, List.set_cons_succ]
                refine wpAnyH_take (i := 3) (oi := ⟨some 119, _, _, _, _, _⟩) (v := ?_) rfl (by kernel_rfl) (by kernel_rfl) (by kernel_rfl) (fun _ _ _ h => h) (Or.inl ⟨by rfl, ?_⟩) (by assumption) ?_
                rotate_left
                · (intro w hSw; (try dsimp only at hSw); go_simp; first | done | with_reducible rfl)
                try simp only [Act.put, List.setIfInBounds_toArray, List.set_cons_zero, List.set_cons_succ]
                refine wpAnyH_take (i := 4) (oi := ⟨some 120, _, _, _, _, _⟩) (v := ?_) rfl (by kernel_rfl) (by kernel_rfl) (by kernel_rfl) (fun _ _ _ h => h) (Or.inl ⟨by rfl, ?_⟩) (by assumption) ?_
                rotate_left
                · (intro w hSw; have c9 := HBY.out w hSw; clear hSw; (try dsimp only at hSw); go_simp; first | done | with_reducible rfl)
                try simp only [Act.put, List.setIfInBounds_toArray, List.set_cons_zero, List.set_cons_succ]
                refine wpAnyH_take (i := 5) (oi := ⟨some 121, _, _, _, _, _⟩) (v := ?_) rfl (by kernel_rfl) (by kernel_rfl) (by kernel_rfl) (fun _ _ _ h => h) (Or.inl ⟨by rfl, ?_⟩) (by assumption) ?_
                rotate_left
                · (intro w hSw; (try dsimp only at hSw); go_simp; first | done | with_reducible rfl)
                try simp only [Act.put, List.setIfInBounds_toArray, List.set_cons_zero, List.set_cons_succ]
                refine wpAnyH_take (i := 6) (oi := ⟨some 122, _, _, _, _, _⟩) (v := ?_) rfl (by kernel_rfl) (by kernel_rfl) (by kernel_rfl) (fun _ _ _ h => h) (Or.inl ⟨by rfl, ?_⟩) (by assumption) ?_
                rotate_left
                · (intro w hSw; (try dsimp only at hSw); go_simp; first | done | with_reducible rfl)
                try simp only [Act.put, List.setIfInBounds_toArray, List.set_cons_zero, List.set_cons_succ]
                refine wpAnyH_take (i := 7) (oi := ⟨some 123, _, _, _, _, _⟩) (v := ?_) rfl (by kernel_rfl) (by kernel_rfl) (by kernel_rfl) (fun _ _ _ h => h) (Or.inl ⟨by rfl, ?_⟩) (by assumption) ?_
                rotate_left
                · (intro w hSw; (try dsimp only at hSw); go_simp; first | done | with_reducible rfl)
                try simp only [Act.put, List.setIfInBounds_toArray, List.set_cons_zero, List.set_cons_succ]
                refine wpAnyH_take (i := 8) (oi := ⟨some 124, _, _, _, _, _⟩) (v := ?_) rfl (by kernel_rfl) (by kernel_rfl) (by kernel_rfl) (fun _ _ _ h => h) (Or.inl ⟨by rfl, ?_⟩) (by assumption) ?_
                rotate_left
                · (intro w hSw; have c9 := HLD.out w hSw; clear hSw; (try dsimp only at hSw); go_simp; first | done | with_reducible rfl)
                try simp only [Act.put, List.setIfInBounds_toArray, List.set_cons_zero, List.set_cons_succ]
                refine wpAnyH_take (i := 9) (oi := ⟨some 125, _, _, _, _, _⟩) (v := ?_) rfl (by kernel_rfl) (by kernel_rfl) (by kernel_rfl) (fun _ _ _ h => h) (Or.inl ⟨by rfl, ?_⟩) (by assumption) ?_
                rotate_left
                · (intro w hSw; (try dsimp only at hSw); go_simp; first | done | with_reducible rfl)
                try simp only [Act.put, List.setIfInBounds_toArray, List.set_cons_zero, List.set_cons_succ]
                refine wpAnyH_take (i := 10) (oi := ⟨some 126, _, _, _, _, _⟩) (v := ?_) rfl (by kernel_rfl) (by kernel_rfl) (by kernel_rfl) (fun _ _ _ h => h) (Or.inl ⟨by rfl, ?_⟩) (by assumption) ?_
                rotate_left
                · (intro w hSw; (try dsimp only at hSw); go_simp; first | done | with_reducible rfl)
                try simp only [Act.put, List.setIfInBounds_toArray, List.set_cons_zero, List.set_cons_succ]
                refine wpAnyH_done (by kernel_rfl) ?_ _
                clear hHeld hS5 HBY HLD
                go_wp2
                go_roundw
                case rel => first | exact ⟨j + 1, by omega, by go_num, HM5⟩ | ((repeat apply Exists.intro); exact ⟨⟨j + 1, by omega, by go_num, HM5⟩, rfl⟩)
                case measure => simp [intOf]; omega
              · have e1 : (kd == 1) = false := by rw [beq_eq_false_iff_ne]; exact k1
                by_cases k2 : kd = 2
                · subst k2
                  have HPW : Hid (∀ W : World, Go.Proofs.YtepoepmndckmaaaGreatDoor.Kc.SQ [(gh, Go.Proofs.YtepoepmndckmaaaGreatDoor.Kc.rowH hv), (q, pairO g.c xr)] W ∧ Below w.heap.size w W → W.cell? ⟨q, 0, none⟩ = some (.pointer (some ⟨g.c, 0, none⟩))) := Lib.hid fun W hW => pair_cell hW.1.tail.head
                  have HD2 : Hid (∀ W : World, Go.Proofs.YtepoepmndckmaaaGreatDoor.Kc.SQ [(gh, Go.Proofs.YtepoepmndckmaaaGreatDoor.Kc.rowH hv), (q, pairO g.c xr)] W ∧ Below w.heap.size w W → W.cell? ⟨b0, off0 + j * 3 + 2, none⟩ = some (.int .u8 (xx : Int))) := Lib.hid fun W hW => HDX.out W hW.2
                  have HGP := Lib.hid ((hcq.less (k' := 390000 - 20 * (j + 1) + 1) (by omega)).grown ((Below.refl _ wr).drew))
                  have hS2 : Go.Proofs.YtepoepmndckmaaaGreatDoor.Kc.SQ [(gh, Go.Proofs.YtepoepmndckmaaaGreatDoor.Kc.rowH hv), (q, pairO g.c xr)] wr.drew ∧ Below w.heap.size w wr.drew := ⟨hcq.sq, HBL.out.drew⟩
                  have HOFI := Lib.hid hof
                  clear hcq hof HC0 HRN k1 e1
                  go_wp2_with fail
                  refine wp_region_held_drew (S := fun W : World => Go.Proofs.YtepoepmndckmaaaGreatDoor.Kc.SQ [(gh, Go.Proofs.YtepoepmndckmaaaGreatDoor.Kc.rowH hv), (q, pairO g.c xr)] W ∧ Below w.heap.size w W) (by kernel_rfl) hS2 (fun hHeld => ?_)
                  refine wpAnyH_take (i := 0) (oi := ⟨some 78, _, _, _, _, _⟩) (v := ?_) rfl (by kernel_rfl) (by kernel_rfl) (by kernel_rfl) (fun _ _ _ h => h) (Or.inl ⟨by rfl, ?_⟩) (by assumption) ?_
                  rotate_left
                  · (intro w hSw; (try dsimp only at hSw); go_simp; first | done | with_reducible rfl)
                  try simp only [Act.put, List.setIfInBounds_toArray, List.set_cons_zero, List.set_cons_succ]
                  refine wpAnyH_take (i := 1) (oi := ⟨some 79, _, _, _, _, _⟩) (v := ?_) rfl (by kernel_rfl) (by kernel_rfl) (by kernel_rfl) (fun _ _ _ h => h) (Or.inl ⟨by rfl, ?_⟩) (by assumption) ?_
                  rotate_left
                  · (intro w hSw; (try dsimp only at hSw); go_simp; first | done | with_reducible rfl)
                  try simp only [Act.put, List.setIfInBounds_toArray, List.set_cons_zero, List.set_cons_succ]
                  refine wpAnyH_take (i := 2) (oi := ⟨some 80, _, _, _, _, _⟩) (v := ?_) rfl (by kernel_rfl) (by kernel_rfl) (by kernel_rfl) (fun _ _ _ h => h) (Or.inl ⟨by rfl, ?_⟩) (by assumption) ?_
                  rotate_left
                  · (intro w hSw; (try dsimp only at hSw); go_simp; first | done | with_reducible rfl)
                  try simp only [Act.put, List.setIfInBounds_toArray, List.set_cons_zero, List.set_cons_succ]
                  refine wpAnyH_take (i := 3) (oi := ⟨some 81, _, _, _, _, _⟩) (v := ?_) rfl (by kernel_rfl) (by kernel_rfl) (by kernel_rfl) (fun _ _ _ h => h) (Or.inl ⟨by rfl, ?_⟩) (by assumption) ?_
                  rotate_left
                  · (intro w hSw; have c9 := HPW.out w hSw; clear hSw; (try dsimp only at hSw); go_simp; first | done | with_reducible rfl)
                  try simp only [Act.put, List.setIfInBounds_toArray, List.set_cons_zero, List.set_cons_succ]
                  refine wpAnyH_take (i := 4) (oi := ⟨some 82, _, _, _, _, _⟩) (v := ?_) rfl (by kernel_rfl) (by kernel_rfl) (by kernel_rfl) (fun _ _ _ h => h) (Or.inl ⟨by rfl, ?_⟩) (by assumption) ?_
                  rotate_left
                  · (intro w hSw; (try dsimp only at hSw); go_simp; first | done | with_reducible rfl)
                  try simp only [Act.put, List.setIfInBounds_toArray, List.set_cons_zero, List.set_cons_succ]
                  refine wpAnyH_take (i := 5) (oi := ⟨some 83, _, _, _, _, _⟩) (v := ?_) rfl (by kernel_rfl) (by kernel_rfl) (by kernel_rfl) (fun _ _ _ h => h) (Or.inl ⟨by rfl, ?_⟩) (by assumption) ?_
                  rotate_left
                  · (intro w hSw; (try dsimp only at hSw); go_simp; first | done | with_reducible rfl)
                  try simp only [Act.put, List.setIfInBounds_toArray, List.set_cons_zero, List.set_cons_succ]
                  refine wpAnyH_take (i := 6) (oi := ⟨some 84, _, _, _, _, _⟩) (v := ?_) rfl (by kernel_rfl) (by kernel_rfl) (by kernel_rfl) (fun _ _ _ h => h) (Or.inl ⟨by rfl, ?_⟩) (by assumption) ?_
                  rotate_left
                  · (intro w hSw; (try dsimp only at hSw); go_simp; first | done | with_reducible rfl)
                  try simp only [Act.put, List.setIfInBounds_toArray, List.set_cons_zero, List.set_cons_succ]
                  refine wpAnyH_take (i := 7) (oi := ⟨some 85, _, _, _, _, _⟩) (v := ?_) rfl (by kernel_rfl) (by kernel_rfl) (by kernel_rfl) (fun _ _ _ h => h) (Or.inl ⟨by rfl, ?_⟩) (by assumption) ?_
                  rotate_left
                  · (intro w hSw; (try dsimp only at hSw); go_simp; first | done | with_reducible rfl)
                  try simp only [Act.put, List.setIfInBounds_toArray, List.set_cons_zero, List.set_cons_succ]
                  refine wpAnyH_take (i := 8) (oi := ⟨some 86, _, _, _, _, _⟩) (v := ?_) rfl (by kernel_rfl) (by kernel_rfl) (by kernel_rfl) (fun _ _ _ h => h) (Or.inl ⟨by rfl, ?_⟩) (by assumption) ?_
                  rotate_left
                  · (intro w hSw; (try dsimp only at hSw); go_simp; first | done | with_reducible rfl)
                  try simp only [Act.put, List.setIfInBounds_toArray, List.set_cons_zero, List.set_cons_succ]
                  refine wpAnyH_take (i := 9) (oi := ⟨some 87, _, _, _, _, _⟩) (v := ?_) rfl (by kernel_rfl) (by kernel_rfl) (by kernel_rfl) (fun _ _ _ h => h) (Or.inl ⟨by rfl, ?_⟩) (by assumption) ?_
                  rotate_left
                  · (intro w hSw; have c9 := HD2.out w hSw; clear hSw; (try dsimp only at hSw); go_simp; first | done | with_reducible rfl)
                  try simp only [Act.put, List.setIfInBounds_toArray, List.set_cons_zero, List.set_cons_succ]
                  refine wpAnyH_ready (rs := [10]) (by kernel_rfl) (by simp) ?_
                  refine AllReadyH.cons (o := ⟨some 88, _, _, _, _, _⟩) rfl (fun K hK => ?_) AllReadyH.nil
                  go_simp
                  refine (Sh.sector_any _ xx hxx).mono ?_
                  rintro e w5 ⟨rfl, ho5, hb5⟩
                  refine hK.out _ _ ⟨(HGP.out.grown hb5).sq, cqs_below (HGP.out.grown hb5) HBW.out.1 HBW.out.2⟩ (fun hHeld => ?_)
                  clear hK K
                  try simp only [Act.put, List.setIfInBounds_toArray, List.set_cons_zero, List.set_cons_succ]
                  refine wpAnyH_ready (rs := [11]) (by kernel_rfl) (by simp) ?_
                  refine AllReadyH.cons (o := ⟨some 89, _, _, _, _, _⟩) rfl (fun K hK => ?_) AllReadyH.nil
                  go_simp
                  refine (HGP.out.put _ hxx hb5 ho5).mono ?_
                  rintro e w6 ⟨y, l5, x5, rfl, hput, hq5⟩
                  refine hK.out _ _ ⟨hq5.sq, cqs_below hq5 HBW.out.1 HBW.out.2⟩ (fun hHeld => ?_)
                  clear hK K
                  try simp only [Act.put, List.setIfInBounds_toArray, List.set_cons_zero, List.set_cons_succ]
                  obtain ⟨rfl, hof5⟩ | ⟨_, hoff5, _⟩ := HOFI.out.put hV h1 (by rw [hVn]; exact hmm2) (Sh.secOf_len xx) hput
                  rotate_left
                  · cases hoff5
                  refine wpAnyH_take (i := 12) (oi := ⟨some 90, _, _, _, _, _⟩) (v := ?_) rfl (by kernel_rfl) (by kernel_rfl) (by kernel_rfl) (fun _ _ _ h => h) (Or.inl ⟨by rfl, ?_⟩) (by assumption) ?_
                  rotate_left
                  · (intro w hSw; (try dsimp only at hSw); go_simp; first | done | with_reducible rfl)
                  try simp only [Act.put, List.setIfInBounds_toArray, List.set_cons_zero, List.set_cons_succ]
                  refine wpAnyH_done (by kernel_rfl) ?_ _
                  have dx := HDX.out w6 (cqs_below hq5 HBW.out.1 HBW.out.2)
                  obtain ⟨sx, hsx⟩ : ∃ sx, Sh.strL (Sh.secOf xx) = sx := ⟨_, rfl⟩
                  have HSX := Lib.hid hsx
                  have HQ5 := Lib.hid (And.intro hq5 hof5)
                  clear hput hq5 hof5 hHeld ho5 hb5 hsx HGP HPW HD2 hS2 HOFI c0 d0
                  go_wp2_with fail
                  refine (Sh.sector_any _ xx hxx).mono ?_
                  rintro e w7 ⟨rfl, ho7, hb7⟩
                  have hq7 := HQ5.out.1.grown hb7
                  have tc := conv_own' ho7 HSX.out w7 (Below.refl _ _)
                  have gc := Go.Proofs.YtepoepmndckmaaaGreatDoor.Kc.rowH_cell hq7.at_ hmm2
                  have gf := Go.Proofs.YtepoepmndckmaaaGreatDoor.Kc.rowS_free (k := mm) hq7.at_
                  have hq8 := hq7.poke (fun z hz => by rw [List.mem_singleton.1 hz]; exact hqne) (Go.Proofs.YtepoepmndckmaaaGreatDoor.Kc.set_only (k := mm) (.string sx)) (Go.Proofs.YtepoepmndckmaaaGreatDoor.Kc.rowH_set hq7.at_ hmm2 HSX.out)
                  have d8 := HD0.out _ (cqs_below hq8 HBW.out.1 HBW.out.2)
                  have HM5 : Hid (Rnd J hG hN g.c n (390000 - 20 * (j + 1)) gh q xr (w7.setCell ⟨gh, mm, none⟩ (.string sx))) := Lib.hid ⟨l5, x5, _, hq8, HQ5.out.2⟩
                  clear hq7 hq8 ho7 hb7 dx HQ5
                  go_wp2
                  go_roundw
                  case rel => first | exact ⟨j + 1, by omega, by go_num, HM5⟩ | ((repeat apply Exists.intro); exact ⟨⟨j + 1, by omega, by go_num, HM5⟩, rfl⟩)
                  case measure => simp [intOf]; omega
                · have e2 : (kd == 2) = false := by rw [beq_eq_false_iff_ne]; exact k2
                  clear hcq hof HC0 k1 k2 HDX HD0 hxx c0
                  go_wp2
                  go_roundw
                  case rel => exact ⟨j + 1, by omega, by go_num, HRN⟩
                  case measure => simp [intOf]; omega
          · have hend : ((j : Int) < (m : Int) ∧ ¬ (j : Int) < 300) ∨ ¬ (j : Int) < (m : Int) := by omega
            have c0 := pair_cell hcq.at2
            have hfew : (Go.Proofs.YtepoepmndckmaaaGreatDoor.Kc.risesE Go.Proofs.YtepoepmndckmaaaGreatDoor.Kc.fFlush l).length ≤ 6 := Nat.le_trans Go.Proofs.YtepoepmndckmaaaGreatDoor.Kc.rises_few (Nat.le_trans hcq.len hn6)
            have HFL := Lib.hid ((hcq.less (k' := 380000 + 1 + (Go.Proofs.YtepoepmndckmaaaGreatDoor.Kc.risesE Go.Proofs.YtepoepmndckmaaaGreatDoor.Kc.fFlush l).length) (by omega)).flush)
            have HOFI := Lib.hid hof
            clear hcq hof hrel hlt2 hfew
            rcases hend with ⟨q3, q4⟩ | q3
            all_goals
              as_aux_lemma =>
              go_wp2_with fail
              refine HFL.out.mono ?_
              rintro e w5 ⟨y, l5, x5, rfl, hfl, hq5⟩
              obtain ⟨rfl, hof5⟩ | ⟨_, hoff5, _⟩ := HOFI.out.flush hV hfl
              rotate_left
              · cases hoff5
              obtain ⟨hcl, x4, hfx⟩ := Go.Proofs.YtepoepmndckmaaaGreatDoor.Kc.FlushR.clean hfl rfl HOFI.out.keys HOFI.out.pins
              have hop5 : ∀ st, x5.g.op st = none := hfx.2.2
              have HALL : Hid (∀ j, j < 12 → contR ar10 x5 j = hv j) := Lib.hid (hof5.all rfl hcl)
              have HCR := Lib.hid (cq_crash hq5 hop5 (by rw [HBW.out.1, HBW.out.2]) B0 bn bc (ks := ks) (by rw [HBW.out.2]; exact HKS.out.2) HKS.out.1)
              clear hfl hq5 hof5 hcl hfx hop5 HFL HOFI c0
              go_wp2_with fail
              refine HCR.out.mono ?_
              rintro e w6 ⟨rfl, F6, ha6, hr6, hz6⟩
              obtain ⟨g1, g2, g3⟩ := hz6 _ (List.mem_cons_self ..)
              have HGH := Lib.hid (And.intro g1 (And.intro g2 g3))
              have HOP := Lib.hid (open_back hr6 ha6 (show Tbl J.B J.W by rw [HBW.out.1, HBW.out.2]; exact ⟨HA.out.tabs, HA.out.tabs.size, HA.out.wid, HA.out.wid.size, HA.out.fld, HA.out.fld.size, HA.out.lay, HA.out.lay.size⟩))
              clear ha6 hr6 hz6 g1 g2 g3 HCR
              go_wp2_with fail
              refine HOP.out.mono ?_
              rintro e w7 ⟨J2, A2, x7, rfl, hG2, hst, hmm3, hI7, hmay, hB2, hW2, hmv7⟩
              obtain ⟨g1, g2, g3⟩ := HGH.out
              have hg7 : w7.heap[gh]? = some (Go.Proofs.YtepoepmndckmaaaGreatDoor.Kc.rowH hv) := (hmv7.1.block _ (lt_of_block g1) g2).trans g1
              have hn7 : ¬ AllV J2 x7.F gh := fun e => (hmv7.2 _ e).elim g2 (fun e2 => absurd (lt_of_block g1) (by omega))
              have hsz2 : A2.St * (A2.M - 1) = 12 := by rw [hst, hmm3]; rfl
              have HSZ := Lib.hid hsz2
              have HG2 := Lib.hid hG2
              have hrel7 : Hid (Bck J2 A2 w gh (390000 - 0) hv w7) := Lib.hid ⟨x7, hI7, fun j hj => (List.mem_singleton.1 (hmay j (by show j < 12; exact hj))).trans (HALL.out j hj), hg7, hn7, by rw [hB2]; exact g3, hB2.trans HBW.out.1, hW2.trans HBW.out.2⟩
              clear hG2 hst hmm3 hI7 hmay hB2 hW2 hmv7 g1 g2 g3 hg7 hn7 hsz2 HOP HALL HGH
              go_wp2
              go_loopw [19] (fun s wx => ∃ t : Nat, t ≤ 12 ∧ s = .int .i64 t ∧ Hid (Bck J2 A2 w gh (390000 - t) hv wx)) (fun s _ => 12 - (intOf s).toNat)
              case atStart => exact ⟨0, Nat.zero_le _, rfl, hrel7⟩
              case round =>
                obtain ⟨t, ht, rfl, hrel⟩ := hrel
                clear hrel7
                obtain ⟨x8, hI8, hc8, hg8, hn8, hlo8, hB8, hW8⟩ := hrel.out
                clear hrel
                by_cases hlt : t < 12
                · have ht2 : (t : Int) < 12 := by omega
                  have HRD := Lib.hid ((show IsR J2 A2 wr x8 (390000 - (t + 1) + 1) from hI8.less (by omega)).read HG2.out t (by rw [HSZ.out]; exact hlt))
                  have HN8 := Lib.hid (texts_out hI8 hg8 hlo8 hn8)
                  have HC8 := Lib.hid (And.intro hc8 (And.intro hg8 (And.intro hn8 (And.intro hlo8 (And.intro hB8 hW8)))))
                  clear hI8 hc8 hg8 hn8 hlo8 hB8 hW8
                  go_wp2_with fail
                  refine HRD.out.mono ?_
                  rintro e w9 ⟨y, A5, len5, cap5, X5, x9, rfl, ⟨rfl, hX, hsame⟩, hI9, hmv9, hgot⟩
                  obtain ⟨hc8, hg8, hn8, hlo8, hB8, hW8⟩ := HC8.out
                  obtain ⟨_, rfl, hby5, _, _⟩ | ⟨h0, _⟩ := hgot
                  rotate_left
                  · exact absurd rfl h0
                  have hX : X5 = hv t := hX.trans (hc8 t hlt)
                  subst hX
                  obtain ⟨ad5, o5, rfl, _, ho5⟩ := Go.Proofs.YtepoepmndckmaaaGreatDoor.Kc.bytes_block hby5
                  have hcv5 := Go.Proofs.YtepoepmndckmaaaGreatDoor.Kc.got_conv hby5 rfl ho5
                  have hg9 : w9.heap[gh]? = some (Go.Proofs.YtepoepmndckmaaaGreatDoor.Kc.rowH hv) := (hmv9.1.block _ (lt_of_block hg8) HN8.out).trans hg8
                  have hn9 : ¬ AllV J2 x9.F gh := fun e => (hmv9.2 _ (.inr (.inl e))).elim HN8.out (fun e2 => absurd (lt_of_block hg8) (by omega))
                  obtain ⟨sm, hsm⟩ : ∃ sm, Sh.strL (hv t) = sm := ⟨_, rfl⟩
                  have HSM := Lib.hid hsm
                  have HBY : Hid (∀ W : World, Go.Proofs.YtepoepmndckmaaaGreatDoor.Kc.SQ [(ad5.block, o5), (gh, Go.Proofs.YtepoepmndckmaaaGreatDoor.Kc.rowH hv)] W → (convert 40 9 (.slice (some ad5) 128 cap5)).run Tryz.prog W = .ok (.string sm) W) := Lib.hid fun W hW => hcv5 W hW.head cap5 _ HSM.out
                  have HLD : Hid (∀ W : World, Go.Proofs.YtepoepmndckmaaaGreatDoor.Kc.SQ [(ad5.block, o5), (gh, Go.Proofs.YtepoepmndckmaaaGreatDoor.Kc.rowH hv)] W → W.cell? ⟨gh, t, none⟩ = some (.string sm)) := Lib.hid fun W hW => by rw [← HSM.out]; exact Go.Proofs.YtepoepmndckmaaaGreatDoor.Kc.rowH_cell hW.tail.head hlt
                  have hS5 : Go.Proofs.YtepoepmndckmaaaGreatDoor.Kc.SQ [(ad5.block, o5), (gh, Go.Proofs.YtepoepmndckmaaaGreatDoor.Kc.rowH hv)] w9.drew := fun z hz => by
                    rcases List.mem_cons.1 hz with e | e
                    · rw [e]; exact ho5
                    · rw [List.mem_singleton.1 e]; exact hg9
                  have HM9 : Hid (Bck J2 A2 w gh (390000 - (t + 1)) hv w9.drew) := Lib.hid ⟨x9, hI9.stays (Go.Proofs.YtepoepmndckmaaaGreatDoor.Kc.only_below ((Below.refl _ w9).drew)) (fun _ e => e.elim), fun j hj => (hsame j).trans (hc8 j hj), hg9, hn9, hlo8, hB8, hW8⟩
                  clear hby5 hcv5 hsm ho5 hg9 hn9 hI9 hmv9 hsame hc8 hg8 hn8 hlo8 hB8 hW8 HRD HN8 HC8
                  go_wp2_with fail
                  refine wp_region_held_drew (S := Go.Proofs.YtepoepmndckmaaaGreatDoor.Kc.SQ [(ad5.block, o5), (gh, Go.Proofs.YtepoepmndckmaaaGreatDoor.Kc.rowH hv)]) (by kernel_rfl) hS5 (fun hHeld => ?_)
                  refine wpAnyH_take (i := 0) (oi := ⟨some 157, _, _, _, _, _⟩) (v := ?_) rfl (by kernel_rfl) (by kernel_rfl) (by kernel_rfl) (fun _ _ _ h => h) (Or.inl ⟨by rfl, ?_⟩) (by assumption) ?_
                  rotate_left
                  · (intro w hSw; (try dsimp only at hSw); go_simp; first | done | with_reducible rfl)
                  try simp only [Act.put, List.setIfInBounds_toArray, List.set_cons_zero, List.set_cons_succ]
                  refine wpAnyH_take (i := 1) (oi := ⟨some 158, _, _, _, _, _⟩) (v := ?_) rfl (by kernel_rfl) (by kernel_rfl) (by kernel_rfl) (fun _ _ _ h => h) (Or.inl ⟨by rfl, ?_⟩) (by assumption) ?_
                  rotate_left
                  · (intro w hSw; (try dsimp only at hSw); go_simp; first | done | with_reducible rfl)
                  try simp only [Act.put, List.setIfInBounds_toArray, List.set_cons_zero, List.set_cons_succ]
                  refine wpAnyH_take (i := 2) (oi := ⟨some 159, _, _, _, _, _⟩) (v := ?_) rfl (by kernel_rfl) (by kernel_rfl) (by kernel_rfl) (fun _ _ _ h => h) (Or.inl ⟨by rfl, ?_⟩) (by assumption) ?_
                  rotate_left
                  · (intro w hSw; (try dsimp only at hSw); go_simp; first | done | with_reducible rfl)
                  try simp only [Act.put, List.setIfInBounds_toArray, List.set_cons_zero, List.set_cons_succ]
                  refine wpAnyH_take (i := 3) (oi := ⟨some 160, _, _, _, _, _⟩) (v := ?_) rfl (by kernel_rfl) (by kernel_rfl) (by kernel_rfl) (fun _ _ _ h => h) (Or.inl ⟨by rfl, ?_⟩) (by assumption) ?_
                  rotate_left
                  · (intro w hSw; (try dsimp only at hSw); go_simp; first | done | with_reducible rfl)
                  try simp only [Act.put, List.setIfInBounds_toArray, List.set_cons_zero, List.set_cons_succ]
                  refine wpAnyH_take (i := 4) (oi := ⟨some 161, _, _, _, _, _⟩) (v := ?_) rfl (by kernel_rfl) (by kernel_rfl) (by kernel_rfl) (fun _ _ _ h => h) (Or.inl ⟨by rfl, ?_⟩) (by assumption) ?_
                  rotate_left
                  · (intro w hSw; have c9 := HBY.out w hSw; clear hSw; (try dsimp only at hSw); go_simp; first | done | with_reducible rfl)
                  try simp only [Act.put, List.setIfInBounds_toArray, List.set_cons_zero, List.set_cons_succ]
                  refine wpAnyH_take (i := 5) (oi := ⟨some 162, _, _, _, _, _⟩) (v := ?_) rfl (by kernel_rfl) (by kernel_rfl) (by kernel_rfl) (fun _ _ _ h => h) (Or.inl ⟨by rfl, ?_⟩) (by assumption) ?_
                  rotate_left
                  · (intro w hSw; (try dsimp only at hSw); go_simp; first | done | with_reducible rfl)
                  try simp only [Act.put, List.setIfInBounds_toArray, List.set_cons_zero, List.set_cons_succ]
                  refine wpAnyH_take (i := 6) (oi := ⟨some 163, _, _, _, _, _⟩) (v := ?_) rfl (by kernel_rfl) (by kernel_rfl) (by kernel_rfl) (fun _ _ _ h => h) (Or.inl ⟨by rfl, ?_⟩) (by assumption) ?_
                  rotate_left
                  · (intro w hSw; (try dsimp only at hSw); go_simp; first | done | with_reducible rfl)
                  try simp only [Act.put, List.setIfInBounds_toArray, List.set_cons_zero, List.set_cons_succ]
                  refine wpAnyH_take (i := 7) (oi := ⟨some 164, _, _, _, _, _⟩) (v := ?_) rfl (by kernel_rfl) (by kernel_rfl) (by kernel_rfl) (fun _ _ _ h => h) (Or.inl ⟨by rfl, ?_⟩) (by assumption) ?_
                  rotate_left
                  · (intro w hSw; (try dsimp only at hSw); go_simp; first | done | with_reducible rfl)
                  try simp only [Act.put, List.setIfInBounds_toArray, List.set_cons_zero, List.set_cons_succ]
                  refine wpAnyH_take (i := 8) (oi := ⟨some 165, _, _, _, _, _⟩) (v := ?_) rfl (by kernel_rfl) (by kernel_rfl) (by kernel_rfl) (fun _ _ _ h => h) (Or.inl ⟨by rfl, ?_⟩) (by assumption) ?_
                  rotate_left
                  · (intro w hSw; have c9 := HLD.out w hSw; clear hSw; (try dsimp only at hSw); go_simp; first | done | with_reducible rfl)
                  try simp only [Act.put, List.setIfInBounds_toArray, List.set_cons_zero, List.set_cons_succ]
                  refine wpAnyH_take (i := 9) (oi := ⟨some 166, _, _, _, _, _⟩) (v := ?_) rfl (by kernel_rfl) (by kernel_rfl) (by kernel_rfl) (fun _ _ _ h => h) (Or.inl ⟨by rfl, ?_⟩) (by assumption) ?_
                  rotate_left
                  · (intro w hSw; (try dsimp only at hSw); go_simp; first | done | with_reducible rfl)
                  try simp only [Act.put, List.setIfInBounds_toArray, List.set_cons_zero, List.set_cons_succ]
                  refine wpAnyH_take (i := 10) (oi := ⟨some 167, _, _, _, _, _⟩) (v := ?_) rfl (by kernel_rfl) (by kernel_rfl) (by kernel_rfl) (fun _ _ _ h => h) (Or.inl ⟨by rfl, ?_⟩) (by assumption) ?_
                  rotate_left
                  · (intro w hSw; (try dsimp only at hSw); go_simp; first | done | with_reducible rfl)
                  try simp only [Act.put, List.setIfInBounds_toArray, List.set_cons_zero, List.set_cons_succ]
                  refine wpAnyH_done (by kernel_rfl) ?_ _
                  clear hHeld hS5 HBY HLD
                  go_wp2
                  go_roundw
                  case rel => exact ⟨t + 1, by omega, by go_num, HM9⟩
                  case measure => simp [intOf]; omega
                · obtain rfl : t = 12 := by omega
                  have HBL : Hid (Below w.heap.size w wr) := Lib.hid (by
                    have := hI8.vr.bel
                    rw [hB8, hW8] at this
                    exact this)
                  clear hI8 hc8 hg8 hn8 hlo8 hB8 hW8
                  go_wp2
                  go_ret
                  exact ⟨rfl, HBL.out⟩
set_option maxRecDepth 100000 in
/-- WHAT THE WALK GIVES, FOR EVERY ARGUMENT AND EVERY WORLD THAT HOLDS THE TABLES. -/
theorem contract (H : Type) (enc : TypeId × Value → H) (W : World) (base : Nat) (args : Array Value) (ds gs : List (DataW H)) (before : List MemPlace)
    (hval : ∀ (j : Nat) t v, Tryz.f4.params[j]? = some t → args[j]? = some v → Value.okWide Tryz.prog W .any base t v)
    (hW : DataW.Whole enc Tryz.prog Tryz.f4.params.toList Rows.cacheReadsSpec.vars false W args.toList ds gs before)
    (hsz : (DataW.weightsEach Tryz.prog (Tryz.f4.params.toList ++ (OpenSpec.ofChange Rows.cacheReadsSpec).bare.plain.varTypes Tryz.prog) (ds ++ gs)).all (· ≤ reachBytes) = true) (hL : laidMetH Tryz.prog laidBoth W) :
    Calls Tryz.prog 4 args W fun e W' => ∃ v, e = .returned v ∧ Rows.cacheReadsSpec.post enc Tryz.prog Tryz.f4 false true false false W args v W' := by
  have hW' := hW
  obtain ⟨p, q, hA0, hV, rfl, hfz, hnd⟩ := hW
  have hA : DataW.TrodAll enc Tryz.prog W 0 (fun _ => true) true Tryz.f4.params.toList args.toList ds p := hA0
  have hsz2 : (DataW.weightsEach Tryz.prog (Tryz.f4.params.toList ++ []) (ds ++ gs)).all (· ≤ reachBytes) = true := hsz
  rw [Tryz.params4] at hA hval hsz2
  obtain ⟨v0, vs0, d0, ds0, p0, q0, hargs, rfl, rfl, h0, r0⟩ := trodAll_cons hA
  obtain ⟨v1, vs1, d1, ds1, p1, q1, rfl, rfl, rfl, h1, r1⟩ := trodAll_cons r0
  obtain ⟨v2, vs2, d2, ds2, p2, q2, rfl, rfl, rfl, h2, r2⟩ := trodAll_cons r1
  obtain ⟨rfl, rfl, rfl⟩ := trodAll_nil r2
  obtain rfl : args = #[v0, v1, v2] := by cases args; simp_all
  obtain ⟨rfl, rfl⟩ := trodVars_none hV
  obtain ⟨a0, rfl, rfl, rfl, w0⟩ := open_int Tryz.underlying3 (hval 0 3 v0 rfl rfl) h0
  have bd0 := bounds_i64 w0
  obtain ⟨A1, n1, c1, rfl⟩ := okWide_slice Tryz.underlying22 (hval 1 22 v1 rfl rfl)
  have k1 := h1
  have lt1 : ∀ x ∈ p1, x.block < W.heap.size := by obtain ⟨m, hm⟩ := k1; exact DataW.trod_lt m _ _ _ hm
  obtain ⟨f1, hl1⟩ : ∃ f, Kc.Ops10 W A1 n1 f := by obtain ⟨fuel, hf⟩ := h1; exact Kc.ops10_in (by simpa [Value.cells] using hf)
  obtain ⟨A2, n2, c2, rfl⟩ := okWide_slice Tryz.underlying45 (hval 2 45 v2 rfl rfl)
  have k2 := h2
  have lt2 : ∀ x ∈ p2, x.block < W.heap.size := by obtain ⟨m, hm⟩ := k2; exact DataW.trod_lt m _ _ _ hm
  obtain ⟨ks2, nb2, hk2⟩ : ∃ ks : List (List Int), n2 ≤ 9223372036854775807 ∧ KeepIs W (Old W) A2 n2 ks := by obtain ⟨fuel, hf⟩ := h2; exact keep_in (by simpa [Value.cells] using hf)
  have hT := tabs_of_laid hL
  refine (walk a0 bd0.1 bd0.2 A1 n1 c1 f1 hl1 A2 n2 c2 ks2 nb2 hk2 hT).mono fun e W' ⟨he, bel⟩ => ?_
  subst he
  exact ⟨_, rfl, _, _, _, [], _, [], hW', trodAll_mk1 (shut_bool Tryz.underlying4 _), (trodAll_cons_mk (shut_int Tryz.underlying3 w0) (trodAll_cons_mk (Below.trod laidOut (by kernel_rfl) (of_decide_eq_true (by kernel_rfl)) k1 bel lt1) (trodAll_cons_mk (Below.trod laidOut (by kernel_rfl) (of_decide_eq_true (by kernel_rfl)) k2 bel lt2) trodAll_mk0))), rfl, bel.frame _, fun h => by cases h⟩

theorem laid_met (os : Os) : laidMetH Tryz.prog laidBoth ((laidWorld os).forCall (fun _ _ => 0) ⟨#[], #[.int .i64 0, .slice none 0 0, .slice none 0 0], []⟩).memory :=
  laidMetH_of_parts3 (fuel := 8) (laidMet_of_run' 8 (by kernel_rfl) (by kernel_rfl)) (by kernel_rfl) (by kernel_rfl)
theorem reads (os : Os) {H : Type} (enc : TypeId × Value → H) : ∃ places, DataW.whole enc Tryz.prog ((laidWorld os).forCall (fun _ _ => 0) ⟨#[], #[.int .i64 0, .slice none 0 0, .slice none 0 0], []⟩).memory Tryz.f4.params.toList Rows.cacheReadsSpec.vars false (#[.int .i64 0, .slice none 0 0, .slice none 0 0] : Array Value).toList 8 = some ([.lit (.int .i64 0), .nil, .nil], [], places) :=
  ⟨[], by kernel_rfl⟩
set_option maxRecDepth 100000 in
theorem lifted (os : Os) (started : os.Started) (H : Type) (enc : TypeId × Value → H) (F : Stop.Interp) :
    ReturnsInHanded {} Tryz.checked os 4 .any ((OpenSpec.ofChange Rows.cacheReadsSpec).preRow enc Tryz.prog Tryz.f4 Rows.cacheReadsRow.domain false Rows.cacheReadsRow.laid) (((OpenSpec.ofChange Rows.cacheReadsSpec).at F).post enc Tryz.prog Tryz.f4 false true false false) := by
  obtain ⟨places, hx⟩ := reads os enc
  refine returnsInHanded_of_row (C := Tryz.checked) (s := (OpenSpec.ofChange Rows.cacheReadsSpec)) own started (by kernel_rfl) Tryz.func4
    (witness_row_at (enc := enc) (C := Tryz.checked) false (laidWorld os) #[.int .i64 0, .slice none 0 0, .slice none 0 0] rfl (by kernel_rfl) (by kernel_rfl) (by kernel_rfl)
      (OpenSpec.preRow_of_cond 8 hx (by kernel_rfl) (fun k hk => by cases hk) (by kernel_rfl) (laid_met os))) ?_
  intro W base args ds gs before hval hW _ hcond hsz hL _ _
  exact contract H enc W base args ds gs before hval hW hsz hL
theorem said : Rows.CacheReadsSaid :=
  OpenClaim.holds_of_cond 4 Tryz.f4 rfl rfl rfl rfl rfl rfl rfl ⟨rfl, rfl, rfl, rfl, rfl⟩ rfl rfl rfl rfl rfl (by kernel_rfl) Tryz.func4 (by kernel_rfl)
    (of_decide_eq_true (by kernel_rfl)) (by unfold Func.isWrapper; first | (rw [if_pos (by decide +kernel)]; kernel_rfl) | (rw [if_neg (by decide +kernel)]; exact ⟨rfl, rfl⟩))
    (fun os started H enc _ F => by rw [OpenClaim.pre_eq_preRow]; exact lifted os started H enc F)
theorem plain (f : FuncId) (fn : Func) (hf : Tryz.pinned.checked.prog.funcNamed "ashlar/ashlarlaw10.CacheReads" = some f) (hfn : Tryz.pinned.checked.prog.funcs[f]? = some fn) :
    false = Tryz.pinned.checked.prog.looks [] ∧ ∀ (j : Nat) t, fn.params[j]? = some t → Tryz.pinned.checked.prog.wantsStandIn t = false := by
  obtain rfl : f = 4 := Option.some.inj ((show Tryz.prog.funcNamed "ashlar/ashlarlaw10.CacheReads" = some 4 by kernel_rfl).symm.trans hf) |>.symm
  obtain rfl : fn = Tryz.f4 := (Option.some.inj (Tryz.func4.symm.trans hfn)).symm
  refine ⟨by kernel_rfl, fun j t ht => ?_⟩
  rw [Tryz.params4] at ht
  have hm : t ∈ [3, 22, 45] := by simpa using Array.mem_of_getElem? ht
  have hall : ([3, 22, 45].all fun u => !Tryz.prog.wantsStandIn u) = true := by kernel_rfl
  exact (show Tryz.prog.wantsStandIn t = false by simpa using List.all_eq_true.1 hall t hm)

/-- ████ THE CARD ████ -/
theorem card : Rows.CacheReadsCardSaid :=
  Claim7.holds_tied_plain_at .later [] _ _ _ _ said (fun _ h => by cases h) (by kernel_rfl) (fun _ h => by cases h) cacheReads_row_tie rfl ⟨rfl, rfl⟩ (by kernel_rfl) rfl plain (by kernel_rfl)
end Go.Proofs.YtepoepmndckmaaaGreatDoor.U.cacheReads
