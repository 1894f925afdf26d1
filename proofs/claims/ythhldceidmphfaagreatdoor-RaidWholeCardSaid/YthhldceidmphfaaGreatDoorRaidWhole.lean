/-
  RaidWhole is true: behind an opening of an array of which no block is lacking all stripes go with their parities, whatever crashed.
  Conditions: the package-level variables start as the program's text lays them.
-/
import Derived.Test.YthhldceidmphfaaGreatDoorZw2
namespace Go.Proofs.YthhldceidmphfaaGreatDoor.U.raidWhole
abbrev KeepIs := @Sh.KeepIs
abbrev Old := @Sh.Old
theorem keep_in {H : Type} {enc : TypeId × Value → H} {W : World} {fuel n c : Nat} {A : Option Addr} {x : DataW H × List MemPlace} (h : DataW.trod enc Tryz.prog W 0 (fun _ => true) true fuel 26 [.slice A n c] = some x) :
    ∃ ks : List (List Int), n ≤ 9223372036854775807 ∧ KeepIs W (Old W) A n ks := Sh.keep_in h
open Go.ChangeShapes Go.WideShapes Go.ChangeAt Go.RowKit Go.Maps
set_option maxRecDepth 100000 in
set_option maxHeartbeats 8000000 in
theorem walk {w : World} (a : Int) (_ : -9223372036854775808 ≤ a) (_ : a ≤ 9223372036854775807) (b : Int) (_ : -9223372036854775808 ≤ b) (_ : b ≤ 9223372036854775807) (c : Int) (_ : -9223372036854775808 ≤ c) (_ : c ≤ 9223372036854775807) (A : Option Addr) (n cp : Nat) (f : Nat → Sh.Op8) (hl : Sh.Ops8 w A n f) (A2 : Option Addr) (n2 c2 : Nat) (ks : List (List Int)) (hn2 : n2 ≤ 9223372036854775807) (hks : Sh.KeepIs w (Sh.Old w) A2 n2 ks) (hA : All w) :
    Calls Tryz.prog 8 #[.int .i64 a, .int .i64 b, .int .i64 c, .slice A n cp, .slice A2 n2 c2] w fun e w' => e = .returned (.bool true) ∧ Below w.heap.size w w' := by
  have HTB := Lib.hid hA.tbl
  have HA := Lib.hid hA
  have hnn := hl.1
  have HL := Lib.hid hl
  have HKS := Lib.hid hks
  have HBG := Lib.hid (begin_any (Below.refl w.heap.size w) (Nat.le_refl _) HTB.out a b c)
  clear hA hl hks
  go_enter Tryz.func8, Tryz.ntmps8
  go_wp2_with fail
  refine HBG.out.mono ?_
  rintro e w1 ⟨r, p, Ar0, rfl, hg, hn1, hN⟩
  have HG1 := Lib.hid hg
  have HN := Lib.hid hN
  have HA1 := Lib.hid (HA.out.over hg.bel.1)
  clear hg hn1 hN HBG
  have HLI := Lib.hid (lives_true w1 HA1.out.tabs HA1.out.fld HA1.out.wid)
  go_wp2_with fail
  refine HLI.out.mono ?_
  rintro e w2 ⟨rfl, hb2⟩
  have H0 : Hid (Good w.heap.size w p r Ar0 false (2000000 + 1000 * 0) (1 + 0) w2) := Lib.hid ((HG1.out.grown hb2).more (by omega) (Nat.le_refl _))
  clear hb2 HLI HG1 HA1
  go_wp2_with fail
  go_loopw [12] (fun i wr => ∃ k : Nat, k ≤ n ∧ k ≤ 100 ∧ i = .int .i64 k ∧ Hid (Good w.heap.size w p r Ar0 false (2000000 + 1000 * k) (1 + k) wr)) (fun i _ => 100 - (intOf i).toNat)
  case atStart => exact ⟨0, Nat.zero_le _, Nat.zero_le _, rfl, H0⟩
  case round =>
    obtain ⟨k, hk, hk2, rfl, HBr⟩ := hrel
    clear H0
    by_cases hlt : k < n ∧ k < 100
    · obtain ⟨hlt, hlt2⟩ := hlt
      have q3 : (k : Int) < (n : Int) := by omega
      have q4 : (k : Int) < 100 := by omega
      obtain ⟨b0, off0, rfl, hbl, hop⟩ := HL.out.2 (by omega)
      have hop := hop k hlt
      have hb1 := HBr.out.bel.1
      have x0 := (hb1.cell (p := ⟨b0, off0 + k * 5, none⟩) hbl).trans hop.c0
      have x1 := (hb1.cell (p := ⟨b0, off0 + k * 5 + 1, none⟩) hbl).trans hop.c1
      have x2 := (hb1.cell (p := ⟨b0, off0 + k * 5 + 2, none⟩) hbl).trans hop.c2
      have x3 := (hb1.cell (p := ⟨b0, off0 + k * 5 + 3, none⟩) hbl).trans hop.c3
      have x4 := (hb1.cell (p := ⟨b0, off0 + k * 5 + 4, none⟩) hbl).trans hop.c4
      have hsame : Hid (Good w.heap.size w p r Ar0 false (2000000 + 1000 * (k + 1)) (1 + (k + 1)) wr) := Lib.hid (HBr.out.more (by omega) (by omega))
      by_cases hkd : 2 ≤ (f k).kind ∧ (f k).kind ≤ 5
      · have HDO : Hid (Calls Tryz.prog 16 #[.pointer (some ⟨r, 0, none⟩), opV (f k)] wr fun e w' => e = .returned (.bool true) ∧ Good w.heap.size w p r Ar0 false (2000000 + 1000 * k + 1000) (1 + k + 1) w') := Lib.hid (do_some HBr.out rfl HTB.out (by omega) (by omega) (by omega) (by omega) HN.out (f k) hkd hop.b1 hop.b3 hop.b4 hop.keep)
        unfold opV at HDO
        clear hb1 hop HBr hsame
        generalize (f k).kind = kd0 at *
        generalize (f k).n = kd1 at *
        generalize (f k).at_ = kd2 at *
        generalize (f k).x = kd3 at *
        generalize (f k).A = kd4 at *
        generalize (f k).m = kd5 at *
        generalize (f k).c = kd6 at *
        have p1 : decide (kd0 ≥ 2) = true := decide_eq_true hkd.1
        have p2 : decide (kd0 ≤ 5) = true := decide_eq_true hkd.2
        go_wp2_with fail
        refine HDO.out.mono ?_
        rintro e w3 ⟨rfl, hg3⟩
        have HG3 : Hid (Good w.heap.size w p r Ar0 false (2000000 + 1000 * (k + 1)) (1 + (k + 1)) w3) := Lib.hid (hg3.more (by omega) (by omega))
        clear hg3 HDO
        go_wp2_with fail
        refine ⟨⟨k + 1, by omega, by omega, by go_num, HG3⟩, ?_⟩
        simp [intOf]
        omega
      · clear hb1 hop HBr x1 x2 x3 x4
        generalize (f k).kind = kd0 at *
        by_cases h2 : 2 ≤ kd0
        · have p1 : decide (kd0 ≥ 2) = true := decide_eq_true h2
          have p2 : decide (kd0 ≤ 5) = false := decide_eq_false (by omega)
          clear hkd h2
          go_wp2_with fail
          refine ⟨⟨k + 1, by omega, by omega, by go_num, hsame⟩, ?_⟩
          simp [intOf]
          omega
        · have p1 : decide (kd0 ≥ 2) = false := decide_eq_false (by omega)
          clear hkd h2
          go_wp2_with fail
          refine ⟨⟨k + 1, by omega, by omega, by go_num, hsame⟩, ?_⟩
          simp [intOf]
          omega
    · have HCR := Lib.hid (crash_c HBr.out rfl HTB.out (by omega) (by omega) (by omega) HN.out A2 n2 c2 HKS.out hn2)
      clear HBr
      have HEND : ∀ (w3 : World), Hid (∃ (J : Vk) (A2 : Ar) (o : Nat → Int) (g : Gh) (D U : Set0) (may : Nat → List Sh.Bs), J.B = w.heap.size ∧ J.W = w ∧ Akin Ar0 A2 ∧ WhI J r A2 o g D U may w3) → True := fun _ _ => trivial
      clear HEND
      by_cases hkn2 : k < n
      · have q5 : (k : Int) < (n : Int) := by omega
        have q6 : ¬ ((k : Int) < 100) := by omega
        go_wp2_with fail
        refine HCR.out.mono ?_
        rintro e w3 ⟨rfl, J, A3, o, g, D, U, may, hJB, hJW, hak, hw⟩
        have H3 := Lib.hid hw
        have HTJ : Hid (Tbl J.B J.W) := Lib.hid (by rw [hJB, hJW]; exact HTB.out)
        have HBL : Hid (∀ w', WhI J r A3 o g D U may w' → Below w.heap.size w w') := Lib.hid fun w' h => by have := h.bel.1; rw [hJB, hJW] at this; exact this
        have hSt : A3.St ≤ 1024 := by obtain ⟨S, F, R, I, on⟩ := hw; exact I.ci.ar.s2
        clear hw hJB hJW hak HCR
        go_wp2_with fail
        go_loopw [13] (fun i wr => ∃ k : Nat, k ≤ A3.St ∧ i = .int .i64 k ∧ Hid (WhI J r A3 o g D U may wr)) (fun i _ => A3.St - (intOf i).toNat)
        case atStart => exact ⟨0, Nat.zero_le _, rfl, H3⟩
        case round =>
          obtain ⟨st, hst, rfl, HW⟩ := hrel
          clear H3
          obtain ⟨c1, c3⟩ := HW.out.cells
          by_cases hlt : st < A3.St
          · have q3 : (st : Int) < (A3.St : Int) := by omega
            have HWH := Lib.hid (HW.out.look HTJ.out hlt)
            clear HW
            go_wp2_with fail
            refine HWH.out.mono ?_
            rintro e w4 ⟨rfl, h4⟩
            have H4 := Lib.hid h4
            clear h4 HWH c1 c3
            go_wp2_with fail
            refine ⟨⟨st + 1, by omega, by go_num, H4⟩, ?_⟩
            simp [intOf]
            omega
          · have q3 : ¬ ((st : Int) < (A3.St : Int)) := by omega
            have HWD := Lib.hid (HW.out.grown ((Below.refl _ _).drew))
            have HWN := Lib.hid HWD.out.beyond
            obtain ⟨d1, d3⟩ := HWD.out.cells
            have HB := Lib.hid (HBL.out _ HWD.out)
            clear HW HWD
            go_wp2_with fail
            refine wp_region_held_drew (S := fun W' => W'.cell? ⟨r, 1, none⟩ = some (.pointer (some ⟨J.v, 0, none⟩)) ∧ W'.cell? ⟨r, 3, none⟩ = some (.int .i64 A3.St)) (by kernel_rfl) ⟨d1, d3⟩ (fun hHeld => ?_)
            refine wpAnyH_take (i := 0) (oi := ⟨some 89, _, _, _, _, _⟩) (v := ?_) rfl (by kernel_rfl) (by kernel_rfl) (by kernel_rfl) (fun _ _ _ h => h) (Or.inl ⟨by rfl, ?_⟩) (by assumption) ?_
            rotate_left
            · (intro w hSw; (try dsimp only at hSw); go_simp; first | done | with_reducible rfl)
            try simp only [Act.put, List.setIfInBounds_toArray, List.set_cons_zero, List.set_cons_succ]
            refine wpAnyH_take (i := 1) (oi := ⟨some 90, _, _, _, _, _⟩) (v := ?_) rfl (by kernel_rfl) (by kernel_rfl) (by kernel_rfl) (fun _ _ _ h => h) (Or.inl ⟨by rfl, ?_⟩) (by assumption) ?_
            rotate_left
            · (intro w hSw; (try dsimp only at hSw); go_simp; first | done | with_reducible rfl)
            try simp only [Act.put, List.setIfInBounds_toArray, List.set_cons_zero, List.set_cons_succ]
            refine wpAnyH_take (i := 2) (oi := ⟨some 91, _, _, _, _, _⟩) (v := ?_) rfl (by kernel_rfl) (by kernel_rfl) (by kernel_rfl) (fun _ _ _ h => h) (Or.inl ⟨by rfl, ?_⟩) (by assumption) ?_
            rotate_left
            · (intro w hSw; (try dsimp only at hSw); go_simp; first | done | with_reducible rfl)
            try simp only [Act.put, List.setIfInBounds_toArray, List.set_cons_zero, List.set_cons_succ]
            refine wpAnyH_take (i := 3) (oi := ⟨some 92, _, _, _, _, _⟩) (v := ?_) rfl (by kernel_rfl) (by kernel_rfl) (by kernel_rfl) (fun _ _ _ h => h) (Or.inl ⟨by rfl, ?_⟩) (by assumption) ?_
            rotate_left
            · (intro w hSw; obtain ⟨hSa, hSb⟩ := hSw; (try dsimp only at hSw); go_simp; first | done | with_reducible rfl)
            try simp only [Act.put, List.setIfInBounds_toArray, List.set_cons_zero, List.set_cons_succ]
            refine wpAnyH_take (i := 4) (oi := ⟨some 93, _, _, _, _, _⟩) (v := ?_) rfl (by kernel_rfl) (by kernel_rfl) (by kernel_rfl) (fun _ _ _ h => h) (Or.inl ⟨by rfl, ?_⟩) (by assumption) ?_
            rotate_left
            · (intro w hSw; (try dsimp only at hSw); go_simp; first | done | with_reducible rfl)
            try simp only [Act.put, List.setIfInBounds_toArray, List.set_cons_zero, List.set_cons_succ]
            refine wpAnyH_take (i := 5) (oi := ⟨some 94, _, _, _, _, _⟩) (v := ?_) rfl (by kernel_rfl) (by kernel_rfl) (by kernel_rfl) (fun _ _ _ h => h) (Or.inl ⟨by rfl, ?_⟩) (by assumption) ?_
            rotate_left
            · (intro w hSw; (try dsimp only at hSw); go_simp; first | done | with_reducible rfl)
            try simp only [Act.put, List.setIfInBounds_toArray, List.set_cons_zero, List.set_cons_succ]
            refine wpAnyH_take (i := 6) (oi := ⟨some 95, _, _, _, _, _⟩) (v := ?_) rfl (by kernel_rfl) (by kernel_rfl) (by kernel_rfl) (fun _ _ _ h => h) (Or.inl ⟨by rfl, ?_⟩) (by assumption) ?_
            rotate_left
            · (intro w hSw; (try dsimp only at hSw); go_simp; first | done | with_reducible rfl)
            try simp only [Act.put, List.setIfInBounds_toArray, List.set_cons_zero, List.set_cons_succ]
            refine wpAnyH_take (i := 7) (oi := ⟨some 96, _, _, _, _, _⟩) (v := ?_) rfl (by kernel_rfl) (by kernel_rfl) (by kernel_rfl) (fun _ _ _ h => h) (Or.inl ⟨by rfl, ?_⟩) (by assumption) ?_
            rotate_left
            · (intro w hSw; obtain ⟨hSa, hSb⟩ := hSw; (try dsimp only at hSw); go_simp; first | done | with_reducible rfl)
            try simp only [Act.put, List.setIfInBounds_toArray, List.set_cons_zero, List.set_cons_succ]
            refine wpAnyH_ready (rs := [8]) (by kernel_rfl) (by simp) ?_
            refine AllReadyH.cons (o := ⟨some 97, _, _, _, _, _⟩) rfl (fun K hK => ?_) AllReadyH.nil
            go_simp
            refine (HWN.out).mono ?_
            rintro e w' ⟨rfl, rfl⟩
            refine hK.out _ _ hHeld (fun hHeld => ?_)
            clear hK K
            try simp only [Act.put, List.setIfInBounds_toArray, List.set_cons_zero, List.set_cons_succ]
            refine wpAnyH_take (i := 9) (oi := ⟨some 88, _, _, _, _, _⟩) (v := ?_) rfl (by kernel_rfl) (by kernel_rfl) (by kernel_rfl) (fun _ _ _ h => h) (Or.inl ⟨by rfl, ?_⟩) (by assumption) ?_
            rotate_left
            · (intro w hSw; (try dsimp only at hSw); go_simp; first | done | with_reducible rfl)
            try simp only [Act.put, List.setIfInBounds_toArray, List.set_cons_zero, List.set_cons_succ]
            refine wpAnyH_take (i := 10) (oi := ⟨some 98, _, _, _, _, _⟩) (v := ?_) rfl (by kernel_rfl) (by kernel_rfl) (by kernel_rfl) (fun _ _ _ h => h) (Or.inl ⟨by rfl, ?_⟩) (by assumption) ?_
            rotate_left
            · (intro w hSw; (try dsimp only at hSw); go_simp; first | done | with_reducible rfl)
            try simp only [Act.put, List.setIfInBounds_toArray, List.set_cons_zero, List.set_cons_succ]
            refine wpAnyH_take (i := 11) (oi := ⟨some 99, _, _, _, _, _⟩) (v := ?_) rfl (by kernel_rfl) (by kernel_rfl) (by kernel_rfl) (fun _ _ _ h => h) (Or.inl ⟨by rfl, ?_⟩) (by assumption) ?_
            rotate_left
            · (intro w hSw; (try dsimp only at hSw); go_simp; first | done | with_reducible rfl)
            try simp only [Act.put, List.setIfInBounds_toArray, List.set_cons_zero, List.set_cons_succ]
            refine wpAnyH_take (i := 12) (oi := ⟨some 16, _, _, _, _, _⟩) (v := ?_) rfl (by kernel_rfl) (by kernel_rfl) (by kernel_rfl) (fun _ _ _ h => h) (Or.inl ⟨by rfl, ?_⟩) (by assumption) ?_
            rotate_left
            · (intro w hSw; (try dsimp only at hSw); go_simp; first | done | with_reducible rfl)
            try simp only [Act.put, List.setIfInBounds_toArray, List.set_cons_zero, List.set_cons_succ]
            refine wpAnyH_take (i := 13) (oi := ⟨some 17, _, _, _, _, _⟩) (v := ?_) rfl (by kernel_rfl) (by kernel_rfl) (by kernel_rfl) (fun _ _ _ h => h) (Or.inl ⟨by rfl, ?_⟩) (by assumption) ?_
            rotate_left
            · (intro w hSw; (try dsimp only at hSw); go_simp; first | done | with_reducible rfl)
            try simp only [Act.put, List.setIfInBounds_toArray, List.set_cons_zero, List.set_cons_succ]
            refine wpAnyH_done (by kernel_rfl) ?_ _
            clear HWN
            go_wp2
            go_ret
            exact ⟨rfl, HB.out⟩
      · have q5 : ¬ ((k : Int) < (n : Int)) := by omega
        go_wp2_with fail
        refine HCR.out.mono ?_
        rintro e w3 ⟨rfl, J, A3, o, g, D, U, may, hJB, hJW, hak, hw⟩
        have H3 := Lib.hid hw
        have HTJ : Hid (Tbl J.B J.W) := Lib.hid (by rw [hJB, hJW]; exact HTB.out)
        have HBL : Hid (∀ w', WhI J r A3 o g D U may w' → Below w.heap.size w w') := Lib.hid fun w' h => by have := h.bel.1; rw [hJB, hJW] at this; exact this
        have hSt : A3.St ≤ 1024 := by obtain ⟨S, F, R, I, on⟩ := hw; exact I.ci.ar.s2
        clear hw hJB hJW hak HCR
        go_wp2_with fail
        go_loopw [13] (fun i wr => ∃ k : Nat, k ≤ A3.St ∧ i = .int .i64 k ∧ Hid (WhI J r A3 o g D U may wr)) (fun i _ => A3.St - (intOf i).toNat)
        case atStart => exact ⟨0, Nat.zero_le _, rfl, H3⟩
        case round =>
          obtain ⟨st, hst, rfl, HW⟩ := hrel
          clear H3
          obtain ⟨c1, c3⟩ := HW.out.cells
          by_cases hlt : st < A3.St
          · have q3 : (st : Int) < (A3.St : Int) := by omega
            have HWH := Lib.hid (HW.out.look HTJ.out hlt)
            clear HW
            go_wp2_with fail
            refine HWH.out.mono ?_
            rintro e w4 ⟨rfl, h4⟩
            have H4 := Lib.hid h4
            clear h4 HWH c1 c3
            go_wp2_with fail
            refine ⟨⟨st + 1, by omega, by go_num, H4⟩, ?_⟩
            simp [intOf]
            omega
          · have q3 : ¬ ((st : Int) < (A3.St : Int)) := by omega
            have HWD := Lib.hid (HW.out.grown ((Below.refl _ _).drew))
            have HWN := Lib.hid HWD.out.beyond
            obtain ⟨d1, d3⟩ := HWD.out.cells
            have HB := Lib.hid (HBL.out _ HWD.out)
            clear HW HWD
            go_wp2_with fail
            refine wp_region_held_drew (S := fun W' => W'.cell? ⟨r, 1, none⟩ = some (.pointer (some ⟨J.v, 0, none⟩)) ∧ W'.cell? ⟨r, 3, none⟩ = some (.int .i64 A3.St)) (by kernel_rfl) ⟨d1, d3⟩ (fun hHeld => ?_)
            refine wpAnyH_take (i := 0) (oi := ⟨some 89, _, _, _, _, _⟩) (v := ?_) rfl (by kernel_rfl) (by kernel_rfl) (by kernel_rfl) (fun _ _ _ h => h) (Or.inl ⟨by rfl, ?_⟩) (by assumption) ?_
            rotate_left
            · (intro w hSw; (try dsimp only at hSw); go_simp; first | done | with_reducible rfl)
            try simp only [Act.put, List.setIfInBounds_toArray, List.set_cons_zero, List.set_cons_succ]
            refine wpAnyH_take (i := 1) (oi := ⟨some 90, _, _, _, _, _⟩) (v := ?_) rfl (by kernel_rfl) (by kernel_rfl) (by kernel_rfl) (fun _ _ _ h => h) (Or.inl ⟨by rfl, ?_⟩) (by assumption) ?_
            rotate_left
            · (intro w hSw; (try dsimp only at hSw); go_simp; first | done | with_reducible rfl)
            try simp only [Act.put, List.setIfInBounds_toArray, List.set_cons_zero, List.set_cons_succ]
            refine wpAnyH_take (i := 2) (oi := ⟨some 91, _, _, _, _, _⟩) (v := ?_) rfl (by kernel_rfl) (by kernel_rfl) (by kernel_rfl) (fun _ _ _ h => h) (Or.inl ⟨by rfl, ?_⟩) (by assumption) ?_
            rotate_left
            · (intro w hSw; (try dsimp only at hSw); go_simp; first | done | with_reducible rfl)
            try simp only [Act.put, List.setIfInBounds_toArray, List.set_cons_zero, List.set_cons_succ]
            refine wpAnyH_take (i := 3) (oi := ⟨some 92, _, _, _, _, _⟩) (v := ?_) rfl (by kernel_rfl) (by kernel_rfl) (by kernel_rfl) (fun _ _ _ h => h) (Or.inl ⟨by rfl, ?_⟩) (by assumption) ?_
            rotate_left
            · (intro w hSw; obtain ⟨hSa, hSb⟩ := hSw; (try dsimp only at hSw); go_simp; first | done | with_reducible rfl)
            try simp only [Act.put, List.setIfInBounds_toArray, List.set_cons_zero, List.set_cons_succ]
            refine wpAnyH_take (i := 4) (oi := ⟨some 93, _, _, _, _, _⟩) (v := ?_) rfl (by kernel_rfl) (by kernel_rfl) (by kernel_rfl) (fun _ _ _ h => h) (Or.inl ⟨by rfl, ?_⟩) (by assumption) ?_
            rotate_left
            · (intro w hSw; (try dsimp only at hSw); go_simp; first | done | with_reducible rfl)
            try simp only [Act.put, List.setIfInBounds_toArray, List.set_cons_zero, List.set_cons_succ]
            refine wpAnyH_take (i := 5) (oi := ⟨some 94, _, _, _, _, _⟩) (v := ?_) rfl (by kernel_rfl) (by kernel_rfl) (by kernel_rfl) (fun _ _ _ h => h) (Or.inl ⟨by rfl, ?_⟩) (by assumption) ?_
            rotate_left
            · (intro w hSw; (try dsimp only at hSw); go_simp; first | done | with_reducible rfl)
            try simp only [Act.put, List.setIfInBounds_toArray, List.set_cons_zero, List.set_cons_succ]
            refine wpAnyH_take (i := 6) (oi := ⟨some 95, _, _, _, _, _⟩) (v := ?_) rfl (by kernel_rfl) (by kernel_rfl) (by kernel_rfl) (fun _ _ _ h => h) (Or.inl ⟨by rfl, ?_⟩) (by assumption) ?_
            rotate_left
            · (intro w hSw; (try dsimp only at hSw); go_simp; first | done | with_reducible rfl)
            try simp only [Act.put, List.setIfInBounds_toArray, List.set_cons_zero, List.set_cons_succ]
            refine wpAnyH_take (i := 7) (oi := ⟨some 96, _, _, _, _, _⟩) (v := ?_) rfl (by kernel_rfl) (by kernel_rfl) (by kernel_rfl) (fun _ _ _ h => h) (Or.inl ⟨by rfl, ?_⟩) (by assumption) ?_
            rotate_left
            · (intro w hSw; obtain ⟨hSa, hSb⟩ := hSw; (try dsimp only at hSw); go_simp; first | done | with_reducible rfl)
            try simp only [Act.put, List.setIfInBounds_toArray, List.set_cons_zero, List.set_cons_succ]
            refine wpAnyH_ready (rs := [8]) (by kernel_rfl) (by simp) ?_
            refine AllReadyH.cons (o := ⟨some 97, _, _, _, _, _⟩) rfl (fun K hK => ?_) AllReadyH.nil
            go_simp
            refine (HWN.out).mono ?_
            rintro e w' ⟨rfl, rfl⟩
            refine hK.out _ _ hHeld (fun hHeld => ?_)
            clear hK K
            try simp only [Act.put, List.setIfInBounds_toArray, List.set_cons_zero, List.set_cons_succ]
            refine wpAnyH_take (i := 9) (oi := ⟨some 88, _, _, _, _, _⟩) (v := ?_) rfl (by kernel_rfl) (by kernel_rfl) (by kernel_rfl) (fun _ _ _ h => h) (Or.inl ⟨by rfl, ?_⟩) (by assumption) ?_
            rotate_left
            · (intro w hSw; (try dsimp only at hSw); go_simp; first | done | with_reducible rfl)
            try simp only [Act.put, List.setIfInBounds_toArray, List.set_cons_zero, List.set_cons_succ]
            refine wpAnyH_take (i := 10) (oi := ⟨some 98, _, _, _, _, _⟩) (v := ?_) rfl (by kernel_rfl) (by kernel_rfl) (by kernel_rfl) (fun _ _ _ h => h) (Or.inl ⟨by rfl, ?_⟩) (by assumption) ?_
            rotate_left
            · (intro w hSw; (try dsimp only at hSw); go_simp; first | done | with_reducible rfl)
            try simp only [Act.put, List.setIfInBounds_toArray, List.set_cons_zero, List.set_cons_succ]
            refine wpAnyH_take (i := 11) (oi := ⟨some 99, _, _, _, _, _⟩) (v := ?_) rfl (by kernel_rfl) (by kernel_rfl) (by kernel_rfl) (fun _ _ _ h => h) (Or.inl ⟨by rfl, ?_⟩) (by assumption) ?_
            rotate_left
            · (intro w hSw; (try dsimp only at hSw); go_simp; first | done | with_reducible rfl)
            try simp only [Act.put, List.setIfInBounds_toArray, List.set_cons_zero, List.set_cons_succ]
            refine wpAnyH_take (i := 12) (oi := ⟨some 16, _, _, _, _, _⟩) (v := ?_) rfl (by kernel_rfl) (by kernel_rfl) (by kernel_rfl) (fun _ _ _ h => h) (Or.inl ⟨by rfl, ?_⟩) (by assumption) ?_
            rotate_left
            · (intro w hSw; (try dsimp only at hSw); go_simp; first | done | with_reducible rfl)
            try simp only [Act.put, List.setIfInBounds_toArray, List.set_cons_zero, List.set_cons_succ]
            refine wpAnyH_take (i := 13) (oi := ⟨some 17, _, _, _, _, _⟩) (v := ?_) rfl (by kernel_rfl) (by kernel_rfl) (by kernel_rfl) (fun _ _ _ h => h) (Or.inl ⟨by rfl, ?_⟩) (by assumption) ?_
            rotate_left
            · (intro w hSw; (try dsimp only at hSw); go_simp; first | done | with_reducible rfl)
            try simp only [Act.put, List.setIfInBounds_toArray, List.set_cons_zero, List.set_cons_succ]
            refine wpAnyH_done (by kernel_rfl) ?_ _
            clear HWN
            go_wp2
            go_ret
            exact ⟨rfl, HB.out⟩
set_option maxRecDepth 100000 in
/-- WHAT THE WALK GIVES, FOR EVERY ARGUMENT AND EVERY WORLD THAT HOLDS THE TABLES. -/
theorem contract (H : Type) (enc : TypeId × Value → H) (W : World) (base : Nat) (args : Array Value) (ds gs : List (DataW H)) (before : List MemPlace)
    (hval : ∀ (j : Nat) t v, Tryz.f8.params[j]? = some t → args[j]? = some v → Value.okWide Tryz.prog W .any base t v)
    (hW : DataW.Whole enc Tryz.prog Tryz.f8.params.toList Rows.raidWholeSpec.vars false W args.toList ds gs before)
    (hsz : (DataW.weightsEach Tryz.prog (Tryz.f8.params.toList ++ (OpenSpec.ofChange Rows.raidWholeSpec).bare.plain.varTypes Tryz.prog) (ds ++ gs)).all (· ≤ reachBytes) = true) (hL : laidMetH Tryz.prog laidBoth W) :
    Calls Tryz.prog 8 args W fun e W' => ∃ v, e = .returned v ∧ Rows.raidWholeSpec.post enc Tryz.prog Tryz.f8 false true false false W args v W' := by
  have hW' := hW
  obtain ⟨p, q, hA0, hV, rfl, hfz, hnd⟩ := hW
  have hA : DataW.TrodAll enc Tryz.prog W 0 (fun _ => true) true Tryz.f8.params.toList args.toList ds p := hA0
  have hsz2 : (DataW.weightsEach Tryz.prog (Tryz.f8.params.toList ++ []) (ds ++ gs)).all (· ≤ reachBytes) = true := hsz
  rw [Tryz.params8] at hA hval hsz2
  obtain ⟨v0, vs0, d0, ds0, p0, q0, hargs, rfl, rfl, h0, r0⟩ := trodAll_cons hA
  obtain ⟨v1, vs1, d1, ds1, p1, q1, rfl, rfl, rfl, h1, r1⟩ := trodAll_cons r0
  obtain ⟨v2, vs2, d2, ds2, p2, q2, rfl, rfl, rfl, h2, r2⟩ := trodAll_cons r1
  obtain ⟨v3, vs3, d3, ds3, p3, q3, rfl, rfl, rfl, h3, r3⟩ := trodAll_cons r2
  obtain ⟨v4, vs4, d4, ds4, p4, q4, rfl, rfl, rfl, h4, r4⟩ := trodAll_cons r3
  obtain ⟨rfl, rfl, rfl⟩ := trodAll_nil r4
  obtain rfl : args = #[v0, v1, v2, v3, v4] := by cases args; simp_all
  obtain ⟨rfl, rfl⟩ := trodVars_none hV
  obtain ⟨a0, rfl, rfl, rfl, w0⟩ := open_int Tryz.underlying3 (hval 0 3 v0 rfl rfl) h0
  have bd0 := bounds_i64 w0
  obtain ⟨a1, rfl, rfl, rfl, w1⟩ := open_int Tryz.underlying3 (hval 1 3 v1 rfl rfl) h1
  have bd1 := bounds_i64 w1
  obtain ⟨a2, rfl, rfl, rfl, w2⟩ := open_int Tryz.underlying3 (hval 2 3 v2 rfl rfl) h2
  have bd2 := bounds_i64 w2
  obtain ⟨A3, n3, c3, rfl⟩ := okWide_slice Tryz.underlying22 (hval 3 22 v3 rfl rfl)
  have k3 := h3
  have lt3 : ∀ x ∈ p3, x.block < W.heap.size := by obtain ⟨m, hm⟩ := k3; exact DataW.trod_lt m _ _ _ hm
  obtain ⟨f3, hl3⟩ : ∃ f, Sh.Ops8 W A3 n3 f := by obtain ⟨fuel, hf⟩ := h3; exact Sh.ops_in (by simpa [Value.cells] using hf)
  obtain ⟨A4, n4, c4, rfl⟩ := okWide_slice Tryz.underlying26 (hval 4 26 v4 rfl rfl)
  have k4 := h4
  have lt4 : ∀ x ∈ p4, x.block < W.heap.size := by obtain ⟨m, hm⟩ := k4; exact DataW.trod_lt m _ _ _ hm
  obtain ⟨ks4, nb4, hk4⟩ : ∃ ks : List (List Int), n4 ≤ 9223372036854775807 ∧ KeepIs W (Old W) A4 n4 ks := by obtain ⟨fuel, hf⟩ := h4; exact keep_in (by simpa [Value.cells] using hf)
  have hT := tabs_of_laid hL
  refine (walk a0 bd0.1 bd0.2 a1 bd1.1 bd1.2 a2 bd2.1 bd2.2 A3 n3 c3 f3 hl3 A4 n4 c4 ks4 nb4 hk4 hT).mono fun e W' ⟨he, bel⟩ => ?_
  subst he
  exact ⟨_, rfl, _, _, _, [], _, [], hW', trodAll_mk1 (shut_bool Tryz.underlying4 _), (trodAll_cons_mk (shut_int Tryz.underlying3 w0) (trodAll_cons_mk (shut_int Tryz.underlying3 w1) (trodAll_cons_mk (shut_int Tryz.underlying3 w2) (trodAll_cons_mk (Below.trod laidOut (by kernel_rfl) (of_decide_eq_true (by kernel_rfl)) k3 bel lt3) (trodAll_cons_mk (Below.trod laidOut (by kernel_rfl) (of_decide_eq_true (by kernel_rfl)) k4 bel lt4) trodAll_mk0))))), rfl, bel.frame _, fun h => by cases h⟩

theorem laid_met (os : Os) : laidMetH Tryz.prog laidBoth ((laidWorld os).forCall (fun _ _ => 0) ⟨#[], #[.int .i64 0, .int .i64 0, .int .i64 0, .slice none 0 0, .slice none 0 0], []⟩).memory :=
  laidMetH_of_parts3 (fuel := 8) (laidMet_of_run' 8 (by kernel_rfl) (by kernel_rfl)) (by kernel_rfl) (by kernel_rfl)
theorem reads (os : Os) {H : Type} (enc : TypeId × Value → H) : ∃ places, DataW.whole enc Tryz.prog ((laidWorld os).forCall (fun _ _ => 0) ⟨#[], #[.int .i64 0, .int .i64 0, .int .i64 0, .slice none 0 0, .slice none 0 0], []⟩).memory Tryz.f8.params.toList Rows.raidWholeSpec.vars false (#[.int .i64 0, .int .i64 0, .int .i64 0, .slice none 0 0, .slice none 0 0] : Array Value).toList 8 = some ([.lit (.int .i64 0), .lit (.int .i64 0), .lit (.int .i64 0), .nil, .nil], [], places) :=
  ⟨[], by kernel_rfl⟩
set_option maxRecDepth 100000 in
theorem lifted (os : Os) (started : os.Started) (H : Type) (enc : TypeId × Value → H) (F : Stop.Interp) :
    ReturnsInHanded {} Tryz.checked os 8 .any ((OpenSpec.ofChange Rows.raidWholeSpec).preRow enc Tryz.prog Tryz.f8 Rows.raidWholeRow.domain false Rows.raidWholeRow.laid) (((OpenSpec.ofChange Rows.raidWholeSpec).at F).post enc Tryz.prog Tryz.f8 false true false false) := by
  obtain ⟨places, hx⟩ := reads os enc
  refine returnsInHanded_of_row (C := Tryz.checked) (s := (OpenSpec.ofChange Rows.raidWholeSpec)) own started (by kernel_rfl) Tryz.func8
    (witness_row_at (enc := enc) (C := Tryz.checked) false (laidWorld os) #[.int .i64 0, .int .i64 0, .int .i64 0, .slice none 0 0, .slice none 0 0] rfl (by kernel_rfl) (by kernel_rfl) (by kernel_rfl)
      (OpenSpec.preRow_of_cond 8 hx (by kernel_rfl) (fun k hk => by cases hk) (by kernel_rfl) (laid_met os))) ?_
  intro W base args ds gs before hval hW _ hcond hsz hL _ _
  exact contract H enc W base args ds gs before hval hW hsz hL
theorem said : Rows.RaidWholeSaid :=
  OpenClaim.holds_of_cond 8 Tryz.f8 rfl rfl rfl rfl rfl rfl rfl ⟨rfl, rfl, rfl, rfl, rfl⟩ rfl rfl rfl rfl rfl (by kernel_rfl) Tryz.func8 (by kernel_rfl)
    (of_decide_eq_true (by kernel_rfl)) (by unfold Func.isWrapper; first | (rw [if_pos (by decide +kernel)]; kernel_rfl) | (rw [if_neg (by decide +kernel)]; exact ⟨rfl, rfl⟩))
    (fun os started H enc _ F => by rw [OpenClaim.pre_eq_preRow]; exact lifted os started H enc F)
theorem plain (f : FuncId) (fn : Func) (hf : Tryz.pinned.checked.prog.funcNamed "ashlar/ashlarlaw08.RaidWhole" = some f) (hfn : Tryz.pinned.checked.prog.funcs[f]? = some fn) :
    false = Tryz.pinned.checked.prog.looks [] ∧ ∀ (j : Nat) t, fn.params[j]? = some t → Tryz.pinned.checked.prog.wantsStandIn t = false := by
  obtain rfl : f = 8 := Option.some.inj ((show Tryz.prog.funcNamed "ashlar/ashlarlaw08.RaidWhole" = some 8 by kernel_rfl).symm.trans hf) |>.symm
  obtain rfl : fn = Tryz.f8 := (Option.some.inj (Tryz.func8.symm.trans hfn)).symm
  refine ⟨by kernel_rfl, fun j t ht => ?_⟩
  rw [Tryz.params8] at ht
  have hm : t ∈ [3, 3, 3, 22, 26] := by simpa using Array.mem_of_getElem? ht
  have hall : ([3, 3, 3, 22, 26].all fun u => !Tryz.prog.wantsStandIn u) = true := by kernel_rfl
  exact (show Tryz.prog.wantsStandIn t = false by simpa using List.all_eq_true.1 hall t hm)

/-- ████ THE CARD ████ -/
theorem card : Rows.RaidWholeCardSaid :=
  Claim7.holds_tied_plain_at .later [] _ _ _ _ said (fun _ h => by cases h) (by kernel_rfl) (fun _ h => by cases h) raidWhole_row_tie rfl ⟨rfl, rfl⟩ (by kernel_rfl) rfl plain (by kernel_rfl)
end Go.Proofs.YthhldceidmphfaaGreatDoor.U.raidWhole
