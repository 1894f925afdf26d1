/-
  CacheLeast (P10.1): the block that leaves is that which was used longest ago; those that were used since stay.
  Conditions: every argument, every world that holds the program's tables.
-/
import Derived.Test.YtepoepmndckmaaaGreatDoorZ41
import Derived.Test.YtepoepmndckmaaaGreatDoorZ40
import Derived.Test.YtepoepmndckmaaaGreatDoorZ39
import Derived.Deep.DeepCutAuto
namespace Go.Proofs.YtepoepmndckmaaaGreatDoor.U.cacheLeast
open Go.ChangeShapes Go.WideShapes Go.ChangeAt Go.RowKit Go.Maps
open Go.Proofs.YtepoepmndckmaaaGreatDoor.Kc (En Cg Cav CQ LeastI rowI rowB keptL)
open Go.Proofs.YtepoepmndckmaaaGreatDoor.U.cacheNobody (laidBoth tabs_of_laid)

set_option maxRecDepth 100000 in
set_option maxHeartbeats 8000000 in
theorem walk {w : World} (mo : Int) (hm1 : -9223372036854775808 ≤ mo) (hm2 : mo ≤ 9223372036854775807) (A : Option Addr) (m c : Nat) (f : Nat → Int) (hl : Go.Proofs.YtepoepmndckmaaaGreatDoor.Kc.Ints10 w A m f) (hA : All10 w) :
    Calls Tryz.prog 7 #[.int .i64 mo, .slice A m c] w fun e w' => e = .returned (.bool true) ∧ Below w.heap.size w w' := by
  obtain ⟨n, h1, h6, hn⟩ := Go.Proofs.YtepoepmndckmaaaGreatDoor.Kc.most_of mo 6 (by decide) (by decide)
  have HBE := Lib.hid (begin10 hA n h1 (by omega))
  have HA := Lib.hid hA
  have HF := Lib.hid hl
  have HN := Lib.hid hn
  have hmm : m ≤ 9223372036854775807 := hl.1
  have hmkI : ∀ W : World, (Instr.makeSlice 54 (.int .i64 12) (.int .i64 12)).run Tryz.prog W = .ok (.slice (some ⟨W.heap.size, 0, none⟩) 12 12) (W.alloc (.cells #[.int .i64 0, .int .i64 0, .int .i64 0, .int .i64 0, .int .i64 0, .int .i64 0, .int .i64 0, .int .i64 0, .int .i64 0, .int .i64 0, .int .i64 0, .int .i64 0] 3)) := fun _ => by kernel_rfl
  have hmkB : ∀ W : World, (Instr.makeSlice 58 (.int .i64 12) (.int .i64 12)).run Tryz.prog W = .ok (.slice (some ⟨W.heap.size, 0, none⟩) 12 12) (W.alloc (.cells #[.bool false, .bool false, .bool false, .bool false, .bool false, .bool false, .bool false, .bool false, .bool false, .bool false, .bool false, .bool false] 4)) := fun _ => by kernel_rfl
  clear hA hl hn
  go_enter Tryz.func7, Tryz.ntmps7
  go_upto_if 23 with fail
  go_cut [5] (fun s5 wx => s5 = .int .i64 (n : Int) ∧ wx = w)
  case first =>
    rcases HN.out with ⟨e1, e2⟩ | ⟨e1, e2⟩
    · subst e2
      have q : decide (mo < 0) = true := decide_eq_true e1
      go_wp2_with fail
      all_goals (go_meet; exact ⟨rfl, rfl⟩)
    · have q : decide (mo < 0) = false := decide_eq_false (by omega)
      rw [e2]
      go_wp2_with fail
      all_goals (go_meet; exact ⟨rfl, rfl⟩)
  case rest =>
    obtain ⟨rfl, rfl⟩ := hcut
    clear HN
    go_wp2_with fail
    refine HBE.out.mono ?_
    rintro e w2 ⟨J, x0, sp, q, xr, g, hG, hN, rfl, hcont, hB, hW, hbeg⟩
    have HP0 := Lib.hid hbeg.cq
    have HBW := Lib.hid (And.intro hB hW)
    have HL := Lib.hid (lives10 (HA.out.over (cq_below hbeg.cq hB hW)))
    have hV := ok_hv hG hN
    have hVn : (Hv J ar10 hG hN).n = 12 := rfl
    clear hbeg hcont hB hW HBE
    go_wp2_with fail
    refine HL.out.mono ?_
    rintro e w3 ⟨rfl, hb3⟩
    have hq3 := HP0.out.grown hb3
    have hq4 : CQ (Hv J ar10 hG hN) (w3.alloc (.cells #[.int .i64 0, .int .i64 0, .int .i64 0, .int .i64 0, .int .i64 0, .int .i64 0, .int .i64 0, .int .i64 0, .int .i64 0, .int .i64 0, .int .i64 0, .int .i64 0] 3)) g.c n [] x0 390000 [(w3.heap.size, rowI (List.replicate 12 0)), (q, pairO g.c xr)] := hq3.add ((Below.refl _ _).alloc (Nat.le_refl _) _) (Nat.le_refl _) (heap_alloc_new w3 _)
    have hqlt : q < w3.heap.size := lt_of_block hq3.at_
    have HQ4 : Hid (∃ l x last, CQ (Hv J ar10 hG hN) (w3.alloc (.cells #[.int .i64 0, .int .i64 0, .int .i64 0, .int .i64 0, .int .i64 0, .int .i64 0, .int .i64 0, .int .i64 0, .int .i64 0, .int .i64 0, .int .i64 0, .int .i64 0] 3)) g.c n l x (390000 - 2 * 0) [(w3.heap.size, rowI last), (q, pairO g.c xr)] ∧ LeastI n l last 0) := Lib.hid ⟨[], x0, _, hq4, LeastI.none⟩
    have hgl : w3.heap.size = w3.heap.size := rfl
    clear hb3 HL HP0 hq3 hq4 HA hgl
    go_wp2
    go_loopw [10] (fun s wr => ∃ j : Nat, j ≤ 200 ∧ s = .int .i64 j ∧ Hid (∃ l x last, CQ (Hv J ar10 hG hN) wr g.c n l x (390000 - 2 * j) [(w3.heap.size, rowI last), (q, pairO g.c xr)] ∧ LeastI n l last j)) (fun s _ => 200 - (intOf s).toNat)
    case atStart => exact ⟨0, Nat.zero_le _, rfl, HQ4⟩
    case round =>
      obtain ⟨j, hj, rfl, hrel⟩ := hrel
      clear HQ4
      obtain ⟨l, x, last, hcq, hI⟩ := hrel.out
      by_cases hlt : j < m ∧ j < 200
      · obtain ⟨hlt, hlt2⟩ := hlt
        have q3 : (j : Int) < (m : Int) := by omega
        have q4 : (j : Int) < 200 := by omega
        obtain ⟨b0, off0, rfl, hbl, hop⟩ := HF.out.2 (by omega)
        have d0 : wr.cell? ⟨b0, off0 + j, none⟩ = some (.int .i64 (f j)) := ((cq_below hcq HBW.out.1 HBW.out.2).cell (p := ⟨b0, off0 + j, none⟩) hbl).trans (hop j hlt).1
        generalize f j = z at *
        obtain ⟨kk, hkk, hz⟩ := Go.Proofs.YtepoepmndckmaaaGreatDoor.Kc.tmod12 z
        have HZ := Lib.hid hz
        have HC := Lib.hid (And.intro hcq hI)
        clear hcq hI hrel hop hz
        go_upto_if 53 with fail
        go_cut [11] (fun s11 wx => s11 = .int .i64 (kk : Int) ∧ wx = wr)
        case first =>
          rcases HZ.out with ⟨e1, e2, e3⟩ | ⟨e1, e2⟩
          · have q : decide (z.tmod 12 < 0) = true := decide_eq_true e1
            generalize z.tmod 12 = t at *
            have HE2 := Lib.hid e2
            clear e2
            go_wp2_with fail
            all_goals (go_meet; exact ⟨by rw [← HE2.out], rfl⟩)
          · rw [e2] at e1
            rw [e2]
            have q : decide ((kk : Int) < 0) = false := decide_eq_false e1
            go_wp2_with fail
            all_goals (go_meet; exact ⟨rfl, rfl⟩)
        case rest =>
          obtain ⟨rfl, rfl⟩ := hcut
          clear HZ d0
          obtain ⟨hcq, hI⟩ := HC.out
          have c0 := pair_cell hcq.at2
          have HI := Lib.hid hI
          have hrow : last.length = 12 := hI.row
          have HG := Lib.hid ((hcq.less (k' := 390000 - 2 * (j + 1) + 2) (by omega)).get (kk : Int))
          clear hcq hI HC
          go_wp2_with fail
          refine HG.out.mono ?_
          rintro r w4 ⟨y, A4, len4, cap4, X4, l4, x4, rfl, hget, hq4, _⟩
          obtain ⟨rfl, hI4, hin4⟩ := HI.out.get hV hVn h1 hkk hget
          have g0 := hq4.at_
          have c4 := pair_cell hq4.at2
          have gc := Go.Proofs.YtepoepmndckmaaaGreatDoor.Kc.rowI_cell g0 (k := kk) (by rw [hrow]; exact hkk)
          have gf := Go.Proofs.YtepoepmndckmaaaGreatDoor.Kc.rowI_free (k := kk) g0
          have hne4 : q ≠ w3.heap.size := Nat.ne_of_lt hqlt
          have hq5 := hq4.poke (o' := rowI (last.set kk ((j : Int) + 1))) (fun z hz => by rw [List.mem_singleton.1 hz]; exact hne4) (Go.Proofs.YtepoepmndckmaaaGreatDoor.Kc.set_only (k := kk) (.int .i64 ((j : Int) + 1))) (Go.Proofs.YtepoepmndckmaaaGreatDoor.Kc.rowI_set g0 _)
          have c5 := pair_cell hq5.at2
          have HB5 := Lib.hid hq5.blocks
          have HC5 := Lib.hid (And.intro hq5 (And.intro hI4 hin4))
          generalize hv4 : last.getD kk 0 = v4 at *
          have hj1 : (j : Int) + 1 ≤ 200 := by omega
          clear hget HG hq4 hq5 hI4 hin4 g0 c0 hv4
          go_wp2_with fail
          refine HB5.out.mono ?_
          rintro r w6 ⟨v6, rfl, hown6, hb6⟩
          obtain ⟨hq5, hI4, hin4⟩ := HC5.out
          have hlen4 : 0 < l4.length := by obtain ⟨e, he, _⟩ := hin4; exact List.length_pos_of_mem he
          obtain ⟨b8, c8, o8, rfl, hlo8, ho8, hrd8⟩ := Go.Proofs.YtepoepmndckmaaaGreatDoor.Kc.own_block hown6 hlen4
          have hq6 := hq5.add (a := b8) hb6 hlo8 ho8
          have hq7 : CQ (Hv J ar10 hG hN) (w6.alloc (.cells #[.bool false, .bool false, .bool false, .bool false, .bool false, .bool false, .bool false, .bool false, .bool false, .bool false, .bool false, .bool false] 4)) g.c n l4 x4 (390000 - 2 * (j + 1)) [(w6.heap.size, rowB (keptL l4 0)), (b8, o8), (w3.heap.size, rowI (last.set kk ((j : Int) + 1))), (q, pairO g.c xr)] := hq6.add ((Below.refl _ _).alloc (Nat.le_refl _) _) (Nat.le_refl _) (by rw [Go.Proofs.YtepoepmndckmaaaGreatDoor.Kc.keptL_zero]; exact heap_alloc_new w6 _)
          have HNE : Hid (∀ z ∈ [(b8, o8), (w3.heap.size, rowI (last.set kk ((j : Int) + 1))), (q, pairO g.c xr)], z.1 ≠ w6.heap.size) := Lib.hid fun z hz e => by
            have := lt_of_block (hq6.of hz)
            omega
          have HQ7 : Hid (CQ (Hv J ar10 hG hN) (w6.alloc (.cells #[.bool false, .bool false, .bool false, .bool false, .bool false, .bool false, .bool false, .bool false, .bool false, .bool false, .bool false, .bool false] 4)) g.c n l4 x4 (390000 - 2 * (j + 1)) [(w6.heap.size, rowB (keptL l4 0)), (b8, o8), (w3.heap.size, rowI (last.set kk ((j : Int) + 1))), (q, pairO g.c xr)]) := Lib.hid hq7
          have HRD := Lib.hid hrd8
          have hln : l4.length ≤ n := hI4.len
          have HI4 := Lib.hid (And.intro hI4 hin4)
          clear hq5 hI4 hin4 hq6 hq7 hrd8 ho8 hown6 hb6 hlo8 HB5 HC5 c4 c5 gc gf HI
          generalize hl4 : l4.length = n4 at *
          have HL4 := Lib.hid hl4
          clear hl4
          go_wp2
          go_loopw [16] (fun s wx => ∃ t : Nat, t ≤ n4 ∧ s = .int .i64 t ∧ Hid (CQ (Hv J ar10 hG hN) wx g.c n l4 x4 (390000 - 2 * (j + 1)) [(w6.heap.size, rowB (keptL l4 t)), (b8, o8), (w3.heap.size, rowI (last.set kk ((j : Int) + 1))), (q, pairO g.c xr)])) (fun s _ => n4 - (intOf s).toNat)
          case atStart => exact ⟨0, Nat.zero_le _, rfl, HQ7⟩
          case round =>
            obtain ⟨t, ht, rfl, hrel⟩ := hrel
            clear HQ7
            have hcx := hrel.out
            clear hrel
            by_cases hlt3 : t < n4
            · have hlt4 : t < l4.length := by rw [HL4.out]; exact hlt3
              have hk12 : l4[t].k < 12 := HI4.out.1.lows _ (List.getElem_mem hlt4)
              have d8 : wr.cell? ⟨b8, t, none⟩ = some (.int .i64 ((l4[t].k : Nat) : Int)) := HRD.out wr hcx.at2 t _ (by unfold Go.Proofs.YtepoepmndckmaaaGreatDoor.Kc.keysV; rw [List.getElem?_map, List.getElem?_eq_getElem hlt4]; rfl)
              have HSU := Lib.hid (Go.Proofs.YtepoepmndckmaaaGreatDoor.Kc.keptL_succ hlt4)
              have gb := Go.Proofs.YtepoepmndckmaaaGreatDoor.Kc.rowB_cell hcx.at_ (k := l4[t].k) (by rw [Go.Proofs.YtepoepmndckmaaaGreatDoor.Kc.keptL_length]; exact hk12)
              have gf := Go.Proofs.YtepoepmndckmaaaGreatDoor.Kc.rowB_free (k := l4[t].k) hcx.at_
              generalize l4[t].k = kt at *
              generalize (keptL l4 t).getD kt false = vt at *
              have HQ8 : Hid (CQ (Hv J ar10 hG hN) (wr.setCell ⟨w6.heap.size, kt, none⟩ (.bool true)) g.c n l4 x4 (390000 - 2 * (j + 1)) [(w6.heap.size, rowB (keptL l4 (t + 1))), (b8, o8), (w3.heap.size, rowI (last.set kk ((j : Int) + 1))), (q, pairO g.c xr)]) := Lib.hid (by
                rw [HSU.out]
                exact hcx.poke HNE.out (Go.Proofs.YtepoepmndckmaaaGreatDoor.Kc.set_only _) (Go.Proofs.YtepoepmndckmaaaGreatDoor.Kc.rowB_set hcx.at_ _))
              clear hcx hlt4
              go_wp2
              go_roundw
              case rel => exact ⟨t + 1, by omega, by go_num, HQ8⟩
              case measure => simp [intOf]; omega
            · obtain rfl : t = n4 := by omega
              rw [← HL4.out] at hcx
              have gk : wr.cell? ⟨w6.heap.size, kk, none⟩ = some (.bool true) := by
                rw [Go.Proofs.YtepoepmndckmaaaGreatDoor.Kc.rowB_cell hcx.at_ (k := kk) (by rw [Go.Proofs.YtepoepmndckmaaaGreatDoor.Kc.keptL_length]; exact hkk), Go.Proofs.YtepoepmndckmaaaGreatDoor.Kc.keptL_all hkk]
                congr 2
                rw [List.any_eq_true]
                obtain ⟨e, he, hek⟩ := HI4.out.2
                exact ⟨e, he, by simp [hek]⟩
              have qn : decide (n < t) = false := decide_eq_false (by omega)
              have qn2 : (t : Int) ≤ (n : Int) := by omega
              have HQ9 : Hid (CQ (Hv J ar10 hG hN) wr g.c n l4 x4 (390000 - 2 * (j + 1)) [(w6.heap.size, rowB (keptL l4 l4.length)), (b8, o8), (w3.heap.size, rowI (last.set kk ((j : Int) + 1))), (q, pairO g.c xr)]) := Lib.hid hcx
              clear hcx
              go_wp2
              go_loopw [17] (fun s wx => ∃ a : Nat, a ≤ 12 ∧ s = .int .i64 a ∧ Hid (CQ (Hv J ar10 hG hN) wx g.c n l4 x4 (390000 - 2 * (j + 1)) [(w6.heap.size, rowB (keptL l4 l4.length)), (b8, o8), (w3.heap.size, rowI (last.set kk ((j : Int) + 1))), (q, pairO g.c xr)])) (fun s _ => 12 - (intOf s).toNat)
              case atStart => exact ⟨0, Nat.zero_le _, rfl, HQ9⟩
              case round =>
                obtain ⟨a, ha, rfl, hrel⟩ := hrel
                clear HQ9 gk
                have HQA := Lib.hid hrel.out
                clear hrel
                by_cases hla : a < 12
                · have qa : (a : Int) < 12 := by omega
                  go_wp2
                  go_loopw [18] (fun s wx => ∃ b : Nat, b ≤ 12 ∧ s = .int .i64 b ∧ Hid (CQ (Hv J ar10 hG hN) wx g.c n l4 x4 (390000 - 2 * (j + 1)) [(w6.heap.size, rowB (keptL l4 l4.length)), (b8, o8), (w3.heap.size, rowI (last.set kk ((j : Int) + 1))), (q, pairO g.c xr)])) (fun s _ => 12 - (intOf s).toNat)
                  case atStart => exact ⟨0, Nat.zero_le _, rfl, HQA⟩
                  case round =>
                    obtain ⟨b, hb, rfl, hrel⟩ := hrel
                    have hcy := hrel.out
                    clear hrel HQA
                    by_cases hlb : b < 12
                    · have qb : (b : Int) < 12 := by omega
                      have ga := Go.Proofs.YtepoepmndckmaaaGreatDoor.Kc.rowB_cell hcy.at_ (k := a) (by rw [Go.Proofs.YtepoepmndckmaaaGreatDoor.Kc.keptL_length]; exact hla)
                      have gb := Go.Proofs.YtepoepmndckmaaaGreatDoor.Kc.rowB_cell hcy.at_ (k := b) (by rw [Go.Proofs.YtepoepmndckmaaaGreatDoor.Kc.keptL_length]; exact hlb)
                      rw [Go.Proofs.YtepoepmndckmaaaGreatDoor.Kc.keptL_all hla] at ga
                      rw [Go.Proofs.YtepoepmndckmaaaGreatDoor.Kc.keptL_all hlb] at gb
                      have hlast : (last.set kk ((j : Int) + 1)).length = 12 := HI4.out.1.row
                      have la := Go.Proofs.YtepoepmndckmaaaGreatDoor.Kc.rowI_cell hcy.tail.at2 (k := a) (by rw [hlast]; exact hla)
                      have lb := Go.Proofs.YtepoepmndckmaaaGreatDoor.Kc.rowI_cell hcy.tail.at2 (k := b) (by rw [hlast]; exact hlb)
                      have HLE : Hid ((l4.any fun e => decide (e.k = a)) = true → (l4.any fun e => decide (e.k = b)) = false → (last.set kk ((j : Int) + 1)).getD b 0 ≤ (last.set kk ((j : Int) + 1)).getD a 0) := Lib.hid fun e1 e2 => by
                        obtain ⟨e, he, hk⟩ := List.any_eq_true.1 e1
                        have hk : e.k = a := by simpa using hk
                        rw [← hk]
                        exact HI4.out.1.out b hlb (fun z hz q => by
                          have := List.any_eq_false.1 e2 z hz
                          simp [q] at this) e he
                      have HQB : Hid (∀ N, CQ (Hv J ar10 hG hN) (wr.drewN N) g.c n l4 x4 (390000 - 2 * (j + 1)) [(w6.heap.size, rowB (keptL l4 l4.length)), (b8, o8), (w3.heap.size, rowI (last.set kk ((j : Int) + 1))), (q, pairO g.c xr)]) := Lib.hid fun N => hcy.grown (drawn (Below.refl _ _) N)
                      generalize (last.set kk ((j : Int) + 1)).getD a 0 = va at *
                      generalize (last.set kk ((j : Int) + 1)).getD b 0 = vb at *
                      generalize (l4.any fun e => decide (e.k = a)) = ka at *
                      generalize (l4.any fun e => decide (e.k = b)) = kb at *
                      clear hcy hlast
                      cases ka with
                      | false =>
                        go_wp2_with fail
                        go_quiet (fail)
                        go_wp2_with fail
                        go_roundw
                        case rel => first | exact ⟨b + 1, by omega, by go_num, Lib.hid (HQB.out nq)⟩ | ((repeat apply Exists.intro); exact ⟨⟨b + 1, by omega, by go_num, Lib.hid (HQB.out nq)⟩, rfl⟩)
                        case measure => simp [intOf]; omega
                      | true =>
                        cases kb with
                        | true =>
                          go_wp2_with fail
                          go_quiet (fail)
                          go_wp2_with fail
                          go_roundw
                          case rel => first | exact ⟨b + 1, by omega, by go_num, Lib.hid (HQB.out nq)⟩ | ((repeat apply Exists.intro); exact ⟨⟨b + 1, by omega, by go_num, Lib.hid (HQB.out nq)⟩, rfl⟩)
                          case measure => simp [intOf]; omega
                        | false =>
                          have hle := HLE.out rfl rfl
                          have qd : decide (va < vb) = false := decide_eq_false (by omega)
                          go_wp2_with fail
                          go_quiet (fail)
                          go_wp2_with fail
                          go_roundw
                          case rel => first | exact ⟨b + 1, by omega, by go_num, Lib.hid (HQB.out nq)⟩ | ((repeat apply Exists.intro); exact ⟨⟨b + 1, by omega, by go_num, Lib.hid (HQB.out nq)⟩, rfl⟩)
                          case measure => simp [intOf]; omega
                    · obtain rfl : b = 12 := by omega
                      have HQC := Lib.hid hcy
                      clear hcy
                      go_wp2
                      go_roundw
                      case rel => exact ⟨a + 1, by omega, by go_num, HQC⟩
                      case measure => simp [intOf]; omega
                · obtain rfl : a = 12 := by omega
                  go_wp2
                  go_roundw
                  case rel => exact ⟨j + 1, by omega, by go_num, Lib.hid ⟨l4, x4, _, HQA.out.tail.tail, HI4.out.1⟩⟩
                  case measure => simp [intOf]; omega
      · have hjm : ¬ (j < m ∧ j < 200) := hlt
        have HBL := Lib.hid (cq_below hcq HBW.out.1 HBW.out.2)
        clear hcq hI hrel
        by_cases hjm2 : j < m
        · have q4 : ¬ (j : Int) < 200 := by omega
          go_wp2
          go_ret
          exact ⟨rfl, HBL.out⟩
        · have q3 : ¬ (j : Int) < (m : Int) := by omega
          go_wp2
          go_ret
          exact ⟨rfl, HBL.out⟩
set_option maxRecDepth 100000 in
/-- WHAT THE WALK GIVES, FOR EVERY ARGUMENT AND EVERY WORLD THAT HOLDS THE TABLES. -/
theorem contract (H : Type) (enc : TypeId × Value → H) (W : World) (base : Nat) (args : Array Value) (ds gs : List (DataW H)) (before : List MemPlace)
    (hval : ∀ (j : Nat) t v, Tryz.f7.params[j]? = some t → args[j]? = some v → Value.okWide Tryz.prog W .any base t v)
    (hW : DataW.Whole enc Tryz.prog Tryz.f7.params.toList Rows.cacheLeastSpec.vars false W args.toList ds gs before)
    (hsz : (DataW.weightsEach Tryz.prog (Tryz.f7.params.toList ++ (OpenSpec.ofChange Rows.cacheLeastSpec).bare.plain.varTypes Tryz.prog) (ds ++ gs)).all (· ≤ reachBytes) = true) (hL : laidMetH Tryz.prog laidBoth W) :
    Calls Tryz.prog 7 args W fun e W' => ∃ v, e = .returned v ∧ Rows.cacheLeastSpec.post enc Tryz.prog Tryz.f7 false true false false W args v W' := by
  have hW' := hW
  obtain ⟨p, q, hA0, hV, rfl, hfz, hnd⟩ := hW
  have hA : DataW.TrodAll enc Tryz.prog W 0 (fun _ => true) true Tryz.f7.params.toList args.toList ds p := hA0
  have hsz2 : (DataW.weightsEach Tryz.prog (Tryz.f7.params.toList ++ []) (ds ++ gs)).all (· ≤ reachBytes) = true := hsz
  rw [Tryz.params7] at hA hval hsz2
  obtain ⟨v0, vs0, d0, ds0, p0, q0, hargs, rfl, rfl, h0, r0⟩ := trodAll_cons hA
  obtain ⟨v1, vs1, d1, ds1, p1, q1, rfl, rfl, rfl, h1, r1⟩ := trodAll_cons r0
  obtain ⟨rfl, rfl, rfl⟩ := trodAll_nil r1
  obtain rfl : args = #[v0, v1] := by cases args; simp_all
  obtain ⟨rfl, rfl⟩ := trodVars_none hV
  obtain ⟨a0, rfl, rfl, rfl, w0⟩ := open_int Tryz.underlying3 (hval 0 3 v0 rfl rfl) h0
  have bd0 := bounds_i64 w0
  obtain ⟨A1, n1, c1, rfl⟩ := okWide_slice Tryz.underlying54 (hval 1 54 v1 rfl rfl)
  have k1 := h1
  have lt1 : ∀ x ∈ p1, x.block < W.heap.size := by obtain ⟨m, hm⟩ := k1; exact DataW.trod_lt m _ _ _ hm
  obtain ⟨f1, hl1⟩ : ∃ f, Kc.Ints10 W A1 n1 f := by obtain ⟨fuel, hf⟩ := h1; exact Kc.ints10_in (by simpa [Value.cells] using hf)
  have hT := tabs_of_laid hL
  refine (walk a0 bd0.1 bd0.2 A1 n1 c1 f1 hl1 hT).mono fun e W' ⟨he, bel⟩ => ?_
  subst he
  exact ⟨_, rfl, _, _, _, [], _, [], hW', trodAll_mk1 (shut_bool Tryz.underlying4 _), (trodAll_cons_mk (shut_int Tryz.underlying3 w0) (trodAll_cons_mk (Below.trod laidOut (by kernel_rfl) (of_decide_eq_true (by kernel_rfl)) k1 bel lt1) trodAll_mk0)), rfl, bel.frame _, fun h => by cases h⟩

theorem laid_met (os : Os) : laidMetH Tryz.prog laidBoth ((laidWorld os).forCall (fun _ _ => 0) ⟨#[], #[.int .i64 0, .slice none 0 0], []⟩).memory :=
  laidMetH_of_parts3 (fuel := 8) (laidMet_of_run' 8 (by kernel_rfl) (by kernel_rfl)) (by kernel_rfl) (by kernel_rfl)
theorem reads (os : Os) {H : Type} (enc : TypeId × Value → H) : ∃ places, DataW.whole enc Tryz.prog ((laidWorld os).forCall (fun _ _ => 0) ⟨#[], #[.int .i64 0, .slice none 0 0], []⟩).memory Tryz.f7.params.toList Rows.cacheLeastSpec.vars false (#[.int .i64 0, .slice none 0 0] : Array Value).toList 8 = some ([.lit (.int .i64 0), .nil], [], places) :=
  ⟨[], by kernel_rfl⟩
set_option maxRecDepth 100000 in
theorem lifted (os : Os) (started : os.Started) (H : Type) (enc : TypeId × Value → H) (F : Stop.Interp) :
    ReturnsInHanded {} Tryz.checked os 7 .any ((OpenSpec.ofChange Rows.cacheLeastSpec).preRow enc Tryz.prog Tryz.f7 Rows.cacheLeastRow.domain false Rows.cacheLeastRow.laid) (((OpenSpec.ofChange Rows.cacheLeastSpec).at F).post enc Tryz.prog Tryz.f7 false true false false) := by
  obtain ⟨places, hx⟩ := reads os enc
  refine returnsInHanded_of_row (C := Tryz.checked) (s := (OpenSpec.ofChange Rows.cacheLeastSpec)) own started (by kernel_rfl) Tryz.func7
    (witness_row_at (enc := enc) (C := Tryz.checked) false (laidWorld os) #[.int .i64 0, .slice none 0 0] rfl (by kernel_rfl) (by kernel_rfl) (by kernel_rfl)
      (OpenSpec.preRow_of_cond 8 hx (by kernel_rfl) (fun k hk => by cases hk) (by kernel_rfl) (laid_met os))) ?_
  intro W base args ds gs before hval hW _ hcond hsz hL _ _
  exact contract H enc W base args ds gs before hval hW hsz hL
theorem said : Rows.CacheLeastSaid :=
  OpenClaim.holds_of_cond 7 Tryz.f7 rfl rfl rfl rfl rfl rfl rfl ⟨rfl, rfl, rfl, rfl, rfl⟩ rfl rfl rfl rfl rfl (by kernel_rfl) Tryz.func7 (by kernel_rfl)
    (of_decide_eq_true (by kernel_rfl)) (by unfold Func.isWrapper; first | (rw [if_pos (by decide +kernel)]; kernel_rfl) | (rw [if_neg (by decide +kernel)]; exact ⟨rfl, rfl⟩))
    (fun os started H enc _ F => by rw [OpenClaim.pre_eq_preRow]; exact lifted os started H enc F)
theorem plain (f : FuncId) (fn : Func) (hf : Tryz.pinned.checked.prog.funcNamed "ashlar/ashlarlaw10.CacheLeast" = some f) (hfn : Tryz.pinned.checked.prog.funcs[f]? = some fn) :
    false = Tryz.pinned.checked.prog.looks [] ∧ ∀ (j : Nat) t, fn.params[j]? = some t → Tryz.pinned.checked.prog.wantsStandIn t = false := by
  obtain rfl : f = 7 := Option.some.inj ((show Tryz.prog.funcNamed "ashlar/ashlarlaw10.CacheLeast" = some 7 by kernel_rfl).symm.trans hf) |>.symm
  obtain rfl : fn = Tryz.f7 := (Option.some.inj (Tryz.func7.symm.trans hfn)).symm
  refine ⟨by kernel_rfl, fun j t ht => ?_⟩
  rw [Tryz.params7] at ht
  have hm : t ∈ [3, 54] := by simpa using Array.mem_of_getElem? ht
  have hall : ([3, 54].all fun u => !Tryz.prog.wantsStandIn u) = true := by kernel_rfl
  exact (show Tryz.prog.wantsStandIn t = false by simpa using List.all_eq_true.1 hall t hm)

/-- ████ THE CARD ████ -/
theorem card : Rows.CacheLeastCardSaid :=
  Claim7.holds_tied_plain_at .later [] _ _ _ _ said (fun _ h => by cases h) (by kernel_rfl) (fun _ h => by cases h) cacheLeast_row_tie rfl ⟨rfl, rfl⟩ (by kernel_rfl) rfl plain (by kernel_rfl)
end Go.Proofs.YtepoepmndckmaaaGreatDoor.U.cacheLeast
