/-
  RaidBeyond is true: whatever dies, also beyond all that may be lacking: a read tells what was written to that block once, or an error, and each call ends within its number of reads, writes and flushes.
  Conditions: the package-level variables start as the program's text lays them.
-/
import Derived.Test.YtgebkmpmnjhceaaGreatDoorZ36
import Derived.Test.YtgebkmpmnjhceaaGreatDoorZ35
import Derived.Test.YtgebkmpmnjhceaaGreatDoorZ34
import Derived.Test.YtgebkmpmnjhceaaGreatDoorZ32
namespace Go.Proofs.YtgebkmpmnjhceaaGreatDoor.U.raidBeyond
open Go.ChangeShapes Go.WideShapes Go.ChangeAt Go.RowKit Go.Maps
abbrev laidBoth : List (String × DataW Unit) := [("ashlar/octets.lowRests", Rows.laid_ashlar_octets_lowRests), ("ashlar/octets.highRests", Rows.laid_ashlar_octets_highRests), ("ashlar/ppl.fields", Rows.laid_ashlar_ppl_fields), ("ashlar/super.widths", Rows.laid_ashlar_super_widths)]
theorem tabs_of_laid {W : World} (h : laidMetH Tryz.prog laidBoth W) : All4 W := by
  rw [MakeChecks.laidMetH_plain _ _ _ (by kernel_rfl)] at h
  obtain ⟨ps, ⟨g0, t0, cs0, f0, p0, q0, hg0, ht0, hv0, hd0, ⟨g1, t1, cs1, f1, p1, q1, hg1, ht1, hv1, hd1, ⟨g2, t2, cs2, f2, p2, q2, hg2, ht2, hv2, hd2, ⟨g3, t3, cs3, f3, p3, q3, hg3, ht3, hv3, hd3, _, _⟩, _⟩, _⟩, _⟩, _, _⟩ := h
  obtain rfl := Option.some.inj (gLow.symm.trans hg0)
  obtain rfl := Option.some.inj (gHigh.symm.trans hg1)
  obtain rfl := Option.some.inj (gFld.symm.trans hg2)
  obtain rfl := Option.some.inj (gWid.symm.trans hg3)
  obtain rfl := Option.some.inj (gWidType.symm.trans ht3)
  obtain rfl := Option.some.inj (gLowType.symm.trans ht0)
  obtain rfl := Option.some.inj (gHighType.symm.trans ht1)
  obtain rfl := Option.some.inj (gFldType.symm.trans ht2)
  have e0 : cs0.toList = (Nums.lowT.map fun (x : Nat) => (x : Int)).map fun z => Value.int .u32 z := Lib.cells_of_tab Tryz.underlying200 Tryz.underlying151 cellsU32 cells16 hd0
  have e1 : cs1.toList = (Nums.highT.map fun (x : Nat) => (x : Int)).map fun z => Value.int .u32 z := Lib.cells_of_tab Tryz.underlying200 Tryz.underlying151 cellsU32 cells16 hd1
  have e2 := flds_val hd2
  have e3 : cs3.toList = widZ.map fun z => Value.int .i64 z := Lib.cells_of_tab Tryz.underlying208 Tryz.underlying3 cellsInt cells8 hd3
  have wid0 : ∀ i : Fin 8, widZ[i.val]? = some (((Go.Proofs.YtgebkmpmnjhceaaGreatDoor.S.widL.getD i.val 0 : Nat) : Int)) := by decide
  have low : ∀ i : Fin 16, ((Nums.lowT.map fun (x : Nat) => (x : Int)).map fun z => Value.int .u32 z)[i.val]? = some (.int .u32 ((Nums.low i.val : Nat) : Int)) := by
    intro i
    have : i.val < Nums.lowT.length := i.isLt
    simp [Nums.low, List.getD, List.getElem?_eq_getElem this]
  have high : ∀ i : Fin 16, ((Nums.highT.map fun (x : Nat) => (x : Int)).map fun z => Value.int .u32 z)[i.val]? = some (.int .u32 ((Nums.high i.val : Nat) : Int)) := by
    intro i
    have : i.val < Nums.highT.length := i.isLt
    simp [Nums.high, List.getD, List.getElem?_eq_getElem this]
  refine ⟨⟨fun i hi => ?_, fun i hi => ?_⟩, ⟨fun i hi => ?_, fun i hi => ?_⟩, fun i hi => ?_⟩
  · have h1 := World.var?_cell hg0 hv0 i
    have h2 := low ⟨i, hi⟩
    rw [← e0] at h2
    rw [h1]
    simpa using h2
  · have h1 := World.var?_cell hg1 hv1 i
    have h2 := high ⟨i, hi⟩
    rw [← e1] at h2
    rw [h1]
    simpa using h2
  · rw [World.var?_cell hg2 hv2 (i * 2)]
    have h2 : cs2.toList[i * 2]? = some (.int .i64 ((4 + i * 4 : Nat) : Int)) := by
      rw [e2]
      obtain rfl | rfl | rfl : i = 0 ∨ i = 1 ∨ i = 2 := by omega
      all_goals rfl
    simpa using h2
  · rw [World.var?_cell hg2 hv2 (i * 2 + 1)]
    have h2 : cs2.toList[i * 2 + 1]? = some (.int .u64 ((cntL.getD i 0 : Nat) : Int)) := by
      rw [e2]
      obtain rfl | rfl | rfl : i = 0 ∨ i = 1 ∨ i = 2 := by omega
      all_goals rfl
    simpa using h2
  · have h1 := World.var?_cell hg3 hv3 i
    have h2 : (widZ.map fun z => Value.int .i64 z)[i]? = some (.int .i64 ((Go.Proofs.YtgebkmpmnjhceaaGreatDoor.S.widL.getD i 0 : Nat) : Int)) := by rw [List.getElem?_map, wid0 ⟨i, hi⟩]; rfl
    rw [← e3] at h2
    rw [h1]
    simpa using h2
set_option maxRecDepth 100000 in
set_option maxHeartbeats 16000000 in
theorem walk {w : World} (a : Int) (_ : -9223372036854775808 ≤ a) (_ : a ≤ 9223372036854775807) (A : Option Addr) (n cp : Nat) (f : Nat → Sh.Op8) (hl : Sh.Ops8 w A n f) (hT : All4 w) :
    Calls Tryz.prog 5 #[.int .i64 a, .slice A n cp] w fun e w' => e = .returned (.bool true) ∧ Below w.heap.size w w' := by
  have HTB := Lib.hid hT.tbl
  have HA := Lib.hid hT
  have hnn := hl.1
  have HL := Lib.hid hl
  have HBG := Lib.hid (begin_full (Below.refl w.heap.size w) (Nat.le_refl _) HTB.out a 3 2)
  clear hl hT
  go_enter Tryz.func5, Tryz.ntmps5
  go_wp2_with fail
  refine HBG.out.mono ?_
  rintro e w1 ⟨r, p, M, St, L, rfl, ⟨J, S, o, F, hJB, hJW, rfl, hR, hbn, m3, m16, s1, s6, _, _, h90⟩, hL, hSt⟩
  obtain rfl : L = 3 := by omega
  obtain ⟨hs, hy⟩ := begun_bey hR hbn m3 m16 s1 s6
  have hbel := hR.vr.bel
  rw [hJB, hJW] at hbel
  have HLI := Lib.hid (lives_true w1 (HA.out.over hbel).tabs (HA.out.over hbel).fld (HA.out.over hbel).wid)
  have hpos : 0 < St * (M - 1) := Nat.mul_pos (by omega) (by omega)
  obtain ⟨A0, hA0⟩ : ∃ A0, arOf (newSaid M St 3) (M + 1) 3 M St = A0 := ⟨_, rfl⟩
  have hM : A0.M = M := by rw [← hA0]; rfl
  have hNN : A0.St * (A0.M - 1) = St * (M - 1) := by rw [← hA0]; rfl
  rw [hA0] at hR hs hy
  obtain ⟨N, hN⟩ : ∃ N, A0.St * (A0.M - 1) = N := ⟨_, rfl⟩
  have n1 : 0 < N := by omega
  have n90 : N ≤ 90 := by omega
  have HS := Lib.hid hs
  have HJ := Lib.hid (And.intro hJB hJW)
  have HTJ : Hid (Tb4 J.B J.W) := Lib.hid (by rw [hJB, hJW]; exact HTB.out)
  have HM := Lib.hid (And.intro hM (And.intro m3 m16))
  have HN := Lib.hid hN
  obtain ⟨hrv, hrf, hrn, hrL, q, cap, tq, g, off, c, G⟩ := hR
  have HB0 : Hid (∀ w2, Below w1.heap.size w1 w2 → ∃ w3, (Instr.makeSlice 36 (.int .i64 N) (.int .i64 N)).run Tryz.prog w2 = .ok (.slice (some ⟨w2.heap.size, 0, none⟩) N N) w3 ∧ Bw J w3 r q cap tq w2.heap.size A0 S o noSet noSet F (fun j => j < 0) (fun _ => [Sh.noughts]) 100) := Lib.hid fun w2 hb => by
    have hv2 := hrv.grown hb
    have G2 := G.grown hb
    obtain ⟨w3, h1, h2, h3⟩ := makeN (N := N) w2 (B := J.B) (G := RG J r F) (fun _ => [Sh.noughts]) hv2.size (rg_lt hv2 G2) (by omega)
    rw [← hN] at h2
    exact ⟨w3, h1, hv2.grown h3, hrf, hrn, hrL, (h3.block r (Array.getElem?_eq_some_iff.1 G2.row).1).trans G2.row, G.low, G.out, G.log, h2⟩
  have c5 := fun w2 (hb : Below w1.heap.size w1 w2) => (G.grown hb).cells.2.2.2.1
  rw [hN] at c5
  have HY := Lib.hid hy
  clear hs hJB hJW hrv hrf hrn hrL G hbn HBG hbel hA0 hNN hL hSt h90 m3 m16 s1 s6 hM hN hpos hy
  go_wp2_with fail
  refine HLI.out.mono ?_
  rintro e w2 ⟨rfl, hb2⟩
  clear HLI
  obtain ⟨w3, hmk, hW3⟩ := HB0.out w2 hb2
  have k5 := c5 w2 hb2
  obtain ⟨q2, hq2⟩ : ∃ q2, w2.heap.size = q2 := ⟨_, rfl⟩
  rw [hq2] at hmk hW3
  have H0 : Hid (Bw J w3 r q cap tq q2 A0 S o noSet noSet F (fun j => j < 0) (fun _ => [Sh.noughts]) 100) := Lib.hid hW3
  clear hW3 HB0 c5 hb2 hq2
  go_wp2_with fail
  clear hmk k5
  go_loopw [7] (fun i wr => ∃ k : Nat, k ≤ N ∧ i = .int .i64 k ∧ Hid (Bw J wr r q cap tq q2 A0 S o noSet noSet F (fun j => j < k) (fun _ => [Sh.noughts]) 100)) (fun i _ => N - (intOf i).toNat)
  case atStart => exact ⟨0, Nat.zero_le _, rfl, H0⟩
  case round =>
    obtain ⟨k, hk, rfl, hBk⟩ := hrel
    clear H0
    by_cases hlt : k < N
    · have q3 : (k : Int) < (N : Int) := by omega
      obtain ⟨w7, hmk, ho7, hb7⟩ := make128 wr
      have HB7 := Lib.hid (hBk.out.grown hb7)
      have HF8 := Lib.hid (HB7.out.fill (by rw [HN.out]; exact hlt) 9)
      have h8 := (HB7.out.grown ((Below.refl _ w7).alloc (Nat.le_refl _) (.cells #[Sh.sv Sh.noughts] 9))).cell (k := k) (by rw [HN.out]; exact hlt)
      obtain ⟨⟨v8, kc⟩, kf⟩ := h8
      clear hBk hb7
      generalize hsn : Sh.strL Sh.noughts = sn at *
      have t1 := Sh.conv_own (q := wr.heap.size) ho7 hsn w7 (Below.refl _ _)
      unfold Sh.sv at *
      rw [hsn] at HF8 kc kf
      have HSN := Lib.hid hsn
      clear hsn ho7
      go_wp2_with fail
      refine ⟨⟨k + 1, by omega, by go_num, HF8⟩, ?_⟩
      simp [intOf]
      omega
    · have hkN : k = N := by omega
      have q3 : ¬ ((k : Int) < (N : Int)) := by omega
      have B2 : Hid (∃ S wr', BeyS J r q cap tq q2 A0 (2000 + 1000 * 0) (1 + 0) S wr' wr) := Lib.hid ⟨S, _, o, noSet, noSet, F, by
        have := hBk.out.more (a := 2000) (by omega)
        rw [hkN, ← HN.out] at this
        exact this, HY.out, fun j _ => ⟨by simp, Nat.le_refl 1⟩⟩
      clear hBk HY
      go_wp2_with fail
      go_loopw [8] (fun i wr => ∃ k : Nat, k ≤ n ∧ k ≤ 150 ∧ i = .int .i64 k ∧ Hid (∃ S wr', BeyS J r q cap tq q2 A0 (2000 + 1000 * k) (1 + k) S wr' wr)) (fun i _ => 150 - (intOf i).toNat)
      case atStart => exact ⟨0, Nat.zero_le _, Nat.zero_le _, rfl, B2⟩
      case round =>
        obtain ⟨k, hk, hk2, rfl, HBr⟩ := hrel
        clear B2
        by_cases hlt : k < n ∧ k < 150
        · obtain ⟨hlt, hlt2⟩ := hlt
          have q3 : (k : Int) < (n : Int) := by omega
          have q4 : (k : Int) < 150 := by omega
          obtain ⟨b0, off0, rfl, hbl, hop⟩ := HL.out.2 (by omega)
          have hop := hop k hlt
          obtain ⟨S1, wr1, hB1⟩ := HBr.out
          have hbr : Below w.heap.size w wr := by have := hB1.bel.1; rw [HJ.out.1, HJ.out.2] at this; exact this
          have d0 := (hbr.cell (p := ⟨b0, off0 + k * 5, none⟩) hbl).trans hop.c0
          have d1 := (hbr.cell (p := ⟨b0, off0 + k * 5 + 1, none⟩) hbl).trans hop.c1
          have d2 := (hbr.cell (p := ⟨b0, off0 + k * 5 + 2, none⟩) hbl).trans hop.c2
          have d3 := (hbr.cell (p := ⟨b0, off0 + k * 5 + 3, none⟩) hbl).trans hop.c3
          have d4 := (hbr.cell (p := ⟨b0, off0 + k * 5 + 4, none⟩) hbl).trans hop.c4
          have hi1 := hop.b1
          have hi2 := hop.b2
          have hxx := hop.b3
          have HB1 := Lib.hid hB1
          clear hop hbr HBr hB1
          generalize (f k).kind = kind at *
          generalize (f k).n = on at *
          generalize (f k).at_ = od at *
          generalize (f k).x = xx at *
          generalize (f k).A = oA at *
          generalize (f k).m = om at *
          generalize (f k).c = oc at *
          obtain ⟨kk, hkk⟩ : ∃ kk, (on % (N : Nat)).toNat = kk := ⟨_, rfl⟩
          have hkN2 : kk < N := by have := Int.emod_lt_of_pos on (show (0 : Int) < (N : Int) by omega); omega
          have HMD := Lib.hid (fun w' => mod8_any on N n1 (by omega) w')
          rw [hkk] at HMD
          clear hkk
          have hb8 : Below wr.heap.size wr (wr.alloc (.cells #[.int .i64 kind, .int .i64 on, .int .i64 od, .int .u8 (xx : Int), .slice oA om oc] 31)) := (Below.refl _ _).alloc (Nat.le_refl _) _
          have HB2 := Lib.hid (HB1.out.grown hb8)
          obtain ⟨k0, k1, k2, k3, k4⟩ := op_cells (heap_alloc_new wr (.cells #[.int .i64 kind, .int .i64 on, .int .i64 od, .int .u8 (xx : Int), .slice oA om oc] 31))
          obtain ⟨c0, c1, c2, _⟩ := HB2.out.cells
          have hsz : wr.heap.size < (wr.alloc (.cells #[.int .i64 kind, .int .i64 on, .int .i64 od, .int .u8 (xx : Int), .slice oA om oc] 31)).heap.size := by simp
          have HBL := Lib.hid hb8
          clear hb8
          go_wp2_with fail
          refine (HMD.out _).mono ?_
          rintro e w' ⟨rfl, rfl⟩
          go_wp2_with fail
          refine (HB2.out.count (Below.refl _ _)).mono ?_
          rintro e w' ⟨rfl, rfl⟩
          clear d0 d1 d2 d3 d4 HMD
          generalize hob : wr.heap.size = ob at *
          generalize wr.alloc (.cells #[.int .i64 kind, .int .i64 on, .int .i64 od, .int .u8 (xx : Int), .slice oA om oc] 31) = w4 at *
          have HOB := Lib.hid hob
          clear hob
          by_cases h1 : kind = 1
          · as_aux_lemma =>
            subst h1
            have HRD := Lib.hid (HB2.out.read HS.out HTJ.out (by omega) (k := kk) (by rw [HN.out]; exact hkN2))
            go_wp2_with fail
            refine HRD.out.mono ?_
            rintro e w5 ⟨y, A', len, c', X, S2, rfl, hb5, hsp, hcase⟩
            obtain ⟨kd, hkd, hcnt⟩ := hsp.diff (by decide)
            have HB5 := Lib.hid hb5
            obtain ⟨x0, x1, x2, _⟩ := hb5.cells
            have HCT := Lib.hid (fun w' hb => HB5.out.count (w' := w') hb)
            have hle : wrap64 (S2.count - S1.count) ≤ 64 := by rw [hcnt]; omega
            clear hcnt hkd
            obtain ⟨_, _, _, _, BW, _, LN⟩ := hb5
            obtain ⟨g, off, cc, MI⟩ := BW.tab
            have hkA : kk < A0.St * (A0.M - 1) := by rw [HN.out]; exact hkN2
            have kq := MI.cells kk hkA
            have hqlt := MI.lt
            have hmid := MI.mid kk hkA
            have hll := (LN kk hkA).2
            have k5 := fun W' (hb : Below w5.heap.size w5 W') => (hb.cell (p := ⟨q2, kk, none⟩) hqlt).trans kq
            have HM2 := Lib.hid (fun i (hi : i < (wr1 kk).length) W' (hb : Below w5.heap.size w5 W') => (hb.cell (p := ⟨g kk, off kk + i, none⟩) hmid.lt).trans (hmid.at_ i hi))
            clear BW LN MI hkA kq hqlt hmid hsp HRD HB2 k0 k1 k2 k3 k4 c0 c1 c2 hsz
            rcases hcase with ⟨rfl, rfl, hBy, hXs, hmem⟩ | ⟨hy, rfl, rfl, rfl⟩
            · obtain ⟨sv, hsv⟩ : ∃ sv, Sh.strL X = sv := ⟨_, rfl⟩
              have t1 := fun W' (hb : Below w5.heap.size w5 W') => conv_bytes (c := c') hBy hsv W' hb
              have HV : Hid (∃ i, i < (wr1 kk).length ∧ (Sh.strL ((wr1 kk).getD i [])).toList = sv.toList) := Lib.hid (by
                obtain ⟨i, hi, e⟩ := List.mem_iff_getElem.1 hmem
                exact ⟨i, hi, by rw [← hsv, ← e]; simp [List.getD, hi]⟩)
              clear hBy hXs hmem hsv
              generalize wr1 kk = l at *
              generalize g kk = gj at *
              generalize off kk = offj at *
              generalize cc kk = cj at *
              go_wp2_with fail
              refine (HCT.out _ (Below.refl _ _)).mono ?_
              rintro e w' ⟨rfl, rfl⟩
              clear HCT
              go_wp2_with fail
              go_loopw [14, 15] (fun s14 s15 wr => ∃ (i : Nat) (b : Bool), i ≤ l.length ∧ s14 = .bool b ∧ s15 = .int .i64 i ∧ Hid (Below w5.heap.size w5 wr ∧ (b = true ∨ ∀ x, x < i → (Sh.strL (l.getD x [])).toList ≠ sv.toList))) (fun _ i _ => l.length - (intOf i).toNat)
              case atStart => exact ⟨0, false, Nat.zero_le _, rfl, rfl, Lib.hid ⟨Below.refl _ _, .inr fun x hx => absurd hx (by omega)⟩⟩
              case round =>
                obtain ⟨i, b, hi, rfl, rfl, hbw⟩ := hrel
                have hbel := hbw.out.1
                have kB := k5 wr hbel
                by_cases hli : i < l.length
                · have q7 : (i : Int) < (l.length : Int) := by omega
                  have m1 := fun W' (hb : Below wr.heap.size wr W') => HM2.out i hli W' (Sh.below_on hbel hb)
                  have k6 := fun W' (hb : Below wr.heap.size wr W') => k5 W' (Sh.below_on hbel hb)
                  have t2 := fun W' (hb : Below wr.heap.size wr W') => t1 W' (Sh.below_on hbel hb)
                  have hbd := Lib.hid (show Below w5.heap.size w5 wr.drew from Sh.below_on hbel ((Below.refl _ _).drew))
                  have hno := Lib.hid hbw.out.2
                  unfold Sh.sv at m1
                  clear hbw hbel k5 t1
                  generalize hyy : Sh.strL (l.getD i []) = sy at *
                  have HYY := Lib.hid hyy
                  clear hyy
                  obtain ⟨qq, hqq⟩ : ∃ qq, (sy.toList == sv.toList) = qq := ⟨_, rfl⟩
                  have HQ := Lib.hid hqq
                  have l18 : l.length ≤ 9223372036854775807 := by omega
                  cases b with
                  | true =>
                    go_wp2_with fail
                    refine wp_region_held_drew (S := fun W' => Below wr.heap.size wr W') (by kernel_rfl) ((Below.refl _ _).drew) (fun hHeld => ?_)
                    refine wpAnyH_take (i := 0) (oi := ⟨some 118, _, _, _, _, _⟩) (v := ?_) rfl (by kernel_rfl) (by kernel_rfl) (by kernel_rfl) (fun _ _ _ h => h) (Or.inl ⟨by rfl, ?_⟩) (by assumption) ?_
                    rotate_left
                    · (intro w hSw; (try dsimp only at hSw); go_simp; first | done | with_reducible rfl)
                    try simp only [Act.put, List.setIfInBounds_toArray, List.set_cons_zero, List.set_cons_succ]
                    refine wpAnyH_take (i := 1) (oi := ⟨some 119, _, _, _, _, _⟩) (v := ?_) rfl (by kernel_rfl) (by kernel_rfl) (by kernel_rfl) (fun _ _ _ h => h) (Or.inl ⟨by rfl, ?_⟩) (by assumption) ?_
                    rotate_left
                    · (intro w hSw; (try dsimp only at hSw); go_simp; first | done | with_reducible rfl)
                    try simp only [Act.put, List.setIfInBounds_toArray, List.set_cons_zero, List.set_cons_succ]
                    refine wpAnyH_take (i := 2) (oi := ⟨some 120, _, _, _, _, _⟩) (v := undef) rfl (by kernel_rfl) (by kernel_rfl) (by kernel_rfl) (fun _ _ _ h => h) (Or.inr ⟨by rfl, rfl⟩) (by assumption) ?_
                    try simp only [Act.put, List.setIfInBounds_toArray, List.set_cons_zero, List.set_cons_succ]
                    refine wpAnyH_take (i := 3) (oi := ⟨some 121, _, _, _, _, _⟩) (v := undef) rfl (by kernel_rfl) (by kernel_rfl) (by kernel_rfl) (fun _ _ _ h => h) (Or.inr ⟨by rfl, rfl⟩) (by assumption) ?_
                    try simp only [Act.put, List.setIfInBounds_toArray, List.set_cons_zero, List.set_cons_succ]
                    refine wpAnyH_take (i := 4) (oi := ⟨some 122, _, _, _, _, _⟩) (v := undef) rfl (by kernel_rfl) (by kernel_rfl) (by kernel_rfl) (fun _ _ _ h => h) (Or.inr ⟨by rfl, rfl⟩) (by assumption) ?_
                    try simp only [Act.put, List.setIfInBounds_toArray, List.set_cons_zero, List.set_cons_succ]
                    refine wpAnyH_take (i := 5) (oi := ⟨some 123, _, _, _, _, _⟩) (v := undef) rfl (by kernel_rfl) (by kernel_rfl) (by kernel_rfl) (fun _ _ _ h => h) (Or.inr ⟨by rfl, rfl⟩) (by assumption) ?_
                    try simp only [Act.put, List.setIfInBounds_toArray, List.set_cons_zero, List.set_cons_succ]
                    refine wpAnyH_take (i := 6) (oi := ⟨some 124, _, _, _, _, _⟩) (v := undef) rfl (by kernel_rfl) (by kernel_rfl) (by kernel_rfl) (fun _ _ _ h => h) (Or.inr ⟨by rfl, rfl⟩) (by assumption) ?_
                    try simp only [Act.put, List.setIfInBounds_toArray, List.set_cons_zero, List.set_cons_succ]
                    refine wpAnyH_take (i := 7) (oi := ⟨some 125, _, _, _, _, _⟩) (v := undef) rfl (by kernel_rfl) (by kernel_rfl) (by kernel_rfl) (fun _ _ _ h => h) (Or.inr ⟨by rfl, rfl⟩) (by assumption) ?_
                    try simp only [Act.put, List.setIfInBounds_toArray, List.set_cons_zero, List.set_cons_succ]
                    refine wpAnyH_take (i := 8) (oi := ⟨some 126, _, _, _, _, _⟩) (v := undef) rfl (by kernel_rfl) (by kernel_rfl) (by kernel_rfl) (fun _ _ _ h => h) (Or.inr ⟨by rfl, rfl⟩) (by assumption) ?_
                    try simp only [Act.put, List.setIfInBounds_toArray, List.set_cons_zero, List.set_cons_succ]
                    refine wpAnyH_take (i := 9) (oi := ⟨some 127, _, _, _, _, _⟩) (v := undef) rfl (by kernel_rfl) (by kernel_rfl) (by kernel_rfl) (fun _ _ _ h => h) (Or.inr ⟨by rfl, rfl⟩) (by assumption) ?_
                    try simp only [Act.put, List.setIfInBounds_toArray, List.set_cons_zero, List.set_cons_succ]
                    refine wpAnyH_take (i := 10) (oi := ⟨some 128, _, _, _, _, _⟩) (v := undef) rfl (by kernel_rfl) (by kernel_rfl) (by kernel_rfl) (fun _ _ _ h => h) (Or.inr ⟨by rfl, rfl⟩) (by assumption) ?_
                    try simp only [Act.put, List.setIfInBounds_toArray, List.set_cons_zero, List.set_cons_succ]
                    refine wpAnyH_take (i := 11) (oi := ⟨some 129, _, _, _, _, _⟩) (v := undef) rfl (by kernel_rfl) (by kernel_rfl) (by kernel_rfl) (fun _ _ _ h => h) (Or.inr ⟨by rfl, rfl⟩) (by assumption) ?_
                    try simp only [Act.put, List.setIfInBounds_toArray, List.set_cons_zero, List.set_cons_succ]
                    refine wpAnyH_take (i := 12) (oi := ⟨some 130, _, _, _, _, _⟩) (v := ?_) rfl (by kernel_rfl) (by kernel_rfl) (by kernel_rfl) (fun _ _ _ h => h) (Or.inl ⟨by rfl, ?_⟩) (by assumption) ?_
                    rotate_left
                    · (intro w hSw; (try dsimp only at hSw); go_simp; first | done | with_reducible rfl)
                    try simp only [Act.put, List.setIfInBounds_toArray, List.set_cons_zero, List.set_cons_succ]
                    refine wpAnyH_take (i := 13) (oi := ⟨some 14, _, _, _, _, _⟩) (v := ?_) rfl (by kernel_rfl) (by kernel_rfl) (by kernel_rfl) (fun _ _ _ h => h) (Or.inl ⟨by rfl, ?_⟩) (by assumption) ?_
                    rotate_left
                    · (intro w hSw; (try dsimp only at hSw); go_simp; first | done | with_reducible rfl)
                    try simp only [Act.put, List.setIfInBounds_toArray, List.set_cons_zero, List.set_cons_succ]
                    refine wpAnyH_done (by kernel_rfl) ?_ _
                    go_wp2_with fail
                    refine ⟨⟨i + 1, true, by omega, rfl, by go_num, Lib.hid ⟨hbd.out, .inl rfl⟩⟩, ?_⟩
                    simp [intOf]
                    omega
                  | false =>
                    go_wp2_with fail
                    refine wp_region_held_drew (S := fun W' => Below wr.heap.size wr W') (by kernel_rfl) ((Below.refl _ _).drew) (fun hHeld => ?_)
                    refine wpAnyH_take (i := 0) (oi := ⟨some 118, _, _, _, _, _⟩) (v := ?_) rfl (by kernel_rfl) (by kernel_rfl) (by kernel_rfl) (fun _ _ _ h => h) (Or.inl ⟨by rfl, ?_⟩) (by assumption) ?_
                    rotate_left
                    · (intro w hSw; (try dsimp only at hSw); go_simp; first | done | with_reducible rfl)
                    try simp only [Act.put, List.setIfInBounds_toArray, List.set_cons_zero, List.set_cons_succ]
                    refine wpAnyH_take (i := 1) (oi := ⟨some 119, _, _, _, _, _⟩) (v := ?_) rfl (by kernel_rfl) (by kernel_rfl) (by kernel_rfl) (fun _ _ _ h => h) (Or.inl ⟨by rfl, ?_⟩) (by assumption) ?_
                    rotate_left
                    · (intro w hSw; (try dsimp only at hSw); go_simp; first | done | with_reducible rfl)
                    try simp only [Act.put, List.setIfInBounds_toArray, List.set_cons_zero, List.set_cons_succ]
                    refine wpAnyH_take (i := 2) (oi := ⟨some 120, _, _, _, _, _⟩) (v := ?_) rfl (by kernel_rfl) (by kernel_rfl) (by kernel_rfl) (fun _ _ _ h => h) (Or.inl ⟨by rfl, ?_⟩) (by assumption) ?_
                    rotate_left
                    · (intro w hSw; (try dsimp only at hSw); go_simp; first | done | with_reducible rfl)
                    try simp only [Act.put, List.setIfInBounds_toArray, List.set_cons_zero, List.set_cons_succ]
                    refine wpAnyH_take (i := 3) (oi := ⟨some 121, _, _, _, _, _⟩) (v := ?_) rfl (by kernel_rfl) (by kernel_rfl) (by kernel_rfl) (fun _ _ _ h => h) (Or.inl ⟨by rfl, ?_⟩) (by assumption) ?_
                    rotate_left
                    · (intro w hSw; (try dsimp only at hSw); go_simp; first | done | with_reducible rfl)
                    try simp only [Act.put, List.setIfInBounds_toArray, List.set_cons_zero, List.set_cons_succ]
                    refine wpAnyH_take (i := 4) (oi := ⟨some 122, _, _, _, _, _⟩) (v := ?_) rfl (by kernel_rfl) (by kernel_rfl) (by kernel_rfl) (fun _ _ _ h => h) (Or.inl ⟨by rfl, ?_⟩) (by assumption) ?_
                    rotate_left
                    · (intro w hSw; (try dsimp only at hSw); go_simp; first | done | with_reducible rfl)
                    try simp only [Act.put, List.setIfInBounds_toArray, List.set_cons_zero, List.set_cons_succ]
                    refine wpAnyH_take (i := 5) (oi := ⟨some 123, _, _, _, _, _⟩) (v := ?_) rfl (by kernel_rfl) (by kernel_rfl) (by kernel_rfl) (fun _ _ _ h => h) (Or.inl ⟨by rfl, ?_⟩) (by assumption) ?_
                    rotate_left
                    · (intro w hSw; (try dsimp only at hSw); go_simp; first | done | with_reducible rfl)
                    try simp only [Act.put, List.setIfInBounds_toArray, List.set_cons_zero, List.set_cons_succ]
                    refine wpAnyH_take (i := 6) (oi := ⟨some 124, _, _, _, _, _⟩) (v := ?_) rfl (by kernel_rfl) (by kernel_rfl) (by kernel_rfl) (fun _ _ _ h => h) (Or.inl ⟨by rfl, ?_⟩) (by assumption) ?_
                    rotate_left
                    · (intro w hSw; (try dsimp only at hSw); go_simp; first | done | with_reducible rfl)
                    try simp only [Act.put, List.setIfInBounds_toArray, List.set_cons_zero, List.set_cons_succ]
                    refine wpAnyH_take (i := 7) (oi := ⟨some 125, _, _, _, _, _⟩) (v := ?_) rfl (by kernel_rfl) (by kernel_rfl) (by kernel_rfl) (fun _ _ _ h => h) (Or.inl ⟨by rfl, ?_⟩) (by assumption) ?_
                    rotate_left
                    · (intro w hSw; (try dsimp only at hSw); go_simp; first | done | with_reducible rfl)
                    try simp only [Act.put, List.setIfInBounds_toArray, List.set_cons_zero, List.set_cons_succ]
                    refine wpAnyH_take (i := 8) (oi := ⟨some 126, _, _, _, _, _⟩) (v := ?_) rfl (by kernel_rfl) (by kernel_rfl) (by kernel_rfl) (fun _ _ _ h => h) (Or.inl ⟨by rfl, ?_⟩) (by assumption) ?_
                    rotate_left
                    · (intro w hSw; (try dsimp only at hSw); go_simp; first | done | with_reducible rfl)
                    try simp only [Act.put, List.setIfInBounds_toArray, List.set_cons_zero, List.set_cons_succ]
                    refine wpAnyH_take (i := 9) (oi := ⟨some 127, _, _, _, _, _⟩) (v := ?_) rfl (by kernel_rfl) (by kernel_rfl) (by kernel_rfl) (fun _ _ _ h => h) (Or.inl ⟨by rfl, ?_⟩) (by assumption) ?_
                    rotate_left
                    · (intro w hSw; (try dsimp only at hSw); go_simp; first | done | with_reducible rfl)
                    try simp only [Act.put, List.setIfInBounds_toArray, List.set_cons_zero, List.set_cons_succ]
                    refine wpAnyH_take (i := 10) (oi := ⟨some 128, _, _, _, _, _⟩) (v := ?_) rfl (by kernel_rfl) (by kernel_rfl) (by kernel_rfl) (fun _ _ _ h => h) (Or.inl ⟨by rfl, ?_⟩) (by assumption) ?_
                    rotate_left
                    · (intro w hSw; (try dsimp only at hSw); go_simp; first | done | with_reducible rfl)
                    try simp only [Act.put, List.setIfInBounds_toArray, List.set_cons_zero, List.set_cons_succ]
                    refine wpAnyH_take (i := 11) (oi := ⟨some 129, _, _, _, _, _⟩) (v := ?_) rfl (by kernel_rfl) (by kernel_rfl) (by kernel_rfl) (fun _ _ _ h => h) (Or.inl ⟨by rfl, ?_⟩) (by assumption) ?_
                    rotate_left
                    · (intro w hSw; (try dsimp only at hSw); go_simp; first | done | with_reducible rfl)
                    try simp only [Act.put, List.setIfInBounds_toArray, List.set_cons_zero, List.set_cons_succ]
                    refine wpAnyH_take (i := 12) (oi := ⟨some 130, _, _, _, _, _⟩) (v := ?_) rfl (by kernel_rfl) (by kernel_rfl) (by kernel_rfl) (fun _ _ _ h => h) (Or.inl ⟨by rfl, ?_⟩) (by assumption) ?_
                    rotate_left
                    · (intro w hSw; (try dsimp only at hSw); go_simp; first | done | with_reducible rfl)
                    try simp only [Act.put, List.setIfInBounds_toArray, List.set_cons_zero, List.set_cons_succ]
                    refine wpAnyH_take (i := 13) (oi := ⟨some 14, _, _, _, _, _⟩) (v := ?_) rfl (by kernel_rfl) (by kernel_rfl) (by kernel_rfl) (fun _ _ _ h => h) (Or.inl ⟨by rfl, ?_⟩) (by assumption) ?_
                    rotate_left
                    · (intro w hSw; (try dsimp only at hSw); go_simp; first | done | with_reducible rfl)
                    try simp only [Act.put, List.setIfInBounds_toArray, List.set_cons_zero, List.set_cons_succ]
                    refine wpAnyH_done (by kernel_rfl) ?_ _
                    have hnx := Lib.hid (show qq = true ∨ ∀ x, x < i + 1 → (Sh.strL (l.getD x [])).toList ≠ sv.toList from by
                      cases qq with
                      | true => exact .inl rfl
                      | false =>
                        refine .inr fun x hx => ?_
                        by_cases e : x = i
                        · subst e
                          rw [HYY.out]
                          have := HQ.out
                          rw [beq_eq_false_iff_ne] at this
                          exact this
                        · rcases hno.out with h | h
                          · cases h
                          · exact h x (by omega))
                    clear HQ hqq hno HYY
                    go_wp2_with fail
                    refine ⟨⟨i + 1, qq, by omega, rfl, by go_num, Lib.hid ⟨hbd.out, hnx.out⟩⟩, ?_⟩
                    simp [intOf]
                    omega
                · have hb : b = true := by
                    rcases hbw.out.2 with h | h
                    · exact h
                    · obtain ⟨x, hx, e⟩ := HV.out
                      exact absurd e (h x (by omega))
                  have q7 : ¬ ((i : Int) < (l.length : Int)) := by omega
                  subst hb
                  have HNX : Hid (∃ S wr', BeyS J r q cap tq q2 A0 (2000 + 1000 * (k + 1)) (1 + (k + 1)) S wr' wr) := Lib.hid ⟨_, _, (HB5.out.grown hbel).more (by omega) (by omega)⟩
                  clear hbw hbel k5 t1
                  go_wp2_with fail
                  refine ⟨⟨k + 1, by omega, by omega, by go_num, HNX⟩, ?_⟩
                  simp [intOf]
                  omega
            · clear HM2
              generalize wr1 kk = l at *
              generalize g kk = gj at *
              generalize off kk = offj at *
              generalize cc kk = cj at *
              rcases hy with rfl | rfl
              · go_wp2_with fail
                refine (HCT.out _ (Below.refl _ _)).mono ?_
                rintro e w' ⟨rfl, rfl⟩
                clear HCT
                go_wp2_with fail
                go_loopw [14, 15] (fun s14 s15 wr => ∃ (i : Nat), i ≤ l.length ∧ s14 = .bool true ∧ s15 = .int .i64 i ∧ Hid (Below w5.heap.size w5 wr)) (fun _ i _ => l.length - (intOf i).toNat)
                case atStart => exact ⟨0, Nat.zero_le _, rfl, rfl, Lib.hid (Below.refl _ _)⟩
                case round =>
                  obtain ⟨i, hi, rfl, rfl, hbw⟩ := hrel
                  have hbel := hbw.out
                  have kB := k5 wr hbel
                  by_cases hli : i < l.length
                  · have q7 : (i : Int) < (l.length : Int) := by omega
                    have hbd := Lib.hid (show Below w5.heap.size w5 wr.drew from Sh.below_on hbel ((Below.refl _ _).drew))
                    clear hbw hbel k5
                    have l18 : l.length ≤ 9223372036854775807 := by omega
                    go_wp2_with fail
                    refine wp_region_held_drew (S := fun W' => Below wr.heap.size wr W') (by kernel_rfl) ((Below.refl _ _).drew) (fun hHeld => ?_)
                    refine wpAnyH_take (i := 0) (oi := ⟨some 118, _, _, _, _, _⟩) (v := ?_) rfl (by kernel_rfl) (by kernel_rfl) (by kernel_rfl) (fun _ _ _ h => h) (Or.inl ⟨by rfl, ?_⟩) (by assumption) ?_
                    rotate_left
                    · (intro w hSw; (try dsimp only at hSw); go_simp; first | done | with_reducible rfl)
                    try simp only [Act.put, List.setIfInBounds_toArray, List.set_cons_zero, List.set_cons_succ]
                    refine wpAnyH_take (i := 1) (oi := ⟨some 119, _, _, _, _, _⟩) (v := ?_) rfl (by kernel_rfl) (by kernel_rfl) (by kernel_rfl) (fun _ _ _ h => h) (Or.inl ⟨by rfl, ?_⟩) (by assumption) ?_
                    rotate_left
                    · (intro w hSw; (try dsimp only at hSw); go_simp; first | done | with_reducible rfl)
                    try simp only [Act.put, List.setIfInBounds_toArray, List.set_cons_zero, List.set_cons_succ]
                    refine wpAnyH_take (i := 2) (oi := ⟨some 120, _, _, _, _, _⟩) (v := undef) rfl (by kernel_rfl) (by kernel_rfl) (by kernel_rfl) (fun _ _ _ h => h) (Or.inr ⟨by rfl, rfl⟩) (by assumption) ?_
                    try simp only [Act.put, List.setIfInBounds_toArray, List.set_cons_zero, List.set_cons_succ]
                    refine wpAnyH_take (i := 3) (oi := ⟨some 121, _, _, _, _, _⟩) (v := undef) rfl (by kernel_rfl) (by kernel_rfl) (by kernel_rfl) (fun _ _ _ h => h) (Or.inr ⟨by rfl, rfl⟩) (by assumption) ?_
                    try simp only [Act.put, List.setIfInBounds_toArray, List.set_cons_zero, List.set_cons_succ]
                    refine wpAnyH_take (i := 4) (oi := ⟨some 122, _, _, _, _, _⟩) (v := undef) rfl (by kernel_rfl) (by kernel_rfl) (by kernel_rfl) (fun _ _ _ h => h) (Or.inr ⟨by rfl, rfl⟩) (by assumption) ?_
                    try simp only [Act.put, List.setIfInBounds_toArray, List.set_cons_zero, List.set_cons_succ]
                    refine wpAnyH_take (i := 5) (oi := ⟨some 123, _, _, _, _, _⟩) (v := undef) rfl (by kernel_rfl) (by kernel_rfl) (by kernel_rfl) (fun _ _ _ h => h) (Or.inr ⟨by rfl, rfl⟩) (by assumption) ?_
                    try simp only [Act.put, List.setIfInBounds_toArray, List.set_cons_zero, List.set_cons_succ]
                    refine wpAnyH_take (i := 6) (oi := ⟨some 124, _, _, _, _, _⟩) (v := undef) rfl (by kernel_rfl) (by kernel_rfl) (by kernel_rfl) (fun _ _ _ h => h) (Or.inr ⟨by rfl, rfl⟩) (by assumption) ?_
                    try simp only [Act.put, List.setIfInBounds_toArray, List.set_cons_zero, List.set_cons_succ]
                    refine wpAnyH_take (i := 7) (oi := ⟨some 125, _, _, _, _, _⟩) (v := undef) rfl (by kernel_rfl) (by kernel_rfl) (by kernel_rfl) (fun _ _ _ h => h) (Or.inr ⟨by rfl, rfl⟩) (by assumption) ?_
                    try simp only [Act.put, List.setIfInBounds_toArray, List.set_cons_zero, List.set_cons_succ]
                    refine wpAnyH_take (i := 8) (oi := ⟨some 126, _, _, _, _, _⟩) (v := undef) rfl (by kernel_rfl) (by kernel_rfl) (by kernel_rfl) (fun _ _ _ h => h) (Or.inr ⟨by rfl, rfl⟩) (by assumption) ?_
                    try simp only [Act.put, List.setIfInBounds_toArray, List.set_cons_zero, List.set_cons_succ]
                    refine wpAnyH_take (i := 9) (oi := ⟨some 127, _, _, _, _, _⟩) (v := undef) rfl (by kernel_rfl) (by kernel_rfl) (by kernel_rfl) (fun _ _ _ h => h) (Or.inr ⟨by rfl, rfl⟩) (by assumption) ?_
                    try simp only [Act.put, List.setIfInBounds_toArray, List.set_cons_zero, List.set_cons_succ]
                    refine wpAnyH_take (i := 10) (oi := ⟨some 128, _, _, _, _, _⟩) (v := undef) rfl (by kernel_rfl) (by kernel_rfl) (by kernel_rfl) (fun _ _ _ h => h) (Or.inr ⟨by rfl, rfl⟩) (by assumption) ?_
                    try simp only [Act.put, List.setIfInBounds_toArray, List.set_cons_zero, List.set_cons_succ]
                    refine wpAnyH_take (i := 11) (oi := ⟨some 129, _, _, _, _, _⟩) (v := undef) rfl (by kernel_rfl) (by kernel_rfl) (by kernel_rfl) (fun _ _ _ h => h) (Or.inr ⟨by rfl, rfl⟩) (by assumption) ?_
                    try simp only [Act.put, List.setIfInBounds_toArray, List.set_cons_zero, List.set_cons_succ]
                    refine wpAnyH_take (i := 12) (oi := ⟨some 130, _, _, _, _, _⟩) (v := ?_) rfl (by kernel_rfl) (by kernel_rfl) (by kernel_rfl) (fun _ _ _ h => h) (Or.inl ⟨by rfl, ?_⟩) (by assumption) ?_
                    rotate_left
                    · (intro w hSw; (try dsimp only at hSw); go_simp; first | done | with_reducible rfl)
                    try simp only [Act.put, List.setIfInBounds_toArray, List.set_cons_zero, List.set_cons_succ]
                    refine wpAnyH_take (i := 13) (oi := ⟨some 14, _, _, _, _, _⟩) (v := ?_) rfl (by kernel_rfl) (by kernel_rfl) (by kernel_rfl) (fun _ _ _ h => h) (Or.inl ⟨by rfl, ?_⟩) (by assumption) ?_
                    rotate_left
                    · (intro w hSw; (try dsimp only at hSw); go_simp; first | done | with_reducible rfl)
                    try simp only [Act.put, List.setIfInBounds_toArray, List.set_cons_zero, List.set_cons_succ]
                    refine wpAnyH_done (by kernel_rfl) ?_ _
                    go_wp2_with fail
                    refine ⟨⟨i + 1, by omega, rfl, by go_num, hbd⟩, ?_⟩
                    simp [intOf]
                    omega
                  · have q7 : ¬ ((i : Int) < (l.length : Int)) := by omega
                    have HNX : Hid (∃ S wr', BeyS J r q cap tq q2 A0 (2000 + 1000 * (k + 1)) (1 + (k + 1)) S wr' wr) := Lib.hid ⟨_, _, (HB5.out.grown hbel).more (by omega) (by omega)⟩
                    clear hbw hbel k5
                    go_wp2_with fail
                    refine ⟨⟨k + 1, by omega, by omega, by go_num, HNX⟩, ?_⟩
                    simp [intOf]
                    omega
              · go_wp2_with fail
                refine (HCT.out _ (Below.refl _ _)).mono ?_
                rintro e w' ⟨rfl, rfl⟩
                clear HCT
                go_wp2_with fail
                go_loopw [14, 15] (fun s14 s15 wr => ∃ (i : Nat), i ≤ l.length ∧ s14 = .bool true ∧ s15 = .int .i64 i ∧ Hid (Below w5.heap.size w5 wr)) (fun _ i _ => l.length - (intOf i).toNat)
                case atStart => exact ⟨0, Nat.zero_le _, rfl, rfl, Lib.hid (Below.refl _ _)⟩
                case round =>
                  obtain ⟨i, hi, rfl, rfl, hbw⟩ := hrel
                  have hbel := hbw.out
                  have kB := k5 wr hbel
                  by_cases hli : i < l.length
                  · have q7 : (i : Int) < (l.length : Int) := by omega
                    have hbd := Lib.hid (show Below w5.heap.size w5 wr.drew from Sh.below_on hbel ((Below.refl _ _).drew))
                    clear hbw hbel k5
                    have l18 : l.length ≤ 9223372036854775807 := by omega
                    go_wp2_with fail
                    refine wp_region_held_drew (S := fun W' => Below wr.heap.size wr W') (by kernel_rfl) ((Below.refl _ _).drew) (fun hHeld => ?_)
                    refine wpAnyH_take (i := 0) (oi := ⟨some 118, _, _, _, _, _⟩) (v := ?_) rfl (by kernel_rfl) (by kernel_rfl) (by kernel_rfl) (fun _ _ _ h => h) (Or.inl ⟨by rfl, ?_⟩) (by assumption) ?_
                    rotate_left
                    · (intro w hSw; (try dsimp only at hSw); go_simp; first | done | with_reducible rfl)
                    try simp only [Act.put, List.setIfInBounds_toArray, List.set_cons_zero, List.set_cons_succ]
                    refine wpAnyH_take (i := 1) (oi := ⟨some 119, _, _, _, _, _⟩) (v := ?_) rfl (by kernel_rfl) (by kernel_rfl) (by kernel_rfl) (fun _ _ _ h => h) (Or.inl ⟨by rfl, ?_⟩) (by assumption) ?_
                    rotate_left
                    · (intro w hSw; (try dsimp only at hSw); go_simp; first | done | with_reducible rfl)
                    try simp only [Act.put, List.setIfInBounds_toArray, List.set_cons_zero, List.set_cons_succ]
                    refine wpAnyH_take (i := 2) (oi := ⟨some 120, _, _, _, _, _⟩) (v := undef) rfl (by kernel_rfl) (by kernel_rfl) (by kernel_rfl) (fun _ _ _ h => h) (Or.inr ⟨by rfl, rfl⟩) (by assumption) ?_
                    try simp only [Act.put, List.setIfInBounds_toArray, List.set_cons_zero, List.set_cons_succ]
                    refine wpAnyH_take (i := 3) (oi := ⟨some 121, _, _, _, _, _⟩) (v := undef) rfl (by kernel_rfl) (by kernel_rfl) (by kernel_rfl) (fun _ _ _ h => h) (Or.inr ⟨by rfl, rfl⟩) (by assumption) ?_
                    try simp only [Act.put, List.setIfInBounds_toArray, List.set_cons_zero, List.set_cons_succ]
                    refine wpAnyH_take (i := 4) (oi := ⟨some 122, _, _, _, _, _⟩) (v := undef) rfl (by kernel_rfl) (by kernel_rfl) (by kernel_rfl) (fun _ _ _ h => h) (Or.inr ⟨by rfl, rfl⟩) (by assumption) ?_
                    try simp only [Act.put, List.setIfInBounds_toArray, List.set_cons_zero, List.set_cons_succ]
                    refine wpAnyH_take (i := 5) (oi := ⟨some 123, _, _, _, _, _⟩) (v := undef) rfl (by kernel_rfl) (by kernel_rfl) (by kernel_rfl) (fun _ _ _ h => h) (Or.inr ⟨by rfl, rfl⟩) (by assumption) ?_
                    try simp only [Act.put, List.setIfInBounds_toArray, List.set_cons_zero, List.set_cons_succ]
                    refine wpAnyH_take (i := 6) (oi := ⟨some 124, _, _, _, _, _⟩) (v := undef) rfl (by kernel_rfl) (by kernel_rfl) (by kernel_rfl) (fun _ _ _ h => h) (Or.inr ⟨by rfl, rfl⟩) (by assumption) ?_
                    try simp only [Act.put, List.setIfInBounds_toArray, List.set_cons_zero, List.set_cons_succ]
                    refine wpAnyH_take (i := 7) (oi := ⟨some 125, _, _, _, _, _⟩) (v := undef) rfl (by kernel_rfl) (by kernel_rfl) (by kernel_rfl) (fun _ _ _ h => h) (Or.inr ⟨by rfl, rfl⟩) (by assumption) ?_
                    try simp only [Act.put, List.setIfInBounds_toArray, List.set_cons_zero, List.set_cons_succ]
                    refine wpAnyH_take (i := 8) (oi := ⟨some 126, _, _, _, _, _⟩) (v := undef) rfl (by kernel_rfl) (by kernel_rfl) (by kernel_rfl) (fun _ _ _ h => h) (Or.inr ⟨by rfl, rfl⟩) (by assumption) ?_
                    try simp only [Act.put, List.setIfInBounds_toArray, List.set_cons_zero, List.set_cons_succ]
                    refine wpAnyH_take (i := 9) (oi := ⟨some 127, _, _, _, _, _⟩) (v := undef) rfl (by kernel_rfl) (by kernel_rfl) (by kernel_rfl) (fun _ _ _ h => h) (Or.inr ⟨by rfl, rfl⟩) (by assumption) ?_
                    try simp only [Act.put, List.setIfInBounds_toArray, List.set_cons_zero, List.set_cons_succ]
                    refine wpAnyH_take (i := 10) (oi := ⟨some 128, _, _, _, _, _⟩) (v := undef) rfl (by kernel_rfl) (by kernel_rfl) (by kernel_rfl) (fun _ _ _ h => h) (Or.inr ⟨by rfl, rfl⟩) (by assumption) ?_
                    try simp only [Act.put, List.setIfInBounds_toArray, List.set_cons_zero, List.set_cons_succ]
                    refine wpAnyH_take (i := 11) (oi := ⟨some 129, _, _, _, _, _⟩) (v := undef) rfl (by kernel_rfl) (by kernel_rfl) (by kernel_rfl) (fun _ _ _ h => h) (Or.inr ⟨by rfl, rfl⟩) (by assumption) ?_
                    try simp only [Act.put, List.setIfInBounds_toArray, List.set_cons_zero, List.set_cons_succ]
                    refine wpAnyH_take (i := 12) (oi := ⟨some 130, _, _, _, _, _⟩) (v := ?_) rfl (by kernel_rfl) (by kernel_rfl) (by kernel_rfl) (fun _ _ _ h => h) (Or.inl ⟨by rfl, ?_⟩) (by assumption) ?_
                    rotate_left
                    · (intro w hSw; (try dsimp only at hSw); go_simp; first | done | with_reducible rfl)
                    try simp only [Act.put, List.setIfInBounds_toArray, List.set_cons_zero, List.set_cons_succ]
                    refine wpAnyH_take (i := 13) (oi := ⟨some 14, _, _, _, _, _⟩) (v := ?_) rfl (by kernel_rfl) (by kernel_rfl) (by kernel_rfl) (fun _ _ _ h => h) (Or.inl ⟨by rfl, ?_⟩) (by assumption) ?_
                    rotate_left
                    · (intro w hSw; (try dsimp only at hSw); go_simp; first | done | with_reducible rfl)
                    try simp only [Act.put, List.setIfInBounds_toArray, List.set_cons_zero, List.set_cons_succ]
                    refine wpAnyH_done (by kernel_rfl) ?_ _
                    go_wp2_with fail
                    refine ⟨⟨i + 1, by omega, rfl, by go_num, hbd⟩, ?_⟩
                    simp [intOf]
                    omega
                  · have q7 : ¬ ((i : Int) < (l.length : Int)) := by omega
                    have HNX : Hid (∃ S wr', BeyS J r q cap tq q2 A0 (2000 + 1000 * (k + 1)) (1 + (k + 1)) S wr' wr) := Lib.hid ⟨_, _, (HB5.out.grown hbel).more (by omega) (by omega)⟩
                    clear hbw hbel k5
                    go_wp2_with fail
                    refine ⟨⟨k + 1, by omega, by omega, by go_num, HNX⟩, ?_⟩
                    simp [intOf]
                    omega
          by_cases h2 : kind = 2
          · as_aux_lemma =>
            subst h2
            clear h1
            go_wp2_with fail
            refine (Sh.sector_any w4 xx hxx).mono ?_
            rintro e w10 ⟨rfl, ho10, hb10⟩
            obtain ⟨o9, D9, U9, F9, BW, BY, LN⟩ := HB2.out
            obtain ⟨g, off, cc, MI⟩ := BW.tab
            have hkA : kk < A0.St * (A0.M - 1) := by rw [HN.out]; exact hkN2
            have kq := MI.cells kk hkA
            have hqlt := MI.lt
            have MI10 := MI.grown hb10
            have c1b := (hb10.cell (p := ⟨r, 1, none⟩) (World.block_lt_of_cell? w4 _ c1)).trans c1
            have t2 := fun W hb => Sh.conv_own (q := w4.heap.size) ho10 (rfl : Sh.strL (Sh.secOf xx) = _) W hb
            have hb8 : Below w10.heap.size w10 (w10.drew.alloc (.cells #[Sh.sv (Sh.secOf xx)] 9)) := (Below.refl _ _).drew.alloc (Nat.le_refl _) _
            have kA := MI10.cells kk hkA
            have kB := (MI10.grown (w' := w10.alloc (.cells #[.string (Sh.strL (Sh.secOf xx))] 9)) ((Below.refl _ _).alloc (Nat.le_refl _) _)).cells kk hkA
            have M0 := Lib.hid (MI10.grown hb8)
            have X0 := Lib.hid (show (w10.drew.alloc (.cells #[Sh.sv (Sh.secOf xx)] 9)).cell? ⟨w10.heap.size, 0, none⟩ = some (Sh.sv (Sh.secOf xx)) from cell_of_row _ _ 0 _ _ _ (heap_alloc_new w10.drew _))
            have t2 := t2 w10.drew ((Below.refl _ _).drew)
            have HB10 := Lib.hid hb10
            have HO10 := Lib.hid ho10
            have HB8 := Lib.hid hb8
            have BW := Lib.hid BW
            have BY := Lib.hid BY
            have LN := Lib.hid LN
            have MI := Lib.hid MI
            clear hb10 ho10 hb8 MI10 kq hqlt HB2 k0 k1 k2 k3 k4 c0 c1 c2 hsz
            unfold Sh.sv at *
            go_upto_region 29 with fail
            go_cut [] from 138 to 148 (fun wx => Hid (BeyW J r q cap tq q2 A0 (2000 + 1000 * k) (1 + k + 1) S1 (pushM wr1 kk (Sh.secOf xx)) (some ⟨w4.heap.size, 0, none⟩) (Sh.secOf xx) wx))
            case first =>
              go_wp2_with fail
              refine wp_region_held_drew (S := fun _ => True) (by kernel_rfl) trivial (fun hHeld => ?_)
              refine wpAnyH_take (i := 0) (oi := ⟨some 138, _, _, _, _, _⟩) (v := ?_) rfl (by kernel_rfl) (by kernel_rfl) (by kernel_rfl) (fun _ _ _ h => h) (Or.inl ⟨by rfl, ?_⟩) (by assumption) ?_
              rotate_left
              · (intro w hSw; (try dsimp only at hSw); go_simp; first | done | with_reducible rfl)
              try simp only [Act.put, List.setIfInBounds_toArray, List.set_cons_zero, List.set_cons_succ]
              refine wpAnyH_take (i := 1) (oi := ⟨some 139, _, _, _, _, _⟩) (v := ?_) rfl (by kernel_rfl) (by kernel_rfl) (by kernel_rfl) (fun _ _ _ h => h) (Or.inl ⟨by rfl, ?_⟩) (by assumption) ?_
              rotate_left
              · (intro w hSw; (try dsimp only at hSw); go_simp; first | done | with_reducible rfl)
              try simp only [Act.put, List.setIfInBounds_toArray, List.set_cons_zero, List.set_cons_succ]
              refine wpAnyH_take (i := 2) (oi := ⟨some 140, _, _, _, _, _⟩) (v := ?_) rfl (by kernel_rfl) (by kernel_rfl) (by kernel_rfl) (fun _ _ _ h => h) (Or.inl ⟨by rfl, ?_⟩) (by assumption) ?_
              rotate_left
              · (intro w hSw; (try dsimp only at hSw); go_simp; first | done | with_reducible rfl)
              try simp only [Act.put, List.setIfInBounds_toArray, List.set_cons_zero, List.set_cons_succ]
              refine wpAnyH_take (i := 3) (oi := ⟨some 141, _, _, _, _, _⟩) (v := ?_) rfl (by kernel_rfl) (by kernel_rfl) (by kernel_rfl) (fun _ _ _ h => h) (Or.inl ⟨by rfl, ?_⟩) (by assumption) ?_
              rotate_left
              · (intro w hSw; (try dsimp only at hSw); go_simp; first | done | with_reducible rfl)
              try simp only [Act.put, List.setIfInBounds_toArray, List.set_cons_zero, List.set_cons_succ]
              refine wpAnyH_take (i := 4) (oi := ⟨some 142, _, _, _, _, _⟩) (v := ?_) rfl (by kernel_rfl) (by kernel_rfl) (by kernel_rfl) (fun _ _ _ h => h) (Or.inl ⟨by rfl, ?_⟩) (by assumption) ?_
              rotate_left
              · (intro w hSw; (try dsimp only at hSw); go_simp; first | done | with_reducible rfl)
              try simp only [Act.put, List.setIfInBounds_toArray, List.set_cons_zero, List.set_cons_succ]
              refine wpAnyH_take (i := 6) (oi := ⟨some 144, _, _, _, _, _⟩) (v := ?_) rfl (by kernel_rfl) (by kernel_rfl) (by kernel_rfl) (fun _ _ _ h => h) (Or.inl ⟨by rfl, ?_⟩) (by assumption) ?_
              rotate_left
              · (intro w hSw; (try dsimp only at hSw); go_simp; first | done | with_reducible rfl)
              try simp only [Act.put, List.setIfInBounds_toArray, List.set_cons_zero, List.set_cons_succ]
              refine wpAnyH_ready (rs := [5, 7]) (by kernel_rfl) (by simp) ?_
              refine AllReadyH.cons (o := ⟨some 143, _, _, _, _, _⟩) rfl (fun K hK => ?_) (AllReadyH.cons (o := ⟨some 145, _, _, _, _, _⟩) rfl (fun K hK => ?_) AllReadyH.nil)
              · go_simp
                refine hK.out _ _ trivial (fun _ => ?_)
                clear hK K
                try simp only [Act.put, List.setIfInBounds_toArray, List.set_cons_zero, List.set_cons_succ]
                refine wpAnyH_ready (rs := [7]) (by kernel_rfl) (by simp) ?_
                refine AllReadyH.cons (o := ⟨some 145, _, _, _, _, _⟩) rfl (fun K hK => ?_) AllReadyH.nil
                go_simp
                refine hK.out _ _ trivial (fun _ => ?_)
                clear hK K
                try simp only [Act.put, List.setIfInBounds_toArray, List.set_cons_zero, List.set_cons_succ]
                refine wpAnyH_ready (rs := [8]) (by kernel_rfl) (by simp) ?_
                refine AllReadyH.cons (o := ⟨some 146, _, _, _, _, _⟩) rfl (fun K hK => ?_) AllReadyH.nil
                go_simp
                refine hK.out _ _ trivial (fun _ => ?_)
                clear hK K
                try simp only [Act.put, List.setIfInBounds_toArray, List.set_cons_zero, List.set_cons_succ]
                refine wpAnyH_ready (rs := [9]) (by kernel_rfl) (by simp) ?_
                refine AllReadyH.cons (o := ⟨some 147, _, _, _, _, _⟩) rfl (fun K hK => ?_) AllReadyH.nil
                rw [if_pos (by rfl)]
                refine wp_append_mids (.tmp 143) (.tmp 146) rfl (g := g kk) (off := off kk) (n := (wr1 kk).length) (c := cc kk) (cc := 1) (b := Sh.secOf xx) (l := wr1 kk) (ad := ⟨w10.heap.size, 0, none⟩) rfl rfl (M0.out.mid kk hkA) X0.out (by have := (LN.out kk hkA).2; omega) (fun g' off' c' w12 hm12 hg12 ho12 => ?_)
                refine hK.out _ _ trivial (fun _ => ?_)
                clear hK K
                try simp only [Act.put, List.setIfInBounds_toArray, List.set_cons_zero, List.set_cons_succ]
                refine wpAnyH_take (i := 10) (oi := ⟨some 148, _, _, _, _, _⟩) (v := ?_) rfl (by kernel_rfl) (by kernel_rfl) (by kernel_rfl) (fun _ _ _ h => h) (Or.inl ⟨by rfl, ?_⟩) (by assumption) ?_
                rotate_left
                · (intro w hSw; (try dsimp only at hSw); go_simp; first | done | with_reducible rfl)
                try simp only [Act.put, List.setIfInBounds_toArray, List.set_cons_zero, List.set_cons_succ]
                have HR := Lib.hid (BeyW.appended BW.out MI.out BY.out LN.out HB10.out HO10.out HB8.out hkA hg12 hm12 ho12)
                have kc := cell_at12N M0.out hkA hg12
                clear hm12 hg12 ho12
                refine wpAnyH_ready (rs := [11]) (by kernel_rfl) (by simp) ?_
                refine AllReadyH.cons (o := ⟨none, _, _, _, _, _⟩) rfl (fun K hK => ?_) AllReadyH.nil
                go_simp
                refine hK.out _ _ trivial (fun _ => ?_)
                clear hK K
                try simp only [Act.put, List.setIfInBounds_toArray, List.set_cons_zero, List.set_cons_succ]
                refine wpAnyH_done (by kernel_rfl) ?_ _
                clear kc kA kB t2
                go_wp2_with fail
                go_meet
                exact HR
              · go_simp
                refine hK.out _ _ trivial (fun _ => ?_)
                clear hK K
                try simp only [Act.put, List.setIfInBounds_toArray, List.set_cons_zero, List.set_cons_succ]
                refine wpAnyH_ready (rs := [5, 8]) (by kernel_rfl) (by simp) ?_
                refine AllReadyH.cons (o := ⟨some 143, _, _, _, _, _⟩) rfl (fun K hK => ?_) (AllReadyH.cons (o := ⟨some 146, _, _, _, _, _⟩) rfl (fun K hK => ?_) AllReadyH.nil)
                · go_simp
                  refine hK.out _ _ trivial (fun _ => ?_)
                  clear hK K
                  try simp only [Act.put, List.setIfInBounds_toArray, List.set_cons_zero, List.set_cons_succ]
                  refine wpAnyH_ready (rs := [8]) (by kernel_rfl) (by simp) ?_
                  refine AllReadyH.cons (o := ⟨some 146, _, _, _, _, _⟩) rfl (fun K hK => ?_) AllReadyH.nil
                  go_simp
                  refine hK.out _ _ trivial (fun _ => ?_)
                  clear hK K
                  try simp only [Act.put, List.setIfInBounds_toArray, List.set_cons_zero, List.set_cons_succ]
                  refine wpAnyH_ready (rs := [9]) (by kernel_rfl) (by simp) ?_
                  refine AllReadyH.cons (o := ⟨some 147, _, _, _, _, _⟩) rfl (fun K hK => ?_) AllReadyH.nil
                  rw [if_pos (by rfl)]
                  refine wp_append_mids (.tmp 143) (.tmp 146) rfl (g := g kk) (off := off kk) (n := (wr1 kk).length) (c := cc kk) (cc := 1) (b := Sh.secOf xx) (l := wr1 kk) (ad := ⟨w10.heap.size, 0, none⟩) rfl rfl (M0.out.mid kk hkA) X0.out (by have := (LN.out kk hkA).2; omega) (fun g' off' c' w12 hm12 hg12 ho12 => ?_)
                  refine hK.out _ _ trivial (fun _ => ?_)
                  clear hK K
                  try simp only [Act.put, List.setIfInBounds_toArray, List.set_cons_zero, List.set_cons_succ]
                  refine wpAnyH_take (i := 10) (oi := ⟨some 148, _, _, _, _, _⟩) (v := ?_) rfl (by kernel_rfl) (by kernel_rfl) (by kernel_rfl) (fun _ _ _ h => h) (Or.inl ⟨by rfl, ?_⟩) (by assumption) ?_
                  rotate_left
                  · (intro w hSw; (try dsimp only at hSw); go_simp; first | done | with_reducible rfl)
                  try simp only [Act.put, List.setIfInBounds_toArray, List.set_cons_zero, List.set_cons_succ]
                  have HR := Lib.hid (BeyW.appended BW.out MI.out BY.out LN.out HB10.out HO10.out HB8.out hkA hg12 hm12 ho12)
                  have kc := cell_at12N M0.out hkA hg12
                  clear hm12 hg12 ho12
                  refine wpAnyH_ready (rs := [11]) (by kernel_rfl) (by simp) ?_
                  refine AllReadyH.cons (o := ⟨none, _, _, _, _, _⟩) rfl (fun K hK => ?_) AllReadyH.nil
                  go_simp
                  refine hK.out _ _ trivial (fun _ => ?_)
                  clear hK K
                  try simp only [Act.put, List.setIfInBounds_toArray, List.set_cons_zero, List.set_cons_succ]
                  refine wpAnyH_done (by kernel_rfl) ?_ _
                  clear kc kA kB t2
                  go_wp2_with fail
                  go_meet
                  exact HR
                · go_simp
                  refine hK.out _ _ trivial (fun _ => ?_)
                  clear hK K
                  try simp only [Act.put, List.setIfInBounds_toArray, List.set_cons_zero, List.set_cons_succ]
                  refine wpAnyH_ready (rs := [5]) (by kernel_rfl) (by simp) ?_
                  refine AllReadyH.cons (o := ⟨some 143, _, _, _, _, _⟩) rfl (fun K hK => ?_) AllReadyH.nil
                  go_simp
                  refine hK.out _ _ trivial (fun _ => ?_)
                  clear hK K
                  try simp only [Act.put, List.setIfInBounds_toArray, List.set_cons_zero, List.set_cons_succ]
                  refine wpAnyH_ready (rs := [9]) (by kernel_rfl) (by simp) ?_
                  refine AllReadyH.cons (o := ⟨some 147, _, _, _, _, _⟩) rfl (fun K hK => ?_) AllReadyH.nil
                  rw [if_pos (by rfl)]
                  refine wp_append_mids (.tmp 143) (.tmp 146) rfl (g := g kk) (off := off kk) (n := (wr1 kk).length) (c := cc kk) (cc := 1) (b := Sh.secOf xx) (l := wr1 kk) (ad := ⟨w10.heap.size, 0, none⟩) rfl rfl (M0.out.mid kk hkA) X0.out (by have := (LN.out kk hkA).2; omega) (fun g' off' c' w12 hm12 hg12 ho12 => ?_)
                  refine hK.out _ _ trivial (fun _ => ?_)
                  clear hK K
                  try simp only [Act.put, List.setIfInBounds_toArray, List.set_cons_zero, List.set_cons_succ]
                  refine wpAnyH_take (i := 10) (oi := ⟨some 148, _, _, _, _, _⟩) (v := ?_) rfl (by kernel_rfl) (by kernel_rfl) (by kernel_rfl) (fun _ _ _ h => h) (Or.inl ⟨by rfl, ?_⟩) (by assumption) ?_
                  rotate_left
                  · (intro w hSw; (try dsimp only at hSw); go_simp; first | done | with_reducible rfl)
                  try simp only [Act.put, List.setIfInBounds_toArray, List.set_cons_zero, List.set_cons_succ]
                  have HR := Lib.hid (BeyW.appended BW.out MI.out BY.out LN.out HB10.out HO10.out HB8.out hkA hg12 hm12 ho12)
                  have kc := cell_at12N M0.out hkA hg12
                  clear hm12 hg12 ho12
                  refine wpAnyH_ready (rs := [11]) (by kernel_rfl) (by simp) ?_
                  refine AllReadyH.cons (o := ⟨none, _, _, _, _, _⟩) rfl (fun K hK => ?_) AllReadyH.nil
                  go_simp
                  refine hK.out _ _ trivial (fun _ => ?_)
                  clear hK K
                  try simp only [Act.put, List.setIfInBounds_toArray, List.set_cons_zero, List.set_cons_succ]
                  refine wpAnyH_done (by kernel_rfl) ?_ _
                  clear kc kA kB t2
                  go_wp2_with fail
                  go_meet
                  exact HR
            case rest =>
              have HCW := hcut
              clear hcut
              clear kA kB t2 M0 X0
              have HWR := Lib.hid (HCW.out.write (c := 128) HS.out HTJ.out (by omega) hkA (Sh.secOf_sec hxx) (push_in wr1 kk (Sh.secOf xx)).1)
              obtain ⟨x0, x1, x2, _⟩ := HCW.out.bey.cells
              go_wp2_with fail
              refine HWR.out.mono ?_
              rintro e w5 ⟨y, S2, rfl, hb5, hsp, hy⟩
              obtain ⟨kd, hkd, hcnt⟩ := hsp.diff (by decide)
              have HB5 := Lib.hid hb5
              obtain ⟨x0, x1, x2, _⟩ := hb5.cells
              have HCT := Lib.hid (fun w' hb => HB5.out.count (w' := w') hb)
              have hle : wrap64 (S2.count - S1.count) ≤ 1200 := by rw [hcnt]; omega
              clear hcnt hkd
              have HNX : Hid (∃ S wr', BeyS J r q cap tq q2 A0 (2000 + 1000 * (k + 1)) (1 + (k + 1)) S wr' w5) := Lib.hid ⟨_, _, hb5.more (by omega) (by omega)⟩
              clear hb5 hsp HWR HCW HB5
              rcases hy with rfl | rfl | rfl
              · go_wp2_with fail
                refine (HCT.out _ (Below.refl _ _)).mono ?_
                rintro e w' ⟨rfl, rfl⟩
                clear HCT
                go_wp2_with fail
                refine ⟨⟨k + 1, by omega, by omega, by go_num, HNX⟩, ?_⟩
                simp [intOf]
                omega
              · go_wp2_with fail
                refine (HCT.out _ (Below.refl _ _)).mono ?_
                rintro e w' ⟨rfl, rfl⟩
                clear HCT
                go_wp2_with fail
                refine ⟨⟨k + 1, by omega, by omega, by go_num, HNX⟩, ?_⟩
                simp [intOf]
                omega
              · go_wp2_with fail
                refine (HCT.out _ (Below.refl _ _)).mono ?_
                rintro e w' ⟨rfl, rfl⟩
                clear HCT
                go_wp2_with fail
                refine ⟨⟨k + 1, by omega, by omega, by go_num, HNX⟩, ?_⟩
                simp [intOf]
                omega
          by_cases h3 : kind = 3
          · as_aux_lemma =>
            subst h3
            clear h1 h2
            have HWR := Lib.hid (HB2.out.flush HS.out HTJ.out (by omega))
            go_wp2_with fail
            refine HWR.out.mono ?_
            rintro e w5 ⟨y, S2, rfl, hb5, hsp, hy⟩
            obtain ⟨kd, hkd, hcnt⟩ := hsp.diff (by decide)
            have HB5 := Lib.hid hb5
            obtain ⟨x0, x1, x2, _⟩ := hb5.cells
            have HCT := Lib.hid (fun w' hb => HB5.out.count (w' := w') hb)
            have hle : wrap64 (S2.count - S1.count) ≤ 1200 := by rw [hcnt]; omega
            clear hcnt hkd
            have HNX : Hid (∃ S wr', BeyS J r q cap tq q2 A0 (2000 + 1000 * (k + 1)) (1 + (k + 1)) S wr' w5) := Lib.hid ⟨_, _, hb5.more (by omega) (by omega)⟩
            clear hb5 hsp HWR HB5 k0 k1 k2 k3 k4 c0 c1 c2 hsz HB2
            rcases hy with rfl | rfl
            · go_wp2_with fail
              refine (HCT.out _ (Below.refl _ _)).mono ?_
              rintro e w' ⟨rfl, rfl⟩
              clear HCT
              go_wp2_with fail
              refine ⟨⟨k + 1, by omega, by omega, by go_num, HNX⟩, ?_⟩
              simp [intOf]
              omega
            · go_wp2_with fail
              refine (HCT.out _ (Below.refl _ _)).mono ?_
              rintro e w' ⟨rfl, rfl⟩
              clear HCT
              go_wp2_with fail
              refine ⟨⟨k + 1, by omega, by omega, by go_num, HNX⟩, ?_⟩
              simp [intOf]
              omega
          by_cases h4 : kind = 4
          · as_aux_lemma =>
            subst h4
            clear h1 h2 h3
            have HST := Lib.hid (fun w' (hb : Below w4.heap.size w4 w') => (HB2.out.grown hb).stop on hi1.1 hi1.2)
            go_wp2_with fail
            go_region_with (go_at_call 20; refine (HST.out _ ((Below.refl _ _).drew)).mono ?_; rintro e w5 ⟨rfl, hb5⟩)
            all_goals
              have HNX : Hid (∃ S wr', BeyS J r q cap tq q2 A0 (2000 + 1000 * (k + 1)) (1 + (k + 1)) S wr' w5) := Lib.hid ⟨_, _, hb5.more (by omega) (by omega)⟩
              clear hb5 HST HB2 k0 k1 k2 k3 k4 c0 c1 c2 hsz
              go_wp2_with fail
              refine ⟨⟨k + 1, by omega, by omega, by go_num, HNX⟩, ?_⟩
              simp [intOf]
              omega
          by_cases h6 : kind = 6
          · as_aux_lemma =>
            subst h6
            clear h1 h2 h3 h4
            obtain ⟨dd, hdd⟩ : ∃ dd, (od % ((A0.M + 1 : Nat) : Int)).toNat = dd := ⟨_, rfl⟩
            have hd2 : dd < A0.n := by have := HS.out.n1; have := Int.emod_lt_of_pos od (show (0 : Int) < ((A0.M + 1 : Nat) : Int) by omega); omega
            have HMD := Lib.hid (fun w' => mod8_any od (A0.M + 1) (by omega) (by have := HM.out; omega) w')
            rw [hdd] at HMD
            clear hdd
            have HKL := Lib.hid (fun w' (hb : Below w4.heap.size w4 w') => HB1.out.kill HS.out hd2 (by rw [HOB.out]; exact HBL.out.trans (hb.mono (by rw [← HOB.out]; exact HBL.out.size))))
            have hm17 : (A0.M : Int) ≤ 16 := by have := HM.out; omega
            have hw : IntKind.i64.wrap ((A0.M : Int) + 1) = (A0.M : Int) + 1 := IntWalk.i64_in _ ⟨by omega, by omega⟩
            go_wp2_with fail
            refine wp_region_held_drew (S := fun W' => W'.cell? ⟨r, 0, none⟩ = some (.pointer (some ⟨J.p, 0, none⟩)) ∧ W'.cell? ⟨r, 2, none⟩ = some (.int .i64 A0.M) ∧ W'.cell? ⟨ob, 2, none⟩ = some (.int .i64 od)) (by kernel_rfl) ⟨c0, c2, k2⟩ (fun hHeld => ?_)
            refine wpAnyH_take (i := 0) (oi := ⟨some 210, _, _, _, _, _⟩) (v := ?_) rfl (by kernel_rfl) (by kernel_rfl) (by kernel_rfl) (fun _ _ _ h => h) (Or.inl ⟨by rfl, ?_⟩) (by assumption) ?_
            rotate_left
            · (intro w hSw; (try dsimp only at hSw); go_simp; first | done | with_reducible rfl)
            try simp only [Act.put, List.setIfInBounds_toArray, List.set_cons_zero, List.set_cons_succ]
            refine wpAnyH_take (i := 1) (oi := ⟨some 211, _, _, _, _, _⟩) (v := ?_) rfl (by kernel_rfl) (by kernel_rfl) (by kernel_rfl) (fun _ _ _ h => h) (Or.inl ⟨by rfl, ?_⟩) (by assumption) ?_
            rotate_left
            · (intro w hSw; (try dsimp only at hSw); go_simp; first | done | with_reducible rfl)
            try simp only [Act.put, List.setIfInBounds_toArray, List.set_cons_zero, List.set_cons_succ]
            refine wpAnyH_take (i := 2) (oi := ⟨some 212, _, _, _, _, _⟩) (v := ?_) rfl (by kernel_rfl) (by kernel_rfl) (by kernel_rfl) (fun _ _ _ h => h) (Or.inl ⟨by rfl, ?_⟩) (by assumption) ?_
            rotate_left
            · (intro w hSw; (try dsimp only at hSw); go_simp; first | done | with_reducible rfl)
            try simp only [Act.put, List.setIfInBounds_toArray, List.set_cons_zero, List.set_cons_succ]
            refine wpAnyH_take (i := 4) (oi := ⟨some 214, _, _, _, _, _⟩) (v := ?_) rfl (by kernel_rfl) (by kernel_rfl) (by kernel_rfl) (fun _ _ _ h => h) (Or.inl ⟨by rfl, ?_⟩) (by assumption) ?_
            rotate_left
            · (intro w hSw; (try dsimp only at hSw); go_simp; first | done | with_reducible rfl)
            try simp only [Act.put, List.setIfInBounds_toArray, List.set_cons_zero, List.set_cons_succ]
            refine wpAnyH_take (i := 6) (oi := ⟨some 216, _, _, _, _, _⟩) (v := ?_) rfl (by kernel_rfl) (by kernel_rfl) (by kernel_rfl) (fun _ _ _ h => h) (Or.inl ⟨by rfl, ?_⟩) (by assumption) ?_
            rotate_left
            · (intro w hSw; (try dsimp only at hSw); go_simp; first | done | with_reducible rfl)
            try simp only [Act.put, List.setIfInBounds_toArray, List.set_cons_zero, List.set_cons_succ]
            refine wpAnyH_take (i := 7) (oi := ⟨some 217, _, _, _, _, _⟩) (v := ?_) rfl (by kernel_rfl) (by kernel_rfl) (by kernel_rfl) (fun _ _ _ h => h) (Or.inl ⟨by rfl, ?_⟩) (by assumption) ?_
            rotate_left
            · (intro w hSw; (try dsimp only at hSw); go_simp; first | done | with_reducible rfl)
            try simp only [Act.put, List.setIfInBounds_toArray, List.set_cons_zero, List.set_cons_succ]
            refine wpAnyH_take (i := 8) (oi := ⟨some 218, _, _, _, _, _⟩) (v := ?_) rfl (by kernel_rfl) (by kernel_rfl) (by kernel_rfl) (fun _ _ _ h => h) (Or.inl ⟨by rfl, ?_⟩) (by assumption) ?_
            rotate_left
            · (intro w hSw; (try dsimp only at hSw); go_simp; first | done | with_reducible rfl)
            try simp only [Act.put, List.setIfInBounds_toArray, List.set_cons_zero, List.set_cons_succ]
            refine wpAnyH_take (i := 3) (oi := ⟨some 213, _, _, _, _, _⟩) (v := ?_) rfl (by kernel_rfl) (by kernel_rfl) (by kernel_rfl) (fun _ _ _ h => h) (Or.inl ⟨by rfl, ?_⟩) (by assumption) ?_
            rotate_left
            · (intro w hSw; obtain ⟨hSa, hSb, hSc⟩ := hSw; (try dsimp only at hSw); go_simp; first | done | with_reducible rfl)
            try simp only [Act.put, List.setIfInBounds_toArray, List.set_cons_zero, List.set_cons_succ]
            refine wpAnyH_take (i := 5) (oi := ⟨some 215, _, _, _, _, _⟩) (v := ?_) rfl (by kernel_rfl) (by kernel_rfl) (by kernel_rfl) (fun _ _ _ h => h) (Or.inl ⟨by rfl, ?_⟩) (by assumption) ?_
            rotate_left
            · (intro w hSw; obtain ⟨hSa, hSb, hSc⟩ := hSw; (try dsimp only at hSw); go_simp; first | done | with_reducible rfl)
            try simp only [Act.put, List.setIfInBounds_toArray, List.set_cons_zero, List.set_cons_succ]
            refine wpAnyH_take (i := 9) (oi := ⟨some 219, _, _, _, _, _⟩) (v := ?_) rfl (by kernel_rfl) (by kernel_rfl) (by kernel_rfl) (fun _ _ _ h => h) (Or.inl ⟨by rfl, ?_⟩) (by assumption) ?_
            rotate_left
            · (intro w hSw; obtain ⟨hSa, hSb, hSc⟩ := hSw; (try dsimp only at hSw); go_simp; first | done | with_reducible rfl)
            try simp only [Act.put, List.setIfInBounds_toArray, List.set_cons_zero, List.set_cons_succ]
            refine wpAnyH_take (i := 10) (oi := ⟨some 220, _, _, _, _, _⟩) (v := ?_) rfl (by kernel_rfl) (by kernel_rfl) (by kernel_rfl) (fun _ _ _ h => h) (Or.inl ⟨by rfl, ?_⟩) (by assumption) ?_
            rotate_left
            · (intro w hSw; (try dsimp only at hSw); go_simp; first | done | with_reducible rfl)
            try simp only [Act.put, List.setIfInBounds_toArray, List.set_cons_zero, List.set_cons_succ]
            refine wpAnyH_ready (rs := [11]) (by kernel_rfl) (by simp) ?_
            refine AllReadyH.cons (o := ⟨some 221, _, _, _, _, _⟩) rfl (fun K hK => ?_) AllReadyH.nil
            go_simp
            refine (HMD.out _).mono ?_
            rintro e w' ⟨rfl, rfl⟩
            refine hK.out _ _ hHeld (fun hHeld => ?_)
            clear hK K
            try simp only [Act.put, List.setIfInBounds_toArray, List.set_cons_zero, List.set_cons_succ]
            refine wpAnyH_ready (rs := [12]) (by kernel_rfl) (by simp) ?_
            refine AllReadyH.cons (o := ⟨some 222, _, _, _, _, _⟩) rfl (fun K hK => ?_) AllReadyH.nil
            go_simp
            refine (HKL.out _ ((Below.refl _ _).drew)).mono ?_
            rintro e w5 ⟨rfl, hb5, hkeep⟩
            refine hK.out _ _ ⟨hb5.cells.1, hb5.cells.2.2.1, ?_⟩ (fun hHeld => ?_)
            · exact (World.cell?_of_block (a := ⟨ob, 2, none⟩) (hkeep ob (by rw [HOB.out]; exact Nat.le_refl _) hsz)).trans k2
            clear hK K
            try simp only [Act.put, List.setIfInBounds_toArray, List.set_cons_zero, List.set_cons_succ]
            refine wpAnyH_done (by kernel_rfl) ?_ _
            have HNX : Hid (∃ S wr', BeyS J r q cap tq q2 A0 (2000 + 1000 * (k + 1)) (1 + (k + 1)) S wr' w5) := Lib.hid ⟨_, _, hb5.more (by omega) (by omega)⟩
            clear hb5 hkeep HKL HB2 HB1 k0 k1 k2 k3 k4 c0 c1 c2 hsz hHeld
            go_wp2_with fail
            refine ⟨⟨k + 1, by omega, by omega, by go_num, HNX⟩, ?_⟩
            simp [intOf]
            omega
          have h1' : (kind == 1) = false := by simpa using h1
          have h2' : (kind == 2) = false := by simpa using h2
          have h3' : (kind == 3) = false := by simpa using h3
          have h4' : (kind == 4) = false := by simpa using h4
          have h6' : (kind == 6) = false := by simpa using h6
          have HNX : Hid (∃ S wr', BeyS J r q cap tq q2 A0 (2000 + 1000 * (k + 1)) (1 + (k + 1)) S wr' w4) := Lib.hid ⟨_, _, HB2.out.more (by omega) (by omega)⟩
          clear h1 h2 h3 h4 h6 c0 c1 c2 hsz k1 k2 k3 k4 HB2
          go_wp2_with fail
          refine ⟨⟨k + 1, by omega, by omega, by go_num, HNX⟩, ?_⟩
          simp [intOf]
          omega
        · have q3 : ¬ ((k : Int) < (n : Int) ∧ (k : Int) < 150) := by omega
          have HE : Hid (Below w.heap.size w wr) := Lib.hid (by obtain ⟨S1, wr1, hB1⟩ := HBr.out; have := hB1.bel.1; rw [HJ.out.1, HJ.out.2] at this; exact this)
          clear HBr
          by_cases h1 : k < n
          · have q5 : (k : Int) < (n : Int) := by omega
            have q6 : ¬ ((k : Int) < 150) := by omega
            clear q3 hlt
            go_wp2
            go_ret
            exact ⟨rfl, HE.out⟩
          · have q5 : ¬ ((k : Int) < (n : Int)) := by omega
            clear q3 hlt
            go_wp2
            go_ret
            exact ⟨rfl, HE.out⟩
set_option maxRecDepth 100000 in
/-- WHAT THE WALK GIVES, FOR EVERY ARGUMENT AND EVERY WORLD THAT HOLDS THE TABLES. -/
theorem contract (H : Type) (enc : TypeId × Value → H) (W : World) (base : Nat) (args : Array Value) (ds gs : List (DataW H)) (before : List MemPlace)
    (hval : ∀ (j : Nat) t v, Tryz.f5.params[j]? = some t → args[j]? = some v → Value.okWide Tryz.prog W .any base t v)
    (hW : DataW.Whole enc Tryz.prog Tryz.f5.params.toList Rows.raidBeyondSpec.vars false W args.toList ds gs before)
    (hsz : (DataW.weightsEach Tryz.prog (Tryz.f5.params.toList ++ (OpenSpec.ofChange Rows.raidBeyondSpec).bare.plain.varTypes Tryz.prog) (ds ++ gs)).all (· ≤ reachBytes) = true) (hL : laidMetH Tryz.prog laidBoth W) :
    Calls Tryz.prog 5 args W fun e W' => ∃ v, e = .returned v ∧ Rows.raidBeyondSpec.post enc Tryz.prog Tryz.f5 false true false false W args v W' := by
  have hW' := hW
  obtain ⟨p, q, hA0, hV, rfl, hfz, hnd⟩ := hW
  have hA : DataW.TrodAll enc Tryz.prog W 0 (fun _ => true) true Tryz.f5.params.toList args.toList ds p := hA0
  have hsz2 : (DataW.weightsEach Tryz.prog (Tryz.f5.params.toList ++ []) (ds ++ gs)).all (· ≤ reachBytes) = true := hsz
  rw [Tryz.params5] at hA hval hsz2
  obtain ⟨v0, vs0, d0, ds0, p0, q0, hargs, rfl, rfl, h0, r0⟩ := trodAll_cons hA
  obtain ⟨v1, vs1, d1, ds1, p1, q1, rfl, rfl, rfl, h1, r1⟩ := trodAll_cons r0
  obtain ⟨rfl, rfl, rfl⟩ := trodAll_nil r1
  obtain rfl : args = #[v0, v1] := by cases args; simp_all
  obtain ⟨rfl, rfl⟩ := trodVars_none hV
  obtain ⟨a0, rfl, rfl, rfl, w0⟩ := open_int Tryz.underlying3 (hval 0 3 v0 rfl rfl) h0
  have bd0 := bounds_i64 w0
  obtain ⟨A1, n1, c1, rfl⟩ := okWide_slice Tryz.underlying22 (hval 1 22 v1 rfl rfl)
  have k1 := h1
  have lt1 : ∀ x ∈ p1, x.block < W.heap.size := by obtain ⟨m, hm⟩ := k1; exact DataW.trod_lt m _ _ _ hm
  obtain ⟨f1, hl1⟩ : ∃ f, Sh.Ops8 W A1 n1 f := by obtain ⟨fuel, hf⟩ := h1; exact Sh.ops_in (by simpa [Value.cells] using hf)
  have hT := tabs_of_laid hL
  refine (walk a0 bd0.1 bd0.2 A1 n1 c1 f1 hl1 hT).mono fun e W' ⟨he, bel⟩ => ?_
  subst he
  exact ⟨_, rfl, _, _, _, [], _, [], hW', trodAll_mk1 (shut_bool Tryz.underlying4 _), (trodAll_cons_mk (shut_int Tryz.underlying3 w0) (trodAll_cons_mk (Below.trod laidOut (by kernel_rfl) (of_decide_eq_true (by kernel_rfl)) k1 bel lt1) trodAll_mk0)), rfl, bel.frame _, fun h => by cases h⟩

theorem laid_met (os : Os) : laidMetH Tryz.prog laidBoth ((laidWorld os).forCall (fun _ _ => 0) ⟨#[], #[.int .i64 0, .slice none 0 0], []⟩).memory :=
  laidMetH_of_parts3 (fuel := 8) (laidMet_of_run' 8 (by kernel_rfl) (by kernel_rfl)) (by kernel_rfl) (by kernel_rfl)
theorem reads (os : Os) {H : Type} (enc : TypeId × Value → H) : ∃ places, DataW.whole enc Tryz.prog ((laidWorld os).forCall (fun _ _ => 0) ⟨#[], #[.int .i64 0, .slice none 0 0], []⟩).memory Tryz.f5.params.toList Rows.raidBeyondSpec.vars false (#[.int .i64 0, .slice none 0 0] : Array Value).toList 8 = some ([.lit (.int .i64 0), .nil], [], places) :=
  ⟨[], by kernel_rfl⟩
set_option maxRecDepth 100000 in
theorem lifted (os : Os) (started : os.Started) (H : Type) (enc : TypeId × Value → H) (F : Stop.Interp) :
    ReturnsInHanded {} Tryz.checked os 5 .any ((OpenSpec.ofChange Rows.raidBeyondSpec).preRow enc Tryz.prog Tryz.f5 Rows.raidBeyondRow.domain false Rows.raidBeyondRow.laid) (((OpenSpec.ofChange Rows.raidBeyondSpec).at F).post enc Tryz.prog Tryz.f5 false true false false) := by
  obtain ⟨places, hx⟩ := reads os enc
  refine returnsInHanded_of_row (C := Tryz.checked) (s := (OpenSpec.ofChange Rows.raidBeyondSpec)) own started (by kernel_rfl) Tryz.func5
    (witness_row_at (enc := enc) (C := Tryz.checked) false (laidWorld os) #[.int .i64 0, .slice none 0 0] rfl (by kernel_rfl) (by kernel_rfl) (by kernel_rfl)
      (OpenSpec.preRow_of_cond 8 hx (by kernel_rfl) (fun k hk => by cases hk) (by kernel_rfl) (laid_met os))) ?_
  intro W base args ds gs before hval hW _ hcond hsz hL _ _
  exact contract H enc W base args ds gs before hval hW hsz hL
theorem said : Rows.RaidBeyondSaid :=
  OpenClaim.holds_of_cond 5 Tryz.f5 rfl rfl rfl rfl rfl rfl rfl ⟨rfl, rfl, rfl, rfl, rfl⟩ rfl rfl rfl rfl rfl (by kernel_rfl) Tryz.func5 (by kernel_rfl)
    (of_decide_eq_true (by kernel_rfl)) (by unfold Func.isWrapper; first | (rw [if_pos (by decide +kernel)]; kernel_rfl) | (rw [if_neg (by decide +kernel)]; exact ⟨rfl, rfl⟩))
    (fun os started H enc _ F => by rw [OpenClaim.pre_eq_preRow]; exact lifted os started H enc F)
theorem plain (f : FuncId) (fn : Func) (hf : Tryz.pinned.checked.prog.funcNamed "ashlar/ashlarlaw08.RaidBeyond" = some f) (hfn : Tryz.pinned.checked.prog.funcs[f]? = some fn) :
    false = Tryz.pinned.checked.prog.looks [] ∧ ∀ (j : Nat) t, fn.params[j]? = some t → Tryz.pinned.checked.prog.wantsStandIn t = false := by
  obtain rfl : f = 5 := Option.some.inj ((show Tryz.prog.funcNamed "ashlar/ashlarlaw08.RaidBeyond" = some 5 by kernel_rfl).symm.trans hf) |>.symm
  obtain rfl : fn = Tryz.f5 := (Option.some.inj (Tryz.func5.symm.trans hfn)).symm
  refine ⟨by kernel_rfl, fun j t ht => ?_⟩
  rw [Tryz.params5] at ht
  have hm : t ∈ [3, 22] := by simpa using Array.mem_of_getElem? ht
  have hall : ([3, 22].all fun u => !Tryz.prog.wantsStandIn u) = true := by kernel_rfl
  exact (show Tryz.prog.wantsStandIn t = false by simpa using List.all_eq_true.1 hall t hm)

/-- ████ THE CARD ████ -/
theorem card : Rows.RaidBeyondCardSaid :=
  Claim7.holds_tied_plain_at .later [] _ _ _ _ said (fun _ h => by cases h) (by kernel_rfl) (fun _ h => by cases h) raidBeyond_row_tie rfl ⟨rfl, rfl⟩ (by kernel_rfl) rfl plain (by kernel_rfl)
end Go.Proofs.YtgebkmpmnjhceaaGreatDoor.U.raidBeyond
