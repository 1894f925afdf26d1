/-
  RaidMends is true: of a stripe one block at most is bad: each read tells it all the same and puts it right, Mend puts a stripe right and tells how many blocks it wrote, Whole finds it whole.
  Conditions: the package-level variables start as the program's text lays them.
-/
import Derived.Test.YtgebkmpmnjhceaaGreatDoorV38
import Derived.Test.YtgebkmpmnjhceaaGreatDoorV37
import Derived.Test.YtgebkmpmnjhceaaGreatDoorV36
import Derived.Test.YtgebkmpmnjhceaaGreatDoorV35
import Derived.Test.YtgebkmpmnjhceaaGreatDoorV34
import Derived.Test.YtgebkmpmnjhceaaGreatDoorV33
import Derived.Test.YtgebkmpmnjhceaaGreatDoorV32
import Derived.Deep.CutBlock
import Derived.Deep.DeepCutAuto
namespace Go.Proofs.YtgebkmpmnjhceaaGreatDoor.U.raidMends
open Go.ChangeShapes Go.WideShapes Go.ChangeAt Go.RowKit Go.Maps
set_option maxRecDepth 100000 in
set_option maxHeartbeats 16000000 in
theorem walk {w : World} (a : Int) (_ : -9223372036854775808 ≤ a) (_ : a ≤ 9223372036854775807) (b : Int) (_ : -9223372036854775808 ≤ b) (_ : b ≤ 9223372036854775807) (c : Int) (_ : -9223372036854775808 ≤ c) (_ : c ≤ 9223372036854775807) (A : Option Addr) (n cp : Nat) (f : Nat → Sh.Op8) (hl : Sh.Ops8 w A n f) (rd : Bool) (hT : All w) :
    Calls Tryz.prog 4 #[.int .i64 a, .int .i64 b, .int .i64 c, .slice A n cp, .bool rd] w fun e w' => e = .returned (.bool true) ∧ Below w.heap.size w w' := by
  have HTB : Hid (Tbl w.heap.size w) := Lib.hid ⟨hT.tabs, hT.tabs.size, hT.wid, hT.wid.size, hT.fld, hT.fld.size, hT.lay, hT.lay.size⟩
  have HA := Lib.hid hT
  have hnn := hl.1
  have HL := Lib.hid hl
  have HBG := Lib.hid (begin_full (Below.refl w.heap.size w) (Nat.le_refl _) HTB.out.b4 a b c)
  clear hl hT
  go_enter Tryz.func4, Tryz.ntmps4
  go_wp2_with fail
  refine HBG.out.mono ?_
  rintro e w1 ⟨r, p, M, St, L, rfl, ⟨J, S, o, F, hJB, hJW, rfl, hR, hbn, m3, m16, s1, s6, l1, l8, h90⟩, _, _⟩
  have hbel := hR.vr.bel
  rw [hJB, hJW] at hbel
  have HLI := Lib.hid (lives_true w1 (HA.out.over hbel).tabs (HA.out.over hbel).fld (HA.out.over hbel).wid)
  have hbk : 2 + 2 * L + St ≤ blk 40 := by rw [blk40']; omega
  have hsd := said_new m3 m16 s1 (by omega) l1 l8 (n := M + 1) (.inr rfl)
  have hiw := begun_iw hR hbn m3 m16 s1 (by omega) l1 l8 (.inr rfl) hbk
  have hpos : 0 < St * (M - 1) := Nat.mul_pos (by omega) (by omega)
  have hAr : ArOk (arOf (newSaid M St L) (M + 1) L M St) := by obtain ⟨⟨gh, hi, _⟩, _⟩ := hiw; exact hi.ci.ar
  obtain ⟨A0, hA0⟩ : ∃ A0, arOf (newSaid M St L) (M + 1) L M St = A0 := ⟨_, rfl⟩
  have hM : A0.M = M := by rw [← hA0]; rfl
  have hSt : A0.St = St := by rw [← hA0]; rfl
  have hsp : A0.s.spare = -1 := by rw [← hA0]; rfl
  rw [hA0] at hR hsd hiw hAr
  rw [← hM, ← hSt] at h90 hpos
  have HSD := Lib.hid (And.intro hAr hsd)
  have HP := Lib.hid (show 3 ≤ A0.M ∧ A0.M ≤ 16 ∧ 1 ≤ A0.St ∧ A0.St ≤ 6 ∧ A0.St * (A0.M - 1) ≤ 90 ∧ 0 < A0.St * (A0.M - 1) ∧ A0.s.spare = -1 from ⟨by omega, by omega, by omega, by omega, h90, hpos, hsp⟩)
  have HJ := Lib.hid (And.intro hJB hJW)
  have HTJ : Hid (Tbl J.B J.W) := Lib.hid (by rw [hJB, hJW]; exact HTB.out)
  have HK := Lib.hid (keep_w hAr hsd)
  have H0 : Hid (∀ w2, Below w1.heap.size w1 w2 → GoodK (Iw A0) J r A0 false (100 + 1000 * 0) (1 + 0) w2) := Lib.hid fun w2 hb => ⟨S, o, noSet, noSet, F, _, hR.grown hb, hiw, fun j _ => Nat.le_refl 1⟩
  clear hR hbn hJB hJW hbel hsd hiw hAr hA0 hM hSt hsp h90 hpos m3 m16 s1 s6 l1 l8 hbk HBG
  go_wp2_with fail
  refine HLI.out.mono ?_
  rintro e w2 ⟨rfl, hb2⟩
  have H1 := Lib.hid (H0.out w2 hb2)
  clear H0 HLI hb2
  go_upto_block 0 with fail
  go_cut [12] (fun _ wx => Hid (GoodK (Iw A0) J r A0 false 60100 61 wx))
  case first =>
    go_wp2_with fail
    go_loopw [12] (fun i wr => ∃ k : Nat, k ≤ n ∧ k ≤ 60 ∧ i = .int .i64 k ∧ Hid (GoodK (Iw A0) J r A0 false (100 + 1000 * k) (1 + k) wr)) (fun i _ => 60 - (intOf i).toNat)
    case atStart => exact ⟨0, Nat.zero_le _, Nat.zero_le _, rfl, H1⟩
    case round =>
      obtain ⟨k, hk, hk2, rfl, HBr⟩ := hrel
      clear H1
      by_cases hlt : k < n ∧ k < 60
      · obtain ⟨hlt, hlt2⟩ := hlt
        have q3 : (k : Int) < (n : Int) := by omega
        have q4 : (k : Int) < 60 := by omega
        obtain ⟨b0, off0, rfl, hbl, hop⟩ := HL.out.2 (by omega)
        have hop := hop k hlt
        obtain ⟨S1, o1, D1, U1, F1, may1, R1, I1, L1⟩ := HBr.out
        have hbr : Below w.heap.size w wr := by have := R1.vr.bel; rw [HJ.out.1, HJ.out.2] at this; exact this
        have d0 := (hbr.cell (p := ⟨b0, off0 + k * 5, none⟩) hbl).trans hop.c0
        have d1 := (hbr.cell (p := ⟨b0, off0 + k * 5 + 1, none⟩) hbl).trans hop.c1
        have d2 := (hbr.cell (p := ⟨b0, off0 + k * 5 + 2, none⟩) hbl).trans hop.c2
        have d3 := (hbr.cell (p := ⟨b0, off0 + k * 5 + 3, none⟩) hbl).trans hop.c3
        have d4 := (hbr.cell (p := ⟨b0, off0 + k * 5 + 4, none⟩) hbl).trans hop.c4
        have hlb5 : 1 + k ≤ 50000 := by omega
        have hN1 : A0.St * (A0.M - 1) ≤ 1000 := by have := HP.out; omega
        have HD2 : Hid ((f k).kind = 2 → _) := Lib.hid fun e => doK_write R1 HK.out I1 L1 hlb5 HTJ.out (by omega) hN1 (f k) e ⟨hop.b1.1, hop.b1.2⟩ hop.b3
        have HD3 : Hid ((f k).kind = 3 → _) := Lib.hid fun e => doK_flush R1 HK.out I1 L1 hlb5 HTJ.out (by omega) hN1 (f k) e
        have HGR := Lib.hid (HBr.out.more (show 100 + 1000 * k ≤ 100 + 1000 * (k + 1) by omega) (show 1 + k ≤ 1 + (k + 1) by omega))
        unfold opV at HD2 HD3
        clear R1 I1 L1 HBr hbr hop
        generalize (f k).kind = kind at *
        generalize (f k).n = on at *
        generalize (f k).at_ = od at *
        generalize (f k).x = xx at *
        generalize (f k).A = oA at *
        generalize (f k).m = om at *
        generalize (f k).c = oc at *
        by_cases h2 : kind = 2
        · subst h2
          have HD := Lib.hid (HD2.out rfl)
          clear HD2 HD3 HGR
          go_wp2_with fail
          refine HD.out.mono ?_
          rintro e w3 ⟨rfl, hg⟩
          have HG := Lib.hid (hg.more (show 100 + 1000 * k + 1000 ≤ 100 + 1000 * (k + 1) by omega) (show 1 + k + 1 ≤ 1 + (k + 1) by omega))
          clear hg HD d0 d1 d2 d3 d4
          go_wp2_with fail
          refine ⟨⟨k + 1, by omega, by omega, by go_num, HG⟩, ?_⟩
          simp [intOf]
          omega
        · by_cases h3 : kind = 3
          · subst h3
            have HD := Lib.hid (HD3.out rfl)
            clear HD2 HD3 HGR h2
            go_wp2_with fail
            refine HD.out.mono ?_
            rintro e w3 ⟨rfl, hg⟩
            have HG := Lib.hid (hg.more (show 100 + 1000 * k + 1000 ≤ 100 + 1000 * (k + 1) by omega) (show 1 + k ≤ 1 + (k + 1) by omega))
            clear hg HD d0 d1 d2 d3 d4
            go_wp2_with fail
            refine ⟨⟨k + 1, by omega, by omega, by go_num, HG⟩, ?_⟩
            simp [intOf]
            omega
          · clear HD2 HD3
            go_wp2_with fail
            refine ⟨⟨k + 1, by omega, by omega, by go_num, HGR⟩, ?_⟩
            simp [intOf]
            omega
      · have q3 : ¬ ((k : Int) < (n : Int) ∧ (k : Int) < 60) := by omega
        have H2 : Hid (GoodK (Iw A0) J r A0 false 60100 61 wr) := Lib.hid (HBr.out.more (by omega) (by omega))
        clear HBr
        by_cases h1 : k < n
        · have q5 : (k : Int) < (n : Int) := by omega
          have q6 : ¬ ((k : Int) < 60) := by omega
          clear q3 hlt
          go_wp2_with fail
          go_meet
          exact H2
        · have q5 : ¬ ((k : Int) < (n : Int)) := by omega
          clear q3 hlt
          go_wp2_with fail
          go_meet
          exact H2
  case rest =>
    clear H1 HK
    obtain ⟨S1, o1, D1, U1, F1, may1, R1, I1, L1⟩ := hcut.out
    have hF1 : Fits J.n J.L A0.s A0.M A0.St S1 := by rw [R1.n, R1.L]; exact (keep_w HSD.out.1 HSD.out.2).fits I1
    have HFL := Lib.hid (vFlush_any R1.vr hF1 HTJ.out.tabs HTJ.out.tb R1.few.waits R1.few.used (by omega))
    obtain ⟨q, cap, tq, gg, off, cc, G1⟩ := R1.rg
    obtain ⟨_, c1, _⟩ := G1.cells
    have HX := Lib.hid (And.intro R1 (And.intro I1 L1))
    clear R1 I1 L1 G1 hF1 hcut
    go_wp2_with fail
    refine HFL.out.mono ?_
    rintro e w4 ⟨y, rfl, b4, D2, U2, hR, F2, V2, m2⟩
    obtain ⟨R1, I1, L1⟩ := HX.out
    have hfw := R1.few.flush (by rw [R1.n]; exact HSD.out.1.n17) (by rw [R1.L]; exact HSD.out.1.l8) hR
    rw [R1.n, R1.L] at hR
    obtain ⟨rfl, rfl, rfl, g, W2, hlast⟩ := I1.flushed hR
    have R2 : Rig J w4 r A0 b4.S b4.o noSet noSet F2 false may1 (60100 + 1000) := ⟨V2, hfw, R1.n, R1.L, R1.rg.moves m2⟩
    have HT1 : Hid (∃ tn bd, Tw J w4 r A0 g tn bd may1 70000) := Lib.hid ⟨fun _ => false, false, b4.S, b4.o, F2, _, ⟨V2, hfw.more (by omega), R1.n, R1.L, R2.toT.rg⟩, W2, fun _ _ _ e => e.elim, fun _ _ e => by cases e⟩
    have HLA := Lib.hid (And.intro hlast L1)
    clear R1 I1 L1 hfw hR W2 hlast R2 V2 m2 HFL HX c1
    go_upto_block 2 with fail
    go_cut [13] (fun _ wx => Hid (∃ tn bd, Tw J wx r A0 g tn bd may1 70000))
    case first =>
      go_wp2_with fail
      go_loopw [13] (fun i wr => ∃ k : Nat, k ≤ n ∧ k ≤ 60 ∧ i = .int .i64 k ∧ Hid (∃ tn bd, Tw J wr r A0 g tn bd may1 70000)) (fun i _ => 60 - (intOf i).toNat)
      case atStart => exact ⟨0, Nat.zero_le _, Nat.zero_le _, rfl, HT1⟩
      case round =>
        obtain ⟨k, hk, hk2, rfl, HBr⟩ := hrel
        clear HT1
        by_cases hlt : k < n ∧ k < 60
        · obtain ⟨hlt, hlt2⟩ := hlt
          have q3 : (k : Int) < (n : Int) := by omega
          have q4 : (k : Int) < 60 := by omega
          obtain ⟨b0, off0, rfl, hbl, hop⟩ := HL.out.2 (by omega)
          have hop := hop k hlt
          obtain ⟨tn, bd, T1⟩ := HBr.out
          have hbr : Below w.heap.size w wr := by have := (T1.tr true).bel; rw [HJ.out.1, HJ.out.2] at this; exact this
          have d0 := (hbr.cell (p := ⟨b0, off0 + k * 5, none⟩) hbl).trans hop.c0
          have d1 := (hbr.cell (p := ⟨b0, off0 + k * 5 + 1, none⟩) hbl).trans hop.c1
          have d2 := (hbr.cell (p := ⟨b0, off0 + k * 5 + 2, none⟩) hbl).trans hop.c2
          have d3 := (hbr.cell (p := ⟨b0, off0 + k * 5 + 3, none⟩) hbl).trans hop.c3
          have d4 := (hbr.cell (p := ⟨b0, off0 + k * 5 + 4, none⟩) hbl).trans hop.c4
          have HD7 : Hid ((f k).kind = 7 → _) := Lib.hid fun e => doK_turn T1 HP.out.2.2.2.2.2.2 HP.out.2.2.1 (by have := HP.out; omega) HP.out.2.1 HTJ.out.tabs HTJ.out.tb (f k) e hop.b3
          unfold opV at HD7
          clear T1 hbr hop
          generalize (f k).kind = kind at *
          generalize (f k).n = on at *
          generalize (f k).at_ = od at *
          generalize (f k).x = xx at *
          generalize (f k).A = oA at *
          generalize (f k).m = om at *
          generalize (f k).c = oc at *
          by_cases h7 : kind = 7
          · subst h7
            have HD := Lib.hid (HD7.out rfl)
            clear HD7 HBr
            go_wp2_with fail
            refine HD.out.mono ?_
            rintro e w3 ⟨rfl, hg⟩
            have HG := Lib.hid hg
            clear hg HD d0 d1 d2 d3 d4
            go_wp2_with fail
            refine ⟨⟨k + 1, by omega, by omega, by go_num, HG⟩, ?_⟩
            simp [intOf]
            omega
          · clear HD7
            go_wp2_with fail
            refine ⟨⟨k + 1, by omega, by omega, by go_num, HBr⟩, ?_⟩
            simp [intOf]
            omega
        · have q3 : ¬ ((k : Int) < (n : Int) ∧ (k : Int) < 60) := by omega
          by_cases h1 : k < n
          · have q5 : (k : Int) < (n : Int) := by omega
            have q6 : ¬ ((k : Int) < 60) := by omega
            clear q3 hlt
            go_wp2_with fail
            go_meet
            exact HBr
          · have q5 : ¬ ((k : Int) < (n : Int)) := by omega
            clear q3 hlt
            go_wp2_with fail
            go_meet
            exact HBr
    case rest =>
      clear HT1
      obtain ⟨tn, bd, T1⟩ := hcut.out
      have HT2 := Lib.hid (T1.tr rd)
      clear T1 hcut
      obtain ⟨N, hN⟩ : ∃ N, A0.St * (A0.M - 1) = N := ⟨_, rfl⟩
      have HNN := Lib.hid hN
      have n1 : N ≤ 90 := by have := HP.out; omega
      clear hN
      go_upto_block 4 with fail
      go_cut [14] (fun _ wx => Hid (∃ tn bd, Tr J wx r A0 g rd 0 tn bd may1 200000))
      case first =>
        have HT3 : Hid (∃ tn bd, Tr J _ r A0 g rd 0 tn bd may1 (70000 + 1000 * 0)) := Lib.hid ⟨tn, bd, HT2.out⟩
        go_wp2_with fail
        go_loopw [14] (fun i wr => ∃ k : Nat, k ≤ N ∧ i = .int .i64 k ∧ Hid (∃ tn bd, Tr J wr r A0 g rd 0 tn bd may1 (70000 + 1000 * k))) (fun i _ => N - (intOf i).toNat)
        case atStart => exact ⟨0, Nat.zero_le _, rfl, HT3⟩
        case round =>
          obtain ⟨k, hk, rfl, HBr⟩ := hrel
          obtain ⟨tn, bd, T1⟩ := HBr.out
          obtain ⟨Fx, q, cap, tq, gg, off, cc, G1⟩ := T1.rg
          obtain ⟨_, c1, _, c5, _, _⟩ := G1.cells
          rw [HNN.out] at c5
          have HEX : Hid (∃ tn bd, Tr J wr r A0 g rd 0 tn bd may1 200000) := Lib.hid ⟨tn, bd, T1.more (by omega)⟩
          by_cases hlt : k < N
          · have q3 : (k : Int) < (N : Int) := by omega
            cases rd with
            | false =>
              clear T1 G1 HBr
              go_wp2_with fail
              go_meet
              exact HEX
            | true =>
              have HRD := Lib.hid (trRead T1 HSD.out.2 HTJ.out.tabs HTJ.out.tb (by omega) k (by rw [HNN.out]; exact hlt))
              clear T1 G1 HBr HEX
              go_wp2_with fail
              refine HRD.out.mono ?_
              rintro e w5 ⟨A2, c2, rfl, hby, T2⟩
              obtain ⟨hm1, hm2⟩ := HLA.out.1 k (by rw [HNN.out]; exact hlt)
              have hm3 := HLA.out.2 k (by rw [HNN.out]; exact hlt)
              have HL5 : Hid (∀ W', Below w5.heap.size w5 W' → Calls Tryz.prog 12 #[.pointer (some ⟨r, 0, none⟩), .int .i64 k] W' fun e w' => e = .returned (Sh.sv (g (stOf A0.M k) (meOf A0.M k))) ∧ Below W'.heap.size W' w') := Lib.hid fun W' hb => by
                obtain ⟨Fy, qy, capy, tqy, ggy, offy, ccy, G2⟩ := T2.rg
                have h0 : (may1 k).length ≠ 0 := fun e => hm1 (List.eq_nil_of_length_eq_zero e)
                rw [← hm2]
                exact lastT_any (G2.grown hb) k (by rw [HNN.out]; exact hlt) ((may1 k).length - 1) (by omega) (by omega)
              have HG5 : Hid (∀ W', Below w5.heap.size w5 W' → ∃ tn bd, Tr J W' r A0 g true 0 tn bd may1 (70000 + 1000 * (k + 1))) := Lib.hid fun W' hb => ⟨tn, bd, (T2.grown hb).more (by omega)⟩
              unfold Sh.sv at HL5
              generalize hsv : Sh.strL (g (stOf A0.M k) (meOf A0.M k)) = sv at *
              have t1 := fun W' (hb : Below w5.heap.size w5 W') => conv_bytes (c := c2) hby hsv W' hb
              clear T2 hm1 hm2 hm3 hby hsv HRD c1 c5
              go_wp2_with fail
              refine wp_region_held_drew (S := fun W' => Below w5.heap.size w5 W') (by kernel_rfl) ((Below.refl _ _).drew) (fun hHeld => ?_)
              refine wpAnyH_take (i := 0) (oi := ⟨some 114, _, _, _, _, _⟩) (v := ?_) rfl (by kernel_rfl) (by kernel_rfl) (by kernel_rfl) (fun _ _ _ h => h) (Or.inl ⟨by rfl, ?_⟩) (by assumption) ?_
              rotate_left
              · (intro w hSw; (try dsimp only at hSw); go_simp; first | done | with_reducible rfl)
              try simp only [Act.put, List.setIfInBounds_toArray, List.set_cons_zero, List.set_cons_succ]
              refine wpAnyH_take (i := 1) (oi := ⟨some 115, _, _, _, _, _⟩) (v := ?_) rfl (by kernel_rfl) (by kernel_rfl) (by kernel_rfl) (fun _ _ _ h => h) (Or.inl ⟨by rfl, ?_⟩) (by assumption) ?_
              rotate_left
              · (intro w hSw; (try dsimp only at hSw); go_simp; first | done | with_reducible rfl)
              try simp only [Act.put, List.setIfInBounds_toArray, List.set_cons_zero, List.set_cons_succ]
              refine wpAnyH_take (i := 2) (oi := ⟨some 116, _, _, _, _, _⟩) (v := ?_) rfl (by kernel_rfl) (by kernel_rfl) (by kernel_rfl) (fun _ _ _ h => h) (Or.inl ⟨by rfl, ?_⟩) (by assumption) ?_
              rotate_left
              · (intro w hSw; (try dsimp only at hSw); go_simp; first | done | with_reducible rfl)
              try simp only [Act.put, List.setIfInBounds_toArray, List.set_cons_zero, List.set_cons_succ]
              refine wpAnyH_take (i := 3) (oi := ⟨some 117, _, _, _, _, _⟩) (v := ?_) rfl (by kernel_rfl) (by kernel_rfl) (by kernel_rfl) (fun _ _ _ h => h) (Or.inl ⟨by rfl, ?_⟩) (by assumption) ?_
              rotate_left
              · (intro w hSw; (try dsimp only at hSw); go_simp; first | done | with_reducible rfl)
              try simp only [Act.put, List.setIfInBounds_toArray, List.set_cons_zero, List.set_cons_succ]
              refine wpAnyH_take (i := 4) (oi := ⟨some 118, _, _, _, _, _⟩) (v := ?_) rfl (by kernel_rfl) (by kernel_rfl) (by kernel_rfl) (fun _ _ _ h => h) (Or.inl ⟨by rfl, ?_⟩) (by assumption) ?_
              rotate_left
              · (intro w hSw; (try dsimp only at hSw); go_simp; first | done | with_reducible rfl)
              try simp only [Act.put, List.setIfInBounds_toArray, List.set_cons_zero, List.set_cons_succ]
              refine wpAnyH_take (i := 5) (oi := ⟨some 119, _, _, _, _, _⟩) (v := ?_) rfl (by kernel_rfl) (by kernel_rfl) (by kernel_rfl) (fun _ _ _ h => h) (Or.inl ⟨by rfl, ?_⟩) (by assumption) ?_
              rotate_left
              · (intro w hSw; (try dsimp only at hSw); go_simp; first | done | with_reducible rfl)
              try simp only [Act.put, List.setIfInBounds_toArray, List.set_cons_zero, List.set_cons_succ]
              refine wpAnyH_take (i := 6) (oi := ⟨some 120, _, _, _, _, _⟩) (v := ?_) rfl (by kernel_rfl) (by kernel_rfl) (by kernel_rfl) (fun _ _ _ h => h) (Or.inl ⟨by rfl, ?_⟩) (by assumption) ?_
              rotate_left
              · (intro w hSw; (try dsimp only at hSw); go_simp; first | done | with_reducible rfl)
              try simp only [Act.put, List.setIfInBounds_toArray, List.set_cons_zero, List.set_cons_succ]
              refine wpAnyH_ready (rs := [7]) (by kernel_rfl) (by simp) ?_
              refine AllReadyH.cons (o := ⟨some 121, _, _, _, _, _⟩) rfl (fun K hK => ?_) AllReadyH.nil
              go_simp
              refine (HL5.out _ hHeld).mono ?_
              rintro e w9 ⟨rfl, hb9⟩
              refine hK.out _ _ (hHeld.trans (hb9.mono hHeld.size)) (fun hHeld => ?_)
              clear hK K
              try simp only [Act.put, List.setIfInBounds_toArray, List.set_cons_zero, List.set_cons_succ]
              refine wpAnyH_take (i := 8) (oi := ⟨some 122, _, _, _, _, _⟩) (v := ?_) rfl (by kernel_rfl) (by kernel_rfl) (by kernel_rfl) (fun _ _ _ h => h) (Or.inl ⟨by rfl, ?_⟩) (by assumption) ?_
              rotate_left
              · (intro w hSw; (try dsimp only at hSw); go_simp; first | done | with_reducible rfl)
              try simp only [Act.put, List.setIfInBounds_toArray, List.set_cons_zero, List.set_cons_succ]
              refine wpAnyH_take (i := 9) (oi := ⟨some 123, _, _, _, _, _⟩) (v := ?_) rfl (by kernel_rfl) (by kernel_rfl) (by kernel_rfl) (fun _ _ _ h => h) (Or.inl ⟨by rfl, ?_⟩) (by assumption) ?_
              rotate_left
              · (intro w hSw; (try dsimp only at hSw); go_simp; first | done | with_reducible rfl)
              try simp only [Act.put, List.setIfInBounds_toArray, List.set_cons_zero, List.set_cons_succ]
              refine wpAnyH_done (by kernel_rfl) ?_ _
              have HE := Lib.hid (HG5.out _ hHeld)
              clear HG5 hHeld t1
              go_wp2_with fail
              refine ⟨⟨k + 1, by omega, by go_num, HE⟩, ?_⟩
              simp [intOf]
              omega
          · have q3 : ¬ ((k : Int) < (N : Int)) := by omega
            clear T1 G1 HBr
            go_wp2_with fail
            go_meet
            exact HEX
      case rest =>
        clear HT2
        obtain ⟨tn2, bd2, T2⟩ := hcut.out
        obtain ⟨St, hSt⟩ : ∃ St, A0.St = St := ⟨_, rfl⟩
        have HS := Lib.hid hSt
        have s6 : St ≤ 6 := by have := HP.out; omega
        have HM0 : Hid (Tr J _ r A0 g rd 0 tn2 bd2 may1 (200000 + 1000 * 0)) := Lib.hid T2
        clear T2 hcut hSt
        go_wp2_with fail
        go_loopw [17] (fun i wr => ∃ k : Nat, k ≤ St ∧ i = .int .i64 k ∧ Hid (Tr J wr r A0 g rd k tn2 bd2 may1 (200000 + 1000 * k))) (fun i _ => St - (intOf i).toNat)
        case atStart => exact ⟨0, Nat.zero_le _, rfl, HM0⟩
        case round =>
          obtain ⟨k, hk, rfl, HBr⟩ := hrel
          clear HM0
          obtain ⟨Fx, q, cap, tq, gg, off, cc, G1⟩ := HBr.out.rg
          obtain ⟨_, c1, _, _, _, _⟩ := G1.cells
          obtain ⟨c3, _, _⟩ := G1.cells2
          rw [HS.out] at c3
          clear G1
          by_cases hlt : k < St
          · have q3 : (k : Int) < (St : Int) := by omega
            have HMD := Lib.hid (trMend HBr.out HSD.out.2 HTJ.out.tabs HTJ.out.tb (by omega) (by rw [HS.out]; exact hlt))
            clear HBr
            go_wp2_with fail
            refine HMD.out.mono ?_
            rintro e w6 ⟨nn, rfl, hn01, hn0, hn1, T3⟩
            obtain ⟨Fy, qy, capy, tqy, ggy, offy, ccy, G2⟩ := T3.rg
            obtain ⟨_, j1, _⟩ := G2.cells
            obtain ⟨_, _, j7⟩ := G2.cells2
            have j9 := G2.tqs.at_ k (by rw [HS.out]; exact hlt)
            rw [HS.out] at j7
            have HW := Lib.hid (trWhole T3 HSD.out.2 HTJ.out.tabs HTJ.out.tb (by rw [HS.out]; exact hlt))
            clear T3 G2 HMD c1 c3
            generalize htn : tn2 k = tk at *
            cases tk with
            | false =>
              obtain rfl : nn = 0 := hn0 rfl
              clear hn01 hn0 hn1 htn
              go_wp2_with fail
              refine HW.out.mono ?_
              rintro e w7 ⟨rfl, T4⟩
              have HN4 : Hid (Tr J w7 r A0 g rd (k + 1) tn2 bd2 may1 (200000 + 1000 * (k + 1))) := Lib.hid (T4.more (by omega))
              clear T4 HW j1 j7 j9
              go_wp2_with fail
              refine ⟨⟨k + 1, by omega, by go_num, HN4⟩, ?_⟩
              simp [intOf]
              omega
            | true =>
              cases rd with
              | false =>
                obtain rfl : nn = 1 := hn1 rfl rfl
                clear hn01 hn0 hn1 htn
                go_wp2_with fail
                refine HW.out.mono ?_
                rintro e w7 ⟨rfl, T4⟩
                have HN4 : Hid (Tr J w7 r A0 g false (k + 1) tn2 bd2 may1 (200000 + 1000 * (k + 1))) := Lib.hid (T4.more (by omega))
                clear T4 HW j1 j7 j9
                go_wp2_with fail
                refine ⟨⟨k + 1, by omega, by go_num, HN4⟩, ?_⟩
                simp [intOf]
                omega
              | true =>
                clear hn0 hn1 htn
                rcases hn01 with rfl | rfl
                · skip
                  go_wp2_with fail
                  refine HW.out.mono ?_
                  rintro e w7 ⟨rfl, T4⟩
                  have HN4 : Hid (Tr J w7 r A0 g true (k + 1) tn2 bd2 may1 (200000 + 1000 * (k + 1))) := Lib.hid (T4.more (by omega))
                  clear T4 HW j1 j7 j9
                  go_wp2_with fail
                  refine ⟨⟨k + 1, by omega, by go_num, HN4⟩, ?_⟩
                  simp [intOf]
                  omega
                · skip
                  go_wp2_with fail
                  refine HW.out.mono ?_
                  rintro e w7 ⟨rfl, T4⟩
                  have HN4 : Hid (Tr J w7 r A0 g true (k + 1) tn2 bd2 may1 (200000 + 1000 * (k + 1))) := Lib.hid (T4.more (by omega))
                  clear T4 HW j1 j7 j9
                  go_wp2_with fail
                  refine ⟨⟨k + 1, by omega, by go_num, HN4⟩, ?_⟩
                  simp [intOf]
                  omega
          · have q3 : ¬ ((k : Int) < (St : Int)) := by omega
            have HST := Lib.hid (trSettle HBr.out HSD.out.2 HTJ.out.tabs HTJ.out.tb (by omega) (by have := HP.out; omega) HLA.out.1 (fun j hj => Nat.le_trans (HLA.out.2 j hj) (by omega)))
            clear HBr c1
            go_wp2_with fail
            refine HST.out.mono ?_
            rintro e w7 ⟨rfl, hb7⟩
            rw [HJ.out.1, HJ.out.2] at hb7
            have HE := Lib.hid hb7
            clear hb7 HST
            go_wp2
            go_ret
            exact ⟨rfl, HE.out⟩
set_option maxRecDepth 100000 in
/-- WHAT THE WALK GIVES, FOR EVERY ARGUMENT AND EVERY WORLD THAT HOLDS THE TABLES. -/
theorem contract (H : Type) (enc : TypeId × Value → H) (W : World) (base : Nat) (args : Array Value) (ds gs : List (DataW H)) (before : List MemPlace)
    (hval : ∀ (j : Nat) t v, Tryz.f4.params[j]? = some t → args[j]? = some v → Value.okWide Tryz.prog W .any base t v)
    (hW : DataW.Whole enc Tryz.prog Tryz.f4.params.toList Rows.raidMendsSpec.vars false W args.toList ds gs before)
    (hsz : (DataW.weightsEach Tryz.prog (Tryz.f4.params.toList ++ (OpenSpec.ofChange Rows.raidMendsSpec).bare.plain.varTypes Tryz.prog) (ds ++ gs)).all (· ≤ reachBytes) = true) (hL : laidMetH Tryz.prog laidBoth W) :
    Calls Tryz.prog 4 args W fun e W' => ∃ v, e = .returned v ∧ Rows.raidMendsSpec.post enc Tryz.prog Tryz.f4 false true false false W args v W' := by
  have hW' := hW
  obtain ⟨p, q, hA0, hV, rfl, hfz, hnd⟩ := hW
  have hA : DataW.TrodAll enc Tryz.prog W 0 (fun _ => true) true Tryz.f4.params.toList args.toList ds p := hA0
  have hsz2 : (DataW.weightsEach Tryz.prog (Tryz.f4.params.toList ++ []) (ds ++ gs)).all (· ≤ reachBytes) = true := hsz
  rw [Tryz.params4] at hA hval hsz2
  obtain ⟨v0, vs0, d0, ds0, p0, q0, hargs, rfl, rfl, h0, r0⟩ := trodAll_cons hA
  obtain ⟨v1, vs1, d1, ds1, p1, q1, rfl, rfl, rfl, h1, r1⟩ := trodAll_cons r0
  obtain ⟨v2, vs2, d2, ds2, p2, q2, rfl, rfl, rfl, h2, r2⟩ := trodAll_cons r1
  obtain ⟨v3, vs3, d3, ds3, p3, q3, rfl, rfl, rfl, h3, r3⟩ := trodAll_cons r2
  obtain ⟨v4, vs4, d4, ds4, p4, q4, rfl, rfl, rfl, h4, r4⟩ := trodAll_cons r3
  obtain ⟨rfl, rfl, rfl⟩ := trodAll_nil r4
  obtain rfl : args = #[v0, v1, v2, v3, v4] := by cases args; simp_all
  obtain ⟨rfl, rfl⟩ := trodVars_none hV
  obtain ⟨a0, rfl, rfl, rfl, w0⟩ := open_int Tryz.underlying3 (hval 0 3 v0 rfl rfl) h0
  have bd0 := bounds_i64 w0
  obtain ⟨a1, rfl, rfl, rfl, w1⟩ := open_int Tryz.underlying3 (hval 1 3 v1 rfl rfl) h1
  have bd1 := bounds_i64 w1
  obtain ⟨a2, rfl, rfl, rfl, w2⟩ := open_int Tryz.underlying3 (hval 2 3 v2 rfl rfl) h2
  have bd2 := bounds_i64 w2
  obtain ⟨A3, n3, c3, rfl⟩ := okWide_slice Tryz.underlying22 (hval 3 22 v3 rfl rfl)
  have k3 := h3
  have lt3 : ∀ x ∈ p3, x.block < W.heap.size := by obtain ⟨m, hm⟩ := k3; exact DataW.trod_lt m _ _ _ hm
  obtain ⟨f3, hl3⟩ : ∃ f, Sh.Ops8 W A3 n3 f := by obtain ⟨fuel, hf⟩ := h3; exact Sh.ops_in (by simpa [Value.cells] using hf)
  obtain ⟨a4, rfl, rfl, rfl⟩ := open_bool Tryz.underlying4 (hval 4 4 v4 rfl rfl) h4
  have hT := tabs_of_laid hL
  refine (walk a0 bd0.1 bd0.2 a1 bd1.1 bd1.2 a2 bd2.1 bd2.2 A3 n3 c3 f3 hl3 a4 hT).mono fun e W' ⟨he, bel⟩ => ?_
  subst he
  exact ⟨_, rfl, _, _, _, [], _, [], hW', trodAll_mk1 (shut_bool Tryz.underlying4 _), (trodAll_cons_mk (shut_int Tryz.underlying3 w0) (trodAll_cons_mk (shut_int Tryz.underlying3 w1) (trodAll_cons_mk (shut_int Tryz.underlying3 w2) (trodAll_cons_mk (Below.trod laidOut (by kernel_rfl) (of_decide_eq_true (by kernel_rfl)) k3 bel lt3) (trodAll_cons_mk (shut_bool Tryz.underlying4 _) trodAll_mk0))))), rfl, bel.frame _, fun h => by cases h⟩

theorem laid_met (os : Os) : laidMetH Tryz.prog laidBoth ((laidWorld os).forCall (fun _ _ => 0) ⟨#[], #[.int .i64 0, .int .i64 0, .int .i64 0, .slice none 0 0, .bool false], []⟩).memory :=
  laidMetH_of_parts3 (fuel := 8) (laidMet_of_run' 8 (by kernel_rfl) (by kernel_rfl)) (by kernel_rfl) (by kernel_rfl)
theorem reads (os : Os) {H : Type} (enc : TypeId × Value → H) : ∃ places, DataW.whole enc Tryz.prog ((laidWorld os).forCall (fun _ _ => 0) ⟨#[], #[.int .i64 0, .int .i64 0, .int .i64 0, .slice none 0 0, .bool false], []⟩).memory Tryz.f4.params.toList Rows.raidMendsSpec.vars false (#[.int .i64 0, .int .i64 0, .int .i64 0, .slice none 0 0, .bool false] : Array Value).toList 8 = some ([.lit (.int .i64 0), .lit (.int .i64 0), .lit (.int .i64 0), .nil, .lit (.bool false)], [], places) :=
  ⟨[], by kernel_rfl⟩
set_option maxRecDepth 100000 in
theorem lifted (os : Os) (started : os.Started) (H : Type) (enc : TypeId × Value → H) (F : Stop.Interp) :
    ReturnsInHanded {} Tryz.checked os 4 .any ((OpenSpec.ofChange Rows.raidMendsSpec).preRow enc Tryz.prog Tryz.f4 Rows.raidMendsRow.domain false Rows.raidMendsRow.laid) (((OpenSpec.ofChange Rows.raidMendsSpec).at F).post enc Tryz.prog Tryz.f4 false true false false) := by
  obtain ⟨places, hx⟩ := reads os enc
  refine returnsInHanded_of_row (C := Tryz.checked) (s := (OpenSpec.ofChange Rows.raidMendsSpec)) own started (by kernel_rfl) Tryz.func4
    (witness_row_at (enc := enc) (C := Tryz.checked) false (laidWorld os) #[.int .i64 0, .int .i64 0, .int .i64 0, .slice none 0 0, .bool false] rfl (by kernel_rfl) (by kernel_rfl) (by kernel_rfl)
      (OpenSpec.preRow_of_cond 8 hx (by kernel_rfl) (fun k hk => by cases hk) (by kernel_rfl) (laid_met os))) ?_
  intro W base args ds gs before hval hW _ hcond hsz hL _ _
  exact contract H enc W base args ds gs before hval hW hsz hL
theorem said : Rows.RaidMendsSaid :=
  OpenClaim.holds_of_cond 4 Tryz.f4 rfl rfl rfl rfl rfl rfl rfl ⟨rfl, rfl, rfl, rfl, rfl⟩ rfl rfl rfl rfl rfl (by kernel_rfl) Tryz.func4 (by kernel_rfl)
    (of_decide_eq_true (by kernel_rfl)) (by unfold Func.isWrapper; first | (rw [if_pos (by decide +kernel)]; kernel_rfl) | (rw [if_neg (by decide +kernel)]; exact ⟨rfl, rfl⟩))
    (fun os started H enc _ F => by rw [OpenClaim.pre_eq_preRow]; exact lifted os started H enc F)
theorem plain (f : FuncId) (fn : Func) (hf : Tryz.pinned.checked.prog.funcNamed "ashlar/ashlarlaw08.RaidMends" = some f) (hfn : Tryz.pinned.checked.prog.funcs[f]? = some fn) :
    false = Tryz.pinned.checked.prog.looks [] ∧ ∀ (j : Nat) t, fn.params[j]? = some t → Tryz.pinned.checked.prog.wantsStandIn t = false := by
  obtain rfl : f = 4 := Option.some.inj ((show Tryz.prog.funcNamed "ashlar/ashlarlaw08.RaidMends" = some 4 by kernel_rfl).symm.trans hf) |>.symm
  obtain rfl : fn = Tryz.f4 := (Option.some.inj (Tryz.func4.symm.trans hfn)).symm
  refine ⟨by kernel_rfl, fun j t ht => ?_⟩
  rw [Tryz.params4] at ht
  have hm : t ∈ [3, 3, 3, 22, 4] := by simpa using Array.mem_of_getElem? ht
  have hall : ([3, 3, 3, 22, 4].all fun u => !Tryz.prog.wantsStandIn u) = true := by kernel_rfl
  exact (show Tryz.prog.wantsStandIn t = false by simpa using List.all_eq_true.1 hall t hm)

/-- ████ THE CARD ████ -/
theorem card : Rows.RaidMendsCardSaid :=
  Claim7.holds_tied_plain_at .later [] _ _ _ _ said (fun _ h => by cases h) (by kernel_rfl) (fun _ h => by cases h) raidMends_row_tie rfl ⟨rfl, rfl⟩ (by kernel_rfl) rfl plain (by kernel_rfl)
end Go.Proofs.YtgebkmpmnjhceaaGreatDoor.U.raidMends
