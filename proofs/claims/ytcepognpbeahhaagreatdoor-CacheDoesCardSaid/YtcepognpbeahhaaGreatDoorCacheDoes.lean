/-
  CacheDoes (P10.1, P10.2): every call, in every order, tells and keeps what the definition says; the volume has what it should have.
  Conditions: every argument, every world that holds the program's tables.
-/
import Derived.Test.YtcepognpbeahhaaGreatDoorW44
import Derived.Test.YtcepognpbeahhaaGreatDoorW43
import Derived.Test.YtcepognpbeahhaaGreatDoorW42
import Derived.Deep.DeepCutAuto
namespace Go.Proofs.YtcepognpbeahhaaGreatDoor.U.cacheDoes
open Go.ChangeShapes Go.WideShapes Go.ChangeAt Go.RowKit Go.Maps
open Go.Proofs.YtcepognpbeahhaaGreatDoor.Kc (En Cg Cav CQ Op10 Ops10)
open Go.Proofs.YtcepognpbeahhaaGreatDoor.Rc
open Go.Proofs.YtcepognpbeahhaaGreatDoor.U.cacheNobody (laidBoth tabs_of_laid)

theorem three {W : World} {B o : Nat} {a b c : Value} (f0 : W.cell? ⟨B, o, none⟩ = some a) (f1 : W.cell? ⟨B, o + 1, none⟩ = some b) (f2 : W.cell? ⟨B, o + 2, none⟩ = some c) :
    ∀ j v, [a, b, c][j]? = some v → W.cell? ((⟨B, o, none⟩ : Addr).add j) = some v := by
  intro j v hv
  rw [U.add_plain]
  match j with
  | 0 => injection hv with hv; rw [← hv]; exact f0
  | 1 => injection hv with hv; rw [← hv]; exact f1
  | 2 => injection hv with hv; rw [← hv]; exact f2
  | j + 3 => simp at hv
theorem pair1 {w : World} {q c xr : Nat} (h : w.heap[q]? = some (pairO c xr)) : w.cell? ⟨q, 1, none⟩ = some (.pointer (some ⟨xr, 0, none⟩)) := by
  rw [cell_of_row _ _ 1 _ _ _ h]
  rfl
theorem alike_below {w w' : World} {J : Vk} {hG : Giv J ar10} {hN : ar10.St * (ar10.M - 1) ≤ 1073741824} {c n xr k B : Nat} {Q : List (Nat × Obj)} (h : Alike2 (Hv J ar10 hG hN) (fun (x : Rs) j => contR ar10 x j) w' c n xr k B Q) (hB : J.B = w.heap.size) (hW : J.W = w) : Below w.heap.size w w' := by
  obtain ⟨l, x, vs, ls, hv, h2, _, _⟩ := h
  obtain ⟨R, _, _, h3⟩ := h2.cq
  exact cq_below h3 hB hW
set_option maxRecDepth 100000 in
set_option maxHeartbeats 8000000 in
theorem walk {w : World} (mo : Int) (_hm1 : -9223372036854775808 ≤ mo) (_hm2 : mo ≤ 9223372036854775807) (A : Option Addr) (m c : Nat) (f : Nat → Op10) (hl : Ops10 w A m f) (hA : All10 w) :
    Calls Tryz.prog 3 #[.int .i64 mo, .slice A m c] w fun e w' => e = .returned (.bool true) ∧ Below w.heap.size w w' := by
  by_cases hbad : mo < 1 ∨ 1024 < mo
  · have HBB := Lib.hid (begin_bad hA mo hbad)
    have HA := Lib.hid hA
    have HBD := Lib.hid hbad
    clear hA hbad hl
    go_enter Tryz.func3, Tryz.ntmps3
    go_wp2_with fail
    refine HBB.out.mono ?_
    rintro e w1 ⟨rfl, hb1⟩
    have HL := Lib.hid (lives10 (HA.out.over hb1))
    have HB1 := Lib.hid hb1
    clear hb1 HBB HA
    go_wp2_with fail
    refine HL.out.mono ?_
    rintro e w2 ⟨rfl, hb2⟩
    have HB2 := Lib.hid (HB1.out.trans (hb2.mono HB1.out.size))
    clear hb2 HB1 HL
    by_cases h1 : mo < 1
    · go_wp2
      go_ret
      exact ⟨rfl, HB2.out⟩
    · have h2 : 1024 < mo := HBD.out.resolve_left h1
      go_wp2
      go_ret
      exact ⟨rfl, HB2.out⟩
  · obtain ⟨n, rfl⟩ : ∃ n : Nat, mo = (n : Int) := ⟨mo.toNat, by omega⟩
    have h1 : 1 ≤ n := by omega
    have h2 : n ≤ 1024 := by omega
    have HBE := Lib.hid (begin10 hA n h1 h2)
    have HA := Lib.hid hA
    have HF := Lib.hid hl
    have hmm : m ≤ 9223372036854775807 := hl.1
    clear hA hl hbad
    go_enter Tryz.func3, Tryz.ntmps3
    go_wp2_with fail
    refine HBE.out.mono ?_
    rintro e w2 ⟨J, x0, sp, q, xr, g, hG, hN, rfl, hcont, hB, hW, hbeg⟩
    have HBW := Lib.hid (And.intro hB hW)
    have HL := Lib.hid (lives10 (HA.out.over (cq_below hbeg.cq hB hW)))
    have H0 : Hid (Alike2 (Hv J ar10 hG hN) (fun (x : Rs) j => contR ar10 x j) w2 g.c n xr 389000 0 [(q, pairO g.c xr)]) := Lib.hid (by
      obtain ⟨vs, h3⟩ := beg_two hbeg
      exact ⟨[], x0, vs, _, _, h3.less (by omega), fun j _ => hcont j, fun e he => by cases he⟩)
    clear hbeg hcont hB hW HBE HA
    go_wp2_with fail
    refine HL.out.mono ?_
    rintro e w3 ⟨rfl, hb3⟩
    have H3 : Hid (Alike2 (Hv J ar10 hG hN) (fun (x : Rs) j => contR ar10 x j) w3 g.c n xr 389000 0 [(q, pairO g.c xr)]) := Lib.hid (by
      obtain ⟨l, x, vs, ls, hv, h4, h5, h6⟩ := H0.out
      exact ⟨l, x, vs, ls, hv, h4.grown hb3, h5, h6⟩)
    clear H0 hb3 HL
    go_wp2
    go_loopw [8] (fun s wr => ∃ j : Nat, j ≤ m ∧ j ≤ 300 ∧ s = .int .i64 j ∧ Hid (Alike2 (Hv J ar10 hG hN) (fun (x : Rs) j => contR ar10 x j) wr g.c n xr (20 * (300 - j) + 100) j [(q, pairO g.c xr)])) (fun s _ => m - (intOf s).toNat)
    case atStart => exact ⟨0, Nat.zero_le _, Nat.zero_le _, rfl, Lib.hid (by
      obtain ⟨l, x, vs, ls, hv, h4, h5, h6⟩ := H3.out
      exact ⟨l, x, vs, ls, hv, h4.less (by omega), h5, h6⟩)⟩
    case round =>
      clear H3
      obtain ⟨j, hj, hj3, rfl, hrel⟩ := hrel
      by_cases hlt : j < m ∧ j < 300
      · obtain ⟨hlt, hlt2⟩ := hlt
        have q3 : (j : Int) < (m : Int) := by omega
        have q4 : (j : Int) < 300 := by omega
        obtain ⟨b0, off0, rfl, hbl, hop⟩ := HF.out.2 (by omega)
        have hop := hop j hlt
        have HBE := Lib.hid (alike_below hrel.out HBW.out.1 HBW.out.2)
        have d0 : wr.cell? ⟨b0, off0 + j * 3, none⟩ = some (.int .i64 (f j).kind) := (HBE.out.cell (p := ⟨b0, off0 + j * 3, none⟩) hbl).trans hop.c0
        have d1 : wr.cell? ⟨b0, off0 + j * 3 + 1, none⟩ = some (.int .i64 (f j).n) := (HBE.out.cell (p := ⟨b0, off0 + j * 3 + 1, none⟩) hbl).trans hop.c1
        have d2 : wr.cell? ⟨b0, off0 + j * 3 + 2, none⟩ = some (.int .u8 ((f j).x : Int)) := (HBE.out.cell (p := ⟨b0, off0 + j * 3 + 2, none⟩) hbl).trans hop.c2
        have HDO := Lib.hid (does10 (B := j) (k := 20 * (300 - (j + 1)) + 100) hv_sure h2 (by omega) (by
          obtain ⟨l, x, vs, ls, hv, h4, h5, h6⟩ := hrel.out
          exact ⟨l, x, vs, ls, hv, h4.less (by omega), h5, h6⟩) (f j).kind (f j).n (f j).x hop.b0 hop.b1 hop.b2)
        clear hrel hop HBE
        generalize (f j).kind = kd at *
        generalize (f j).n = nn at *
        generalize (f j).x = xx at *
        go_wp2_with (refine Go.Proofs.YtcepognpbeahhaaGreatDoor.Kc.wpList_load_any rfl 31 (.tmp 41) rfl ⟨b0, off0 + j * 3, none⟩ rfl [.int .i64 kd, .int .i64 nn, .int .u8 (xx : Int)] _ (three d0 d1 d2) Tryz.underlying31 rfl (by kernel_rfl) ?_)
        refine HDO.out.mono ?_
        rintro e w4 ⟨rfl, h4⟩
        have H4 := Lib.hid h4
        clear h4 HDO d0 d1 d2
        go_wp2
        go_roundw
        case rel => exact ⟨j + 1, by omega, by omega, by go_num, H4⟩
        case measure => simp [intOf]; omega
      · have hR : Hid (∃ l x vs ls hv, Two (Hv J ar10 hG hN) wr g.c n l x (12 - 0) xr vs ls hv l [(q, pairO g.c xr)] ∧ Go.Proofs.YtcepognpbeahhaaGreatDoor.Rc.Agree (V := Hv J ar10 hG hN) (fun (x : Rs) j => contR ar10 x j) x hv) := Lib.hid (by
          obtain ⟨l, x, vs, ls, hv, h4, h5, h6⟩ := hrel.out
          exact ⟨l, x, vs, ls, hv, h4.less (by omega), h5⟩)
        clear hrel
        by_cases hjm : j < m
        · have q3 : (j : Int) < (m : Int) := by omega
          have q4 : ¬ (j : Int) < 300 := by omega
          as_aux_lemma =>
          go_wp2
          go_loopw [9] (fun s wq => ∃ i : Nat, i ≤ 12 ∧ s = .int .i64 i ∧ Hid (∃ l x vs ls hv, Two (Hv J ar10 hG hN) wq g.c n l x (12 - i) xr vs ls hv l [(q, pairO g.c xr)] ∧ Go.Proofs.YtcepognpbeahhaaGreatDoor.Rc.Agree (V := Hv J ar10 hG hN) (fun (x : Rs) j => contR ar10 x j) x hv)) (fun s _ => 12 - (intOf s).toNat)
          case atStart => exact ⟨0, Nat.zero_le _, rfl, hR⟩
          case round =>
            clear hR
            obtain ⟨i, hi, rfl, hrel⟩ := hrel
            obtain ⟨l, x, vs, ls, hv, h4, h5⟩ := hrel.out
            obtain ⟨vb, vcap, hvs⟩ := h4.rf.vform
            subst hvs
            have c90 := pair1 h4.head
            have c00 := h4.rf.c0
            by_cases hlt : i < 12
            · have HRD := Lib.hid ((h4.less (k' := (12 - (i + 1)) + 1) (by omega)).vread i hlt)
              have H5 := Lib.hid h5
              clear hrel h4 h5
              go_wp2_with fail
              refine HRD.out.mono ?_
              rintro e w5 ⟨y, A5, len5, cap5, X5, x5, rfl, hrd, h6, hgot⟩
              have hrd : y = 0 ∧ X5 = contR ar10 x i ∧ ∀ j, contR ar10 x5 j = contR ar10 x j := hrd
              obtain ⟨rfl, hX, hc5⟩ := hrd
              rcases hgot with ⟨_, rfl, ad, o5, rfl, hby, hsec, h7⟩ | ⟨hne, _⟩
              · have e1 : X5 = hv i := hX.trans (H5.out i hlt)
                subst e1
                generalize hs : Sh.strL (hv i) = sx
                have c9 := Go.Proofs.YtcepognpbeahhaaGreatDoor.Kc.got_conv hby rfl h7.head w5.drew h7.head cap5 sx hs
                have c91 : w5.drew.cell? ⟨q, 1, none⟩ = some (.pointer (some ⟨xr, 0, none⟩)) := pair1 h7.tail.head
                have c01 : w5.drew.cell? ⟨xr, 0, none⟩ = some (.slice (some ⟨vb, 0, none⟩) 12 vcap) := h7.rf.c0
                have ct : w5.drew.cell? ⟨vb, i, none⟩ = some (.string sx) := by rw [← hs]; exact h7.rf.text hlt
                have hiI : (i : Int) < 12 := by omega
                have HN : Hid (∃ l x vs ls hv, Two (Hv J ar10 hG hN) w5.drew g.c n l x (12 - (i + 1)) xr vs ls hv l [(q, pairO g.c xr)] ∧ Go.Proofs.YtcepognpbeahhaaGreatDoor.Rc.Agree (V := Hv J ar10 hG hN) (fun (x : Rs) j => contR ar10 x j) x hv) := Lib.hid ⟨l, x5, _, ls, hv, h7.tail.grown (show Below w5.heap.size w5 w5.drew from (Below.refl _ w5).drew), fun j hj => (hc5 j).trans (H5.out j hj)⟩
                clear h6 hX hc5 hby hsec h7 hs HRD H5 c90 c00
                go_wp2_with fail
                go_region
                go_wp2
                go_roundw
                case rel => exact ⟨i + 1, by omega, by go_num, HN⟩
                case measure => simp [intOf]; omega
              · exact absurd rfl hne
            · obtain rfl : i = 12 := by omega
              have HBL : Hid (Below w.heap.size w _) := Lib.hid (by
                obtain ⟨R, _, _, h8⟩ := h4.cq
                exact cq_below h8 HBW.out.1 HBW.out.2)
              clear hrel h4 h5
              go_wp2
              go_ret
              exact ⟨rfl, HBL.out⟩
        · have q3 : ¬ (j : Int) < (m : Int) := by omega
          as_aux_lemma =>
          go_wp2
          go_loopw [9] (fun s wq => ∃ i : Nat, i ≤ 12 ∧ s = .int .i64 i ∧ Hid (∃ l x vs ls hv, Two (Hv J ar10 hG hN) wq g.c n l x (12 - i) xr vs ls hv l [(q, pairO g.c xr)] ∧ Go.Proofs.YtcepognpbeahhaaGreatDoor.Rc.Agree (V := Hv J ar10 hG hN) (fun (x : Rs) j => contR ar10 x j) x hv)) (fun s _ => 12 - (intOf s).toNat)
          case atStart => exact ⟨0, Nat.zero_le _, rfl, hR⟩
          case round =>
            clear hR
            obtain ⟨i, hi, rfl, hrel⟩ := hrel
            obtain ⟨l, x, vs, ls, hv, h4, h5⟩ := hrel.out
            obtain ⟨vb, vcap, hvs⟩ := h4.rf.vform
            subst hvs
            have c90 := pair1 h4.head
            have c00 := h4.rf.c0
            by_cases hlt : i < 12
            · have HRD := Lib.hid ((h4.less (k' := (12 - (i + 1)) + 1) (by omega)).vread i hlt)
              have H5 := Lib.hid h5
              clear hrel h4 h5
              go_wp2_with fail
              refine HRD.out.mono ?_
              rintro e w5 ⟨y, A5, len5, cap5, X5, x5, rfl, hrd, h6, hgot⟩
              have hrd : y = 0 ∧ X5 = contR ar10 x i ∧ ∀ j, contR ar10 x5 j = contR ar10 x j := hrd
              obtain ⟨rfl, hX, hc5⟩ := hrd
              rcases hgot with ⟨_, rfl, ad, o5, rfl, hby, hsec, h7⟩ | ⟨hne, _⟩
              · have e1 : X5 = hv i := hX.trans (H5.out i hlt)
                subst e1
                generalize hs : Sh.strL (hv i) = sx
                have c9 := Go.Proofs.YtcepognpbeahhaaGreatDoor.Kc.got_conv hby rfl h7.head w5.drew h7.head cap5 sx hs
                have c91 : w5.drew.cell? ⟨q, 1, none⟩ = some (.pointer (some ⟨xr, 0, none⟩)) := pair1 h7.tail.head
                have c01 : w5.drew.cell? ⟨xr, 0, none⟩ = some (.slice (some ⟨vb, 0, none⟩) 12 vcap) := h7.rf.c0
                have ct : w5.drew.cell? ⟨vb, i, none⟩ = some (.string sx) := by rw [← hs]; exact h7.rf.text hlt
                have hiI : (i : Int) < 12 := by omega
                have HN : Hid (∃ l x vs ls hv, Two (Hv J ar10 hG hN) w5.drew g.c n l x (12 - (i + 1)) xr vs ls hv l [(q, pairO g.c xr)] ∧ Go.Proofs.YtcepognpbeahhaaGreatDoor.Rc.Agree (V := Hv J ar10 hG hN) (fun (x : Rs) j => contR ar10 x j) x hv) := Lib.hid ⟨l, x5, _, ls, hv, h7.tail.grown (show Below w5.heap.size w5 w5.drew from (Below.refl _ w5).drew), fun j hj => (hc5 j).trans (H5.out j hj)⟩
                clear h6 hX hc5 hby hsec h7 hs HRD H5 c90 c00
                go_wp2_with fail
                go_region
                go_wp2
                go_roundw
                case rel => exact ⟨i + 1, by omega, by go_num, HN⟩
                case measure => simp [intOf]; omega
              · exact absurd rfl hne
            · obtain rfl : i = 12 := by omega
              have HBL : Hid (Below w.heap.size w _) := Lib.hid (by
                obtain ⟨R, _, _, h8⟩ := h4.cq
                exact cq_below h8 HBW.out.1 HBW.out.2)
              clear hrel h4 h5
              go_wp2
              go_ret
              exact ⟨rfl, HBL.out⟩
set_option maxRecDepth 100000 in
/-- WHAT THE WALK GIVES, FOR EVERY ARGUMENT AND EVERY WORLD THAT HOLDS THE TABLES. -/
theorem contract (H : Type) (enc : TypeId × Value → H) (W : World) (base : Nat) (args : Array Value) (ds gs : List (DataW H)) (before : List MemPlace)
    (hval : ∀ (j : Nat) t v, Tryz.f3.params[j]? = some t → args[j]? = some v → Value.okWide Tryz.prog W .any base t v)
    (hW : DataW.Whole enc Tryz.prog Tryz.f3.params.toList Rows.cacheDoesSpec.vars false W args.toList ds gs before)
    (hsz : (DataW.weightsEach Tryz.prog (Tryz.f3.params.toList ++ (OpenSpec.ofChange Rows.cacheDoesSpec).bare.plain.varTypes Tryz.prog) (ds ++ gs)).all (· ≤ reachBytes) = true) (hL : laidMetH Tryz.prog laidBoth W) :
    Calls Tryz.prog 3 args W fun e W' => ∃ v, e = .returned v ∧ Rows.cacheDoesSpec.post enc Tryz.prog Tryz.f3 false true false false W args v W' := by
  have hW' := hW
  obtain ⟨p, q, hA0, hV, rfl, hfz, hnd⟩ := hW
  have hA : DataW.TrodAll enc Tryz.prog W 0 (fun _ => true) true Tryz.f3.params.toList args.toList ds p := hA0
  have hsz2 : (DataW.weightsEach Tryz.prog (Tryz.f3.params.toList ++ []) (ds ++ gs)).all (· ≤ reachBytes) = true := hsz
  rw [Tryz.params3] at hA hval hsz2
  obtain ⟨v0, vs0, d0, ds0, p0, q0, hargs, rfl, rfl, h0, r0⟩ := trodAll_cons hA
  obtain ⟨v1, vs1, d1, ds1, p1, q1, rfl, rfl, rfl, h1, r1⟩ := trodAll_cons r0
  obtain ⟨rfl, rfl, rfl⟩ := trodAll_nil r1
  obtain rfl : args = #[v0, v1] := by cases args; simp_all
  obtain ⟨rfl, rfl⟩ := trodVars_none hV
  obtain ⟨a0, rfl, rfl, rfl, w0⟩ := open_int Tryz.underlying3 (hval 0 3 v0 rfl rfl) h0
  have bd0 := bounds_i64 w0
  obtain ⟨A1, n1, c1, rfl⟩ := okWide_slice Tryz.underlying22 (hval 1 22 v1 rfl rfl)
  have k1 := h1
  have lt1 : ∀ x ∈ p1, x.block < W.heap.size := by obtain ⟨m, hm⟩ := k1; exact DataW.trod_lt m _ _ _ hm
  obtain ⟨f1, hl1⟩ : ∃ f, Kc.Ops10 W A1 n1 f := by obtain ⟨fuel, hf⟩ := h1; exact Kc.ops10_in (by simpa [Value.cells] using hf)
  have hT := tabs_of_laid hL
  refine (walk a0 bd0.1 bd0.2 A1 n1 c1 f1 hl1 hT).mono fun e W' ⟨he, bel⟩ => ?_
  subst he
  exact ⟨_, rfl, _, _, _, [], _, [], hW', trodAll_mk1 (shut_bool Tryz.underlying4 _), (trodAll_cons_mk (shut_int Tryz.underlying3 w0) (trodAll_cons_mk (Below.trod laidOut (by kernel_rfl) (of_decide_eq_true (by kernel_rfl)) k1 bel lt1) trodAll_mk0)), rfl, bel.frame _, fun h => by cases h⟩

theorem laid_met (os : Os) : laidMetH Tryz.prog laidBoth ((laidWorld os).forCall (fun _ _ => 0) ⟨#[], #[.int .i64 0, .slice none 0 0], []⟩).memory :=
  laidMetH_of_parts3 (fuel := 8) (laidMet_of_run' 8 (by kernel_rfl) (by kernel_rfl)) (by kernel_rfl) (by kernel_rfl)
theorem reads (os : Os) {H : Type} (enc : TypeId × Value → H) : ∃ places, DataW.whole enc Tryz.prog ((laidWorld os).forCall (fun _ _ => 0) ⟨#[], #[.int .i64 0, .slice none 0 0], []⟩).memory Tryz.f3.params.toList Rows.cacheDoesSpec.vars false (#[.int .i64 0, .slice none 0 0] : Array Value).toList 8 = some ([.lit (.int .i64 0), .nil], [], places) :=
  ⟨[], by kernel_rfl⟩
set_option maxRecDepth 100000 in
theorem lifted (os : Os) (started : os.Started) (H : Type) (enc : TypeId × Value → H) (F : Stop.Interp) :
    ReturnsInHanded {} Tryz.checked os 3 .any ((OpenSpec.ofChange Rows.cacheDoesSpec).preRow enc Tryz.prog Tryz.f3 Rows.cacheDoesRow.domain false Rows.cacheDoesRow.laid) (((OpenSpec.ofChange Rows.cacheDoesSpec).at F).post enc Tryz.prog Tryz.f3 false true false false) := by
  obtain ⟨places, hx⟩ := reads os enc
  refine returnsInHanded_of_row (C := Tryz.checked) (s := (OpenSpec.ofChange Rows.cacheDoesSpec)) own started (by kernel_rfl) Tryz.func3
    (witness_row_at (enc := enc) (C := Tryz.checked) false (laidWorld os) #[.int .i64 0, .slice none 0 0] rfl (by kernel_rfl) (by kernel_rfl) (by kernel_rfl)
      (OpenSpec.preRow_of_cond 8 hx (by kernel_rfl) (fun k hk => by cases hk) (by kernel_rfl) (laid_met os))) ?_
  intro W base args ds gs before hval hW _ hcond hsz hL _ _
  exact contract H enc W base args ds gs before hval hW hsz hL
theorem said : Rows.CacheDoesSaid :=
  OpenClaim.holds_of_cond 3 Tryz.f3 rfl rfl rfl rfl rfl rfl rfl ⟨rfl, rfl, rfl, rfl, rfl⟩ rfl rfl rfl rfl rfl (by kernel_rfl) Tryz.func3 (by kernel_rfl)
    (of_decide_eq_true (by kernel_rfl)) (by unfold Func.isWrapper; first | (rw [if_pos (by decide +kernel)]; kernel_rfl) | (rw [if_neg (by decide +kernel)]; exact ⟨rfl, rfl⟩))
    (fun os started H enc _ F => by rw [OpenClaim.pre_eq_preRow]; exact lifted os started H enc F)
theorem plain (f : FuncId) (fn : Func) (hf : Tryz.pinned.checked.prog.funcNamed "ashlar/ashlarlaw10.CacheDoes" = some f) (hfn : Tryz.pinned.checked.prog.funcs[f]? = some fn) :
    false = Tryz.pinned.checked.prog.looks [] ∧ ∀ (j : Nat) t, fn.params[j]? = some t → Tryz.pinned.checked.prog.wantsStandIn t = false := by
  obtain rfl : f = 3 := Option.some.inj ((show Tryz.prog.funcNamed "ashlar/ashlarlaw10.CacheDoes" = some 3 by kernel_rfl).symm.trans hf) |>.symm
  obtain rfl : fn = Tryz.f3 := (Option.some.inj (Tryz.func3.symm.trans hfn)).symm
  refine ⟨by kernel_rfl, fun j t ht => ?_⟩
  rw [Tryz.params3] at ht
  have hm : t ∈ [3, 22] := by simpa using Array.mem_of_getElem? ht
  have hall : ([3, 22].all fun u => !Tryz.prog.wantsStandIn u) = true := by kernel_rfl
  exact (show Tryz.prog.wantsStandIn t = false by simpa using List.all_eq_true.1 hall t hm)

/-- ████ THE CARD ████ -/
theorem card : Rows.CacheDoesCardSaid :=
  Claim7.holds_tied_plain_at .later [] _ _ _ _ said (fun _ h => by cases h) (by kernel_rfl) (fun _ h => by cases h) cacheDoes_row_tie rfl ⟨rfl, rfl⟩ (by kernel_rfl) rfl plain (by kernel_rfl)
end Go.Proofs.YtcepognpbeahhaaGreatDoor.U.cacheDoes
