/-
  ShelfDoes is true: every call, in every order, of any shelf, tells what the definition tells, and leaves what it leaves; a fork goes on as the shelf that it was.
  Conditions: none.
-/
import Derived.Test.YtbkcdomapdflaaaKo
import Derived.Test.YtbkcdomapdflaaaIh
namespace Go.Proofs.Ytbkcdomapdflaaa.Sh.shelfDoes
open Go.ChangeShapes Go.WideShapes Go.ChangeAt Go.RowKit Go.Maps

theorem bytesOp : Try.prog.bytesOf 33 = 64 := by kernel_rfl
theorem ops_bound {H : Type} {enc : TypeId × Value → H} {W : World} {fuel n c : Nat} {A : Option Addr} {x : DataW H × List MemPlace} (h : DataW.trod enc Try.prog W 0 (fun _ => true) true fuel 22 [.slice A n c] = some x)
    (hw : ∀ k ∈ x.1.weights Try.prog 22, k ≤ reachBytes) : n * 64 ≤ 140737488351232 := by
  rcases DataW.trod_slice Try.underlying22 h with ⟨h0, hx⟩ | ⟨a, len, cap, elems, rest, m, _, h0, hx, _, hl, hm, hlen, hel, _⟩
  · simp only [List.cons.injEq, Value.slice.injEq, and_true] at h0
    obtain ⟨rfl, rfl, rfl⟩ := h0
    decide
  · simp only [List.cons.injEq, Value.slice.injEq, and_true] at h0
    obtain ⟨rfl, rfl, rfl⟩ := h0
    rw [hx] at hw
    have h1 := hw ((elems.map (·.1)).length * 64 + (rest.map (·.1)).length * 64) (by simp [DataW.weights, Try.underlying22, bytesOp, Nat.add_mul])
    simp only [List.length_map, hlen, reachBytes] at h1
    omega
/-- A shelf that is left alone from here on, beside the pair that goes on. -/
structure Tri (W w : World) (p p' q : Nat) (So S : Sf) (Fo F G : Nat → Prop) : Prop where
  old : Shelf w p So Fo
  pr : Pairs W w p' q S F G
  apF : ∀ b, Fo b → ¬ F b
  apG : ∀ b, Fo b → ¬ G b
  low : ∀ b, Fo b → W.heap.size ≤ b
section
variable {W w w1 : World} {p p' q : Nat} {So S So' : Sf} {Fo F G : Nat → Prop}
theorem Pairs.grown (h : Pairs W w p q S F G) (hb : Below w.heap.size w w1) : Pairs W w1 p q S F G :=
  have ho : Only (fun _ => False) w w1 := ⟨hb.os, hb.tape, hb.output, hb.size, fun k hk _ => hb.block k hk⟩
  ⟨h.sh.only ho (fun _ _ e => e), h.rf.only ho (fun _ _ e => e), h.apart, h.lowF, h.lowG, h.bel.trans (hb.mono h.bel.size)⟩
theorem Tri.grown (h : Tri W w p p' q So S Fo F G) (hb : Below w.heap.size w w1) : Tri W w1 p p' q So S Fo F G :=
  have ho : Only (fun _ => False) w w1 := ⟨hb.os, hb.tape, hb.output, hb.size, fun k hk _ => hb.block k hk⟩
  ⟨h.old.only ho (fun _ _ e => e), Pairs.grown h.pr hb, h.apF, h.apG, h.low⟩
theorem Tri.left (h : Tri W w p p' q So S Fo F G) (hl : Left Fo w p So' w1) : ∃ Fo', Tri W w1 p p' q So' S Fo' F G := by
  obtain ⟨Fo', hs, hm⟩ := hl
  refine ⟨Fo', hs, ⟨h.pr.sh.only hm.1 (fun b hb hf => h.apF b hf hb), h.pr.rf.only hm.1 (fun b hb hf => h.apG b hf hb), h.pr.apart, h.pr.lowF, h.pr.lowG, h.pr.bel.trans (hm.1.below h.low h.pr.bel.size)⟩, fun b h1 h2 => ?_, fun b h1 h2 => ?_, fun b h1 => ?_⟩
  · rcases hm.2 b h1 with e | e
    · exact h.apF b e h2
    · have := h.pr.sh.ltF h2; omega
  · rcases hm.2 b h1 with e | e
    · exact h.apG b e h2
    · have := h.pr.rf.lt h2; omega
  · rcases hm.2 b h1 with e | e
    · exact h.low b e
    · exact Nat.le_trans h.pr.bel.size e
theorem tri_start (h : Pairs W w p q S F G) {F' : Nat → Prop} (hs : Shelf w1 p' S F') (hF : ∀ b, F' b → w.heap.size ≤ b) (hb : Below w.heap.size w w1) : Tri W w1 p p' q S S F F' G := by
  have hg := Pairs.grown h hb
  refine ⟨hg.sh, ⟨hs, hg.rf, fun b h1 h2 => ?_, fun b h1 => Nat.le_trans h.bel.size (hF b h1), h.lowG, hg.bel⟩, fun b h1 h2 => ?_, h.apart, h.lowF⟩
  · have := hF b h1
    have := h.rf.lt h2
    omega
  · have := hF b h2
    have := h.sh.ltF h1
    omega
end
/-- The shelf's measures, when so many calls were done. -/
structure Meas (D N j : Nat) (S : Sf) : Prop where
  len : S.disks.length = D
  sec : S.sectors = N
  few : ∀ k ∈ S.disks, k.waits.length ≤ j
theorem Meas.next {D N j : Nat} {S S' : Sf} (h : Meas D N j S) (g : Grows S S') : Meas D N (j + 1) S' := ⟨g.len.trans h.len, g.sec.trans h.sec, g.waits j h.few⟩
theorem Meas.up {D N j : Nat} {S : Sf} (h : Meas D N j S) : Meas D N (j + 1) S := ⟨h.len, h.sec, fun k hk => Nat.le_succ_of_le (h.few k hk)⟩
theorem Meas.isFew {D N j : Nat} {S : Sf} (h : Meas D N j S) (hj : j < 4398046511104) : Few S := fun k hk => Nat.lt_of_le_of_lt (h.few k hk) hj

set_option maxRecDepth 100000 in
set_option maxHeartbeats 8000000 in
theorem walk {w : World} (d : Int) (_ : -9223372036854775808 ≤ d) (_ : d ≤ 9223372036854775807) (n : Int) (_ : -9223372036854775808 ≤ n) (_ : n ≤ 9223372036854775807) (A : Option Addr) (nn c : Nat) (f : Nat → OpV) (hl : OpsAre w A nn f) (hb64 : nn * 64 ≤ 140737488351232) :
    Calls Try.prog 3 #[.int .i64 d, .int .i64 n, .slice A nn c] w fun e w' => e = .returned (.bool true) ∧ Below w.heap.size w w' := by
  by_cases hin : 1 ≤ d ∧ d ≤ 17 ∧ 1 ≤ n ∧ n ≤ 4096
  · obtain ⟨h1, h2, h3, h4⟩ := hin
    obtain ⟨D, rfl⟩ : ∃ m : Nat, d = (m : Int) := ⟨d.toNat, by omega⟩
    obtain ⟨N, rfl⟩ : ∃ m : Nat, n = (m : Int) := ⟨n.toNat, by omega⟩
    have hN := Lib.hid (new_ok D N w (by omega) (by omega) (by omega) (by omega))
    have hR := Lib.hid (fun w1 => rnew_ok D N w1 (by omega) (by omega) (by omega) (by omega))
    go_enter Try.func3, Try.ntmps3
    go_wp2_with fail
    refine hN.out.mono ?_
    rintro e w1 ⟨p, F, rfl, hs1, hF1, hb1⟩
    go_wp2_with fail
    refine (hR.out w1).mono ?_
    rintro e w2 ⟨q, G, rfl, hr2, hG2, hb2⟩
    have hP : Pairs w w2 p q (newSf D N) F G := by
      have ho : Only (fun _ => False) w1 w2 := ⟨hb2.os, hb2.tape, hb2.output, hb2.size, fun k hk _ => hb2.block k hk⟩
      exact ⟨hs1.only ho (fun _ _ e => e), hr2, fun b x y => by have := hs1.ltF x; have := hG2 b y; omega, hF1, fun b y => Nat.le_trans hb1.size (hG2 b y), hb1.trans (hb2.mono hb1.size)⟩
    have hM : Meas D N 0 (newSf D N) := ⟨by simp [newSf], rfl, fun k hk => by
      have hk : k ∈ List.replicate D (newDk N) := hk
      rw [(List.mem_replicate.1 hk).2]
      exact Nat.le_refl 0⟩
    have HP := Lib.hid hP
    have HM := Lib.hid hM
    clear hs1 hF1 hb1 hr2 hG2 hb2 hP hM hN hR
    go_wp2_with fail
    refine (lives_true _).mono ?_
    rintro e w3 ⟨rfl, hb3⟩
    have HI := Lib.hid (show Pairs w w3 p q (newSf D N) F G ∧ Meas D N 0 (newSf D N) from ⟨Pairs.grown HP.out hb3, HM.out⟩)
    clear hb3 HP HM
    go_wp2_with fail
    go_loopw [7, 11] (fun sv i wr => ∃ (j : Nat) (p : Nat) (S : Sf) (F G : Nat → Prop), j ≤ nn ∧ i = .int .i64 j ∧ sv = .pointer (some ⟨p, 0, none⟩) ∧ Hid (Pairs w wr p q S F G ∧ Meas D N j S)) (fun _ i _ => nn - (intOf i).toNat)
    case atStart => exact ⟨0, p, _, F, G, Nat.zero_le _, rfl, rfl, HI⟩
    case round =>
      clear HI
      obtain ⟨j, p, S, F, G, hj, rfl, rfl, hrel⟩ := hrel
      by_cases hlt : j < nn
      · obtain ⟨b, off, hA, hbw, hops⟩ := hl.2 (by omega)
        have ho := hops j hlt
        have hbl := hrel.out.1.bel
        have o0 := (hbl.cell (p := ⟨b, off + j * 6, none⟩) hbw).trans ho.c0
        have o1 := (hbl.cell (p := ⟨b, off + j * 6 + 1, none⟩) hbw).trans ho.c1
        have o2 := (hbl.cell (p := ⟨b, off + j * 6 + 2, none⟩) hbw).trans ho.c2
        have o3 := (hbl.cell (p := ⟨b, off + j * 6 + 3, none⟩) hbw).trans ho.c3
        have o4 := (hbl.cell (p := ⟨b, off + j * 6 + 4, none⟩) hbw).trans ho.c4
        have o5 := (hbl.cell (p := ⟨b, off + j * 6 + 5, none⟩) hbw).trans ho.c5
        have hfew : Few S := hrel.out.2.isFew (by omega)
        subst hA
        rcases hof : f j with ⟨kind, dd, n2, at_, x, A2, m2, c2, ks⟩
        rw [hof] at ho o0 o1 o2 o3 o4 o5
        simp only at o0 o1 o2 o3 o4 o5
        have hx : x < 256 := ho.b4
        have hn0 : -9223372036854775808 ≤ n2 := ho.b2.1
        have hn1 : n2 ≤ 9223372036854775807 := ho.b2.2
        have hm2 : m2 ≤ 9223372036854775807 := ho.b5
        have hk : KeepIs w (Old w) A2 m2 ks := ho.keep
        have HOPS := Lib.hid hl
        have hM := Lib.hid hrel.out.2
        have HREL := Lib.hid hrel.out.1
        clear ho hops hof hbl hl hrel
        by_cases h8 : kind = 8
        · have q8 : (kind == 8) = true := by rw [beq_iff_eq]; exact h8
          have hl128 : (secOf 99).length = 128 := (secOf_sec (by decide)).1
          obtain ⟨y1, S1, g1, W1, _⟩ := write_pair S 0 0 (secOf 99) (secOf_sec (by decide)).2 hfew
          have M1 := hM.out.next g1
          obtain ⟨y2, S2, f2⟩ := flush_pair S1 0 (M1.isFew (by omega))
          have M2 := M1.next f2.grows
          obtain ⟨y3, S3, f3⟩ := kill_pair S2 0
          have M3 := M2.next f3.grows
          have F3 := M3.isFew (by omega)
          have FW := Lib.hid (fun w1 Fo A c h hr hA => hl128 ▸ W1 w1 p Fo A c h hr hA)
          have FF := Lib.hid (fun w1 Fo h => show Calls Try.prog 10 #[.pointer (some ⟨p, 0, none⟩), .int .i64 0] w1 _ from f2.sh w1 p Fo h)
          have FK := Lib.hid (fun w1 Fo h => show Calls Try.prog 11 #[.pointer (some ⟨p, 0, none⟩), .int .i64 0] w1 _ from f3.sh w1 p Fo h)
          clear f2 f3 W1 M1 M2 M3 h8 hx hn0 hn1 hm2 hk
          go_wp2_with fail
          refine (sfork_any wr p HREL.out.sh hfew).mono ?_
          rintro e w1 ⟨p', F', rfl, hs', hF', hb1⟩
          have T0 := Lib.hid (tri_start HREL.out hs' hF' hb1)
          clear hs' hF' hb1 HREL
          go_wp2_with fail
          refine (sector_any w1 99 (by decide)).mono ?_
          rintro e w2 ⟨rfl, ho2, hb2⟩
          have T1 := Lib.hid (T0.out.grown hb2)
          have hrd : Reads w2 w2.heap.size (some ⟨w1.heap.size, 0, none⟩) (secOf 99).length (bts (secOf 99)) := by rw [hl128]; exact Reads.of_own ho2
          have hcw := Lib.hid (FW.out w2 F (some ⟨w1.heap.size, 0, none⟩) 128 T1.out.old hrd (fun a _ ha hF => by injection ha with ha; subst ha; have := T0.out.old.ltF hF; exact absurd this (Nat.lt_irrefl _)))
          clear ho2 hb2 hrd T0 FW
          go_wp2_with fail
          refine hcw.out.mono ?_
          rintro e w3 ⟨rfl, hl3⟩
          obtain ⟨Fo1, T2⟩ := T1.out.left hl3
          have T2 := Lib.hid T2
          clear hl3 T1 hcw
          go_wp2_with fail
          refine (FF.out w3 Fo1 T2.out.old).mono ?_
          rintro e w4 ⟨rfl, hl4⟩
          obtain ⟨Fo2, T3⟩ := T2.out.left hl4
          have T3 := Lib.hid T3
          clear hl4 T2 FF
          go_wp2_with fail
          refine (FK.out w4 Fo2 T3.out.old).mono ?_
          rintro e w5 ⟨rfl, hl5⟩
          obtain ⟨Fo3, T4⟩ := T3.out.left hl5
          have T4 := Lib.hid T4
          clear hl5 T3 FK
          go_wp2_with fail
          refine (crash_any w5 p (fun _ => False) none 0 0 [] T4.out.old ⟨rfl, fun h => absurd h (by decide)⟩ (fun _ h => h.elim) (by decide) F3).mono ?_
          rintro e w6 ⟨rfl, hl6⟩
          obtain ⟨Fo4, T5⟩ := T4.out.left hl6
          have HE := Lib.hid (show Pairs w w6 p' q S F' G ∧ Meas D N (j + 1) S from ⟨T5.pr, hM.out.up⟩)
          clear T5 T4 hl6 F3 hM
          go_wp2_with fail
          go_roundw
          case rel => exact ⟨j + 1, p', S, F', G, by omega, by go_num, rfl, HE⟩
          case measure => simp [intOf]; omega
        · have q8 : (kind == 8) = false := by rw [beq_eq_false_iff_ne]; exact h8
          have HD := Lib.hid (does_any HREL.out hfew kind dd n2 at_ x A2 m2 c2 ks hx hn0 hn1 hm2 hk)
          clear h8 hx hn0 hn1 hm2 hk HREL hfew
          go_wp2_with fail
          refine HD.out.mono ?_
          rintro e w1 ⟨rfl, S1, F1, G1, hP1, hg⟩
          have HE := Lib.hid (show Pairs w w1 p q S1 F1 G1 ∧ Meas D N (j + 1) S1 from ⟨hP1, hM.out.next hg⟩)
          clear hP1 hg hM HD
          go_wp2_with fail
          go_roundw
          case rel => exact ⟨j + 1, p, S1, F1, G1, by omega, by go_num, rfl, HE⟩
          case measure => simp [intOf]; omega
      · obtain rfl : j = nn := by omega
        obtain ⟨⟨D9, gs9, hsh⟩, hM⟩ : Shelf wr p S F ∧ Meas D N j S := ⟨hrel.out.1.sh, hrel.out.2⟩
        have HZ := Lib.hid (size_any hsh)
        rw [hM.len, hM.sec] at HZ
        have HB := Lib.hid hrel.out.1.bel
        clear hsh hM hrel hl
        go_wp2_with fail
        refine HZ.out.mono ?_
        rintro e w4 ⟨rfl, z, rfl⟩
        go_wp2_with fail
        go_ret
        exact ⟨rfl, drawnN HB.out z⟩
  · have hno : d < 1 ∨ (1 ≤ d ∧ 17 < d) ∨ (1 ≤ d ∧ d ≤ 17 ∧ n < 1) ∨ (1 ≤ d ∧ d ≤ 17 ∧ 1 ≤ n ∧ 4096 < n) := by omega
    have hN := Lib.hid (new_no d n w hno)
    have hR := Lib.hid (rnew_no d n w (by omega))
    clear hin hno hl hb64
    go_enter Try.func3, Try.ntmps3
    go_wp2_with fail
    refine hN.out.mono ?_
    rintro e w1 ⟨rfl, rfl⟩
    go_wp2_with fail
    refine hR.out.mono ?_
    rintro e w1 ⟨rfl, rfl⟩
    go_wp2_with fail
    refine (lives_true _).mono ?_
    rintro e w3 ⟨rfl, hb3⟩
    go_wp2_with fail
    go_ret
    exact ⟨rfl, hb3⟩

set_option maxRecDepth 100000 in
/-- WHAT THE WALK GIVES, FOR EVERY ARGUMENT AND EVERY WORLD THAT HOLDS THE TABLES. -/
theorem contract (H : Type) (enc : TypeId × Value → H) (W : World) (base : Nat) (args : Array Value) (ds gs : List (DataW H)) (before : List MemPlace)
    (hval : ∀ (j : Nat) t v, Try.f3.params[j]? = some t → args[j]? = some v → Value.okWide Try.prog W .any base t v)
    (hW : DataW.Whole enc Try.prog Try.f3.params.toList Rows.shelfDoesSpec.vars false W args.toList ds gs before)
    (hsz : (DataW.weightsEach Try.prog (Try.f3.params.toList ++ (OpenSpec.ofChange Rows.shelfDoesSpec).bare.plain.varTypes Try.prog) (ds ++ gs)).all (· ≤ reachBytes) = true) (_hL : laidMetH Try.prog laidBoth W) :
    Calls Try.prog 3 args W fun e W' => ∃ v, e = .returned v ∧ Rows.shelfDoesSpec.post enc Try.prog Try.f3 false true false false W args v W' := by
  have hW' := hW
  obtain ⟨p, q, hA0, hV, rfl, hfz, hnd⟩ := hW
  have hA : DataW.TrodAll enc Try.prog W 0 (fun _ => true) true Try.f3.params.toList args.toList ds p := hA0
  have hsz2 : (DataW.weightsEach Try.prog (Try.f3.params.toList ++ []) (ds ++ gs)).all (· ≤ reachBytes) = true := hsz
  rw [Try.params3] at hA hval hsz2
  obtain ⟨v0, vs0, d0, ds0, p0, q0, hargs, rfl, rfl, h0, r0⟩ := trodAll_cons hA
  obtain ⟨v1, vs1, d1, ds1, p1, q1, rfl, rfl, rfl, h1, r1⟩ := trodAll_cons r0
  obtain ⟨v2, vs2, d2, ds2, p2, q2, rfl, rfl, rfl, h2, r2⟩ := trodAll_cons r1
  obtain ⟨rfl, rfl, rfl⟩ := trodAll_nil r2
  obtain rfl : args = #[v0, v1, v2] := by cases args; simp_all
  obtain ⟨rfl, rfl⟩ := trodVars_none hV
  obtain ⟨a0, rfl, rfl, rfl, w0⟩ := open_int Try.underlying3 (hval 0 3 v0 rfl rfl) h0
  have bd0 := bounds_i64 w0
  obtain ⟨a1, rfl, rfl, rfl, w1⟩ := open_int Try.underlying3 (hval 1 3 v1 rfl rfl) h1
  have bd1 := bounds_i64 w1
  obtain ⟨A2, n2, c2, rfl⟩ := okWide_slice Try.underlying22 (hval 2 22 v2 rfl rfl)
  have k2 := h2
  have lt2 : ∀ x ∈ p2, x.block < W.heap.size := by obtain ⟨m, hm⟩ := k2; exact DataW.trod_lt m _ _ _ hm
  have hw2 : ∀ m ∈ d2.weights Try.prog 22, m ≤ reachBytes := fun m hm => by simpa using List.all_eq_true.1 hsz2 m (DataW.weights_mem_each (j := 2) (t := 22) rfl rfl m hm)
  obtain ⟨f2, hl2⟩ : ∃ f, OpsAre W A2 n2 f := by obtain ⟨fuel, hf⟩ := h2; exact ops_in (by simpa [Value.cells] using hf)
  have b2 : n2 * 64 ≤ 140737488351232 := by obtain ⟨fuel, hf⟩ := h2; exact ops_bound (by simpa [Value.cells] using hf) hw2
  refine (walk a0 bd0.1 bd0.2 a1 bd1.1 bd1.2 A2 n2 c2 f2 hl2 b2).mono fun e W' ⟨he, bel⟩ => ?_
  subst he
  exact ⟨_, rfl, _, _, _, [], _, [], hW', trodAll_mk1 (shut_bool Try.underlying4 _), (trodAll_cons_mk (shut_int Try.underlying3 w0) (trodAll_cons_mk (shut_int Try.underlying3 w1) (trodAll_cons_mk (Below.trod laidOut (by kernel_rfl) (of_decide_eq_true (by kernel_rfl)) k2 bel lt2) trodAll_mk0))), rfl, bel.frame _, fun h => by cases h⟩

theorem laid_met (os : Os) : laidMetH Try.prog laidBoth ((laidWorld os).forCall (fun _ _ => 0) ⟨#[], #[.int .i64 0, .int .i64 0, .slice none 0 0], []⟩).memory :=
  laidMetH_of_parts3 (fuel := 8) (laidMet_of_run' 8 (by kernel_rfl) (by kernel_rfl)) (by kernel_rfl) (by kernel_rfl)
theorem reads (os : Os) {H : Type} (enc : TypeId × Value → H) : ∃ places, DataW.whole enc Try.prog ((laidWorld os).forCall (fun _ _ => 0) ⟨#[], #[.int .i64 0, .int .i64 0, .slice none 0 0], []⟩).memory Try.f3.params.toList Rows.shelfDoesSpec.vars false (#[.int .i64 0, .int .i64 0, .slice none 0 0] : Array Value).toList 8 = some ([.lit (.int .i64 0), .lit (.int .i64 0), .nil], [], places) :=
  ⟨[], by kernel_rfl⟩
set_option maxRecDepth 100000 in
theorem lifted (os : Os) (started : os.Started) (H : Type) (enc : TypeId × Value → H) (F : Stop.Interp) :
    ReturnsInHanded {} Try.checked os 3 .any ((OpenSpec.ofChange Rows.shelfDoesSpec).preRow enc Try.prog Try.f3 Rows.shelfDoesRow.domain false Rows.shelfDoesRow.laid) (((OpenSpec.ofChange Rows.shelfDoesSpec).at F).post enc Try.prog Try.f3 false true false false) := by
  obtain ⟨places, hx⟩ := reads os enc
  refine returnsInHanded_of_row (C := Try.checked) (s := (OpenSpec.ofChange Rows.shelfDoesSpec)) own started (by kernel_rfl) Try.func3
    (witness_row_at (enc := enc) (C := Try.checked) false (laidWorld os) #[.int .i64 0, .int .i64 0, .slice none 0 0] rfl (by kernel_rfl) (by kernel_rfl) (by kernel_rfl)
      (OpenSpec.preRow_of_cond 8 hx (by kernel_rfl) (fun k hk => by cases hk) (by kernel_rfl) (laid_met os))) ?_
  intro W base args ds gs before hval hW _ hcond hsz hL _ _
  exact contract H enc W base args ds gs before hval hW hsz hL
theorem said : Rows.ShelfDoesSaid :=
  OpenClaim.holds_of_cond 3 Try.f3 rfl rfl rfl rfl rfl rfl rfl ⟨rfl, rfl, rfl, rfl, rfl⟩ rfl rfl rfl rfl rfl (by kernel_rfl) Try.func3 (by kernel_rfl)
    (of_decide_eq_true (by kernel_rfl)) (by unfold Func.isWrapper; first | (rw [if_pos (by decide +kernel)]; kernel_rfl) | (rw [if_neg (by decide +kernel)]; exact ⟨rfl, rfl⟩))
    (fun os started H enc _ F => by rw [OpenClaim.pre_eq_preRow]; exact lifted os started H enc F)
end Go.Proofs.Ytbkcdomapdflaaa.Sh.shelfDoes
