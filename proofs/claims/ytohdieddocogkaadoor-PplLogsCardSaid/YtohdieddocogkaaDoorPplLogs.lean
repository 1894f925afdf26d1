/-
  PplLogs is true for every number of slots and calls: each call tells what the document says of it, and all at the end is what was put.
  Conditions: none of its own; the tables hold what the program's text lays (the card ties that).
-/
import Derived.Test.YtohdieddocogkaaDoorQr
namespace Go.Proofs.YtohdieddocogkaaDoor.U.pplLogs
open Go.ChangeShapes Go.WideShapes Go.ChangeAt Go.RowKit Go.Maps

theorem gots_pre (S : Sh.Sf) (d k : Nat) : ∀ m, ∃ r, gots S d (k + m) = gots S d k ++ r
  | 0 => ⟨[], by simp⟩
  | m + 1 => by
    obtain ⟨r, h⟩ := gots_pre S d k m
    exact ⟨r ++ (got S d (k + m)).toList, by rw [← Nat.add_assoc, gots_succ, h, List.append_assoc]⟩
theorem gots_at {S : Sh.Sf} {d k n : Nat} {r : Nat × Nat × Sh.Bs} (hk : k < n) (hr : got S d k = some r) : (gots S d n)[(gots S d k).length]? = some r := by
  obtain ⟨x, h⟩ := gots_pre S d (k + 1) (n - (k + 1))
  rw [show k + 1 + (n - (k + 1)) = n by omega, gots_succ, hr] at h
  rw [h, List.append_assoc, List.getElem?_append_right (Nat.le_refl _), Nat.sub_self]
  rfl
theorem cellsOf_get : ∀ (es : List En) (i : Nat) (e : En) (r : Nat), es[i]? = some e → r < 3 → (cellsOf es)[i * 3 + r]? = e.cells[r]?
  | [], _, _, _, h, _ => by cases h
  | e :: es, 0, e', r, h, hr => by
    have h : e = e' := by simpa using h
    subst h
    show (e.cells ++ cellsOf es)[0 * 3 + r]? = e.cells[r]?
    rw [Nat.zero_mul, Nat.zero_add, List.getElem?_append_left (by show r < 3; exact hr)]
  | e :: es, i + 1, e', r, h, hr => by
    show (e.cells ++ cellsOf es)[(i + 1) * 3 + r]? = e'.cells[r]?
    rw [List.getElem?_append_right (by show 3 ≤ _; omega)]
    have e1 : (i + 1) * 3 + r - e.cells.length = i * 3 + r := by show (i + 1) * 3 + r - 3 = _; omega
    rw [e1]
    exact cellsOf_get es i e' r (by simpa using h) hr
theorem got_none {S : Sh.Sf} {j : Nat} {z : RecV} (h : SlotIs S j z false) : got S 0 j = none := by
  unfold got
  rw [if_neg]
  rintro ⟨e, _⟩
  rw [← vals_V] at e
  exact e (h.2 rfl)
theorem got_some {S : Sh.Sf} {j : Nat} {z : RecV} (h : SlotIs S j z true) (hs : Small z.l) : ∃ x t : Nat, z.s = x ∧ z.q = t ∧ z.n = 128 ∧ got S 0 j = some (x, t, z.l) := by
  obtain ⟨x, t, e1, e2, hx, ht, hn, e4, e5⟩ := h.1 rfl
  obtain ⟨o1, o2, o3, _⟩ := okD_head hx ht z.l hs
  refine ⟨x, t, e1, e2, hn, ?_⟩
  unfold got
  rw [← vals_V, ← vals_V, e4, e5, if_pos ⟨headL_ne _, o1⟩, o2, o3]
/-- A row of what All gives. -/
theorem ens_cell {w : World} {base c i : Nat} {A : Option Addr} {es : List En} {e : En} (h : Ens w base (.slice A es.length c) es) (he : es[i]? = some e) :
    ∃ gm, A = some ⟨gm, 0, none⟩ ∧ gm < w.heap.size ∧ (w.cell? ⟨gm, i * 3, none⟩ = some (.int .i64 e.a) ∧ w.cell? ⟨gm, i * 3 + 1, none⟩ = some (.int .i64 e.b) ∧ w.cell? ⟨gm, i * 3 + 2, none⟩ = some (.slice e.A 128 e.c)) ∧ Reads w w.heap.size e.A 128 (bts e.l) := by
  have hi : i < es.length := (List.getElem?_eq_some_iff.1 he).1
  have h' := h.own
  rcases h.own.2 with ⟨e1, _⟩ | ⟨gm, cap, cur, e1, _⟩
  · injection e1 with e1 e2; omega
  · injection e1 with e1 e2 e3
    subst e1
    have q := fun r (hr : r < 3) => (World.ownsRow.cellAt h' (i * 3 + r) (by omega)).trans (cellsOf_get es i e r he hr)
    refine ⟨gm, rfl, (h.own.lt gm rfl).2, ⟨q 0 (by decide), q 1 (by decide), q 2 (by decide)⟩, (h.parts e ?_).1⟩
    exact List.mem_of_getElem? he
set_option maxRecDepth 100000 in
set_option maxHeartbeats 4000000 in
theorem walk_out {w : World} (n : Int) (hn : n < 1 ∨ 8 < n) (B0 : Option Addr) (nn c0 : Nat) (hA : All w) :
    Calls Tryd.prog 6 #[.int .i64 n, .slice B0 nn c0] w fun e w' => e = .returned (.bool true) ∧ Below w.heap.size w w' := by
  rcases hn with hn | hn
  all_goals
    have q1 : decide (n < 1) = decide (n < 1) := rfl
    go_enter Tryd.func6, Tryd.ntmps6
    go_wp2_with fail
    refine (Sh.new_ok 1 40 w (by decide) (by decide) (by decide) (by decide)).mono ?_
    rintro e w1 ⟨p, F1, rfl, hS, hF, hb1⟩
    have HO1 := Lib.hid (open_yes 0 hS (by decide))
    have HB1 := Lib.hid hb1
    clear hS hF hb1
    go_wp2_with fail
    refine HO1.out.mono ?_
    rintro e w2 ⟨rfl, hd, hb2⟩
    have HB2 := Lib.hid (HB1.out.trans (hb2.mono HB1.out.size))
    clear hd hb2 HO1
    generalize w1.heap.size = a at *
    have HL := Lib.hid (logOpen_slots (some ⟨a, 0, none⟩) n (by first | exact .inl hn | exact .inr hn) w2)
    have LI := Lib.hid (lives_true w2 (hA.over HB2.out).tabs (hA.over HB2.out).fld)
    go_wp2_with fail
    refine HL.out.mono ?_
    rintro e w' ⟨rfl, rfl⟩
    go_wp2_with fail
    refine LI.out.mono ?_
    rintro e w4 ⟨rfl, b4⟩
    have HB4 := Lib.hid (HB2.out.trans (b4.mono HB2.out.size))
    clear b4
    go_wp2_with fail
    go_ret
    exact ⟨rfl, HB4.out⟩
set_option maxRecDepth 100000 in
set_option maxHeartbeats 16000000 in
theorem walk_in {w : World} (n : Nat) (hn1 : 1 ≤ n) (hn8 : n ≤ 8) (B0 : Option Addr) (nn c0 : Nat) (f : Nat → Op7) (hops : Ops7 w B0 nn f) (hA : All w) :
    Calls Tryd.prog 6 #[.int .i64 n, .slice B0 nn c0] w fun e w' => e = .returned (.bool true) ∧ Below w.heap.size w w' := by
  have hnn := hops.1
  have HOP := Lib.hid hops
  clear hops
  have qa : decide ((n : Int) < 1) = false := by simp; omega
  have qb : decide ((8 : Int) < (n : Int)) = false := by simp; omega
  have hbk : blk 40 = 37 := blk40
  go_enter Tryd.func6, Tryd.ntmps6
  go_wp2_with fail
  refine (Sh.new_ok 1 40 w (by decide) (by decide) (by decide) (by decide)).mono ?_
  rintro e w1 ⟨p, F1, rfl, hS, hF, hb⟩
  have a1 : Sh.At w.heap.size w w1 p (Sh.newSf 1 40) F1 := ⟨hS, hF, hb, hb.size⟩
  have HO1 := Lib.hid (open_yes 0 a1.shelf (by decide))
  have A1 := Lib.hid a1
  clear hS hF hb a1
  go_wp2_with fail
  refine HO1.out.mono ?_
  rintro e w2 ⟨rfl, hd, hb⟩
  have D2 := Lib.hid (dv_open (a := w1.heap.size) A1.out hd hb rfl)
  have HO2 := Lib.hid (logOpen_ok n hn1 hn8 D2.out.dev D2.out.on.shelf (show 2 + 2 * n ≤ blk 40 by omega))
  clear hd hb A1 HO1
  generalize w1.heap.size = a at *
  go_wp2_with fail
  refine HO2.out.mono ?_
  rintro e w3 ⟨rfl, hl, hb⟩
  have L3 := Lib.hid (lg_open D2.out hl hb rfl)
  clear hl hb D2 HO2
  generalize w2.heap.size = g at *
  have LI := Lib.hid (lives_true w3 (hA.over L3.out.dv.on.bel).tabs (hA.over L3.out.dv.on.bel).fld)
  go_wp2_with fail
  refine LI.out.mono ?_
  rintro e w4 ⟨rfl, b4⟩
  have L4 := L3.out.grown b4
  clear L3 LI b4
  obtain ⟨w5, hmk1, ⟨hlt5, hrc5, hth5⟩, b5⟩ := make_recs w4 n hn1 hn8
  obtain ⟨w6, hmk2, ⟨hlt6, hrc6, hth6⟩, b6⟩ := make_bools w5 n hn1 hn8
  have o6 := only_below (fun _ => False) b6
  have LO6 := Lib.hid (show Lo w w6 g a p w4.heap.size w5.heap.size n 0 (fun _ => zeroRec) (fun _ => false) (fun _ => zeroRec) (fun _ => false) from
    ⟨⟨-1, Sh.newSf 1 40, F1, (L4.grown b5).grown b6, (Jp.new (n := 1) (s := 40) (d := 0) (by decide)).1.more (fun _ _ => trivial), calm_new (by decide), rfl, by
      intro k hk
      have hk : k ∈ List.replicate 1 (Sh.newDk 40) := hk
      rw [(List.mem_replicate.1 hk).2]
      exact Nat.le_refl _, ⟨fun e => Nat.lt_irrefl _ (L4.lt _ e), fun e => Nat.lt_irrefl _ ((L4.grown b5).lt _ e)⟩, fun j hj => ⟨fun e => (by cases e), fun _ => (Jp.new (n := 1) (s := 40) (d := 0) (by decide)).2 (2 + 2 * j) (by omega)⟩⟩,
     ⟨Nat.lt_of_lt_of_le hlt5 b6.size, hlt6, fun k hk => range_only o6 hlt5 (fun e => e) (hrc5 k hk), there_only o6 hlt5 (fun e => e) hth5, hrc6, hth6⟩,
     ⟨by omega, by have := L4.log.lt; omega, by have := L4.log.lt; omega, L4.dv.on.size, Nat.le_trans L4.dv.on.size b5.size⟩, fun _ => zero_ok w⟩)
  clear L4 hlt5 hrc5 hth5 b5 hlt6 hrc6 hth6 b6 o6 hbk
  generalize w4.heap.size = h at *
  generalize w5.heap.size = q at *
  go_wp2_with fail
  clear hmk1 hmk2 qa qb
  go_loopw [13] (fun s13 wr => ∃ (k : Nat) (hv : Nat → RecV) (iz : Nat → Bool), k ≤ nn ∧ k ≤ 300 ∧ s13 = .int .i64 k ∧ Hid (Lo w wr g a p h q n k hv iz hv iz)) (fun i _ => 300 - (intOf i).toNat)
  case atStart => exact ⟨0, _, _, Nat.zero_le _, Nat.zero_le _, rfl, LO6⟩
  case round =>
    obtain ⟨k, hv, iz, hk, hk2, rfl, hbag⟩ := hrel
    clear LO6
    by_cases hlt : k < nn ∧ k < 300
    · obtain ⟨hlt, hlt2⟩ := hlt
      obtain ⟨b, off, rfl, hbl, hop⟩ := HOP.out.2 (by omega)
      have hop := hop k hlt
      have hbel := hbag.out.bel
      have D0 := Lib.hid (show ∀ W', Below w.heap.size w W' → W'.cell? ⟨b, off + k * 5, none⟩ = some (.int .i64 (f k).kind) from fun W' h => (h.cell (p := ⟨b, off + k * 5, none⟩) hbl).trans hop.c0)
      have D1 := Lib.hid (show ∀ W', Below w.heap.size w W' → W'.cell? ⟨b, off + k * 5 + 1, none⟩ = some (.int .i64 (f k).slot) from fun W' h => (h.cell (p := ⟨b, off + k * 5 + 1, none⟩) hbl).trans hop.c1)
      have D2 := Lib.hid (show ∀ W', Below w.heap.size w W' → W'.cell? ⟨b, off + k * 5 + 2, none⟩ = some (.int .i64 (f k).r.s) from fun W' h => (h.cell (p := ⟨b, off + k * 5 + 2, none⟩) hbl).trans hop.c2)
      have D3 := Lib.hid (show ∀ W', Below w.heap.size w W' → W'.cell? ⟨b, off + k * 5 + 3, none⟩ = some (.int .i64 (f k).r.q) from fun W' h => (h.cell (p := ⟨b, off + k * 5 + 3, none⟩) hbl).trans hop.c3)
      have D4 := Lib.hid (show ∀ W', Below w.heap.size w W' → W'.cell? ⟨b, off + k * 5 + 4, none⟩ = some (.slice (f k).r.A (f k).r.n (f k).r.c) from fun W' h => (h.cell (p := ⟨b, off + k * 5 + 4, none⟩) hbl).trans hop.c4)
      have HZC := Lib.hid hop.rc
      have HB1 := Lib.hid hop.b1
      have d0 := D0.out _ hbel
      have d1 := D1.out _ hbel
      have HBL := Lib.hid hbel
      clear hop hbel
      generalize (f k).kind = kind at *
      generalize (f k).slot = slot at *
      generalize (f k).r = zz at *
      have HMY := Lib.hid (fun W' => refMay_any zz.s zz.q zz.A zz.n zz.c W' HZC.out.bs HZC.out.bq HZC.out.le)
      by_cases hs : 0 ≤ slot ∧ slot < (n : Int)
      · obtain ⟨s, rfl⟩ := nat_of hs.1
        have hsn : s < n := by omega
        have u1 : decide ((0 : Int) ≤ (s : Int)) = true := by simp
        have u2 : decide ((s : Int) < (n : Int)) = true := by simp; omega
        have u3 : (s : Int) < (n : Int) := by omega
        clear hs
        by_cases hk1 : kind = 1
        · subst hk1
          cases hmb : mayB zz.s zz.q zz.n with
          | true =>
            as_aux_lemma =>
              have d2 := D2.out _ HBL.out
              have d3 := D3.out _ HBL.out
              have d4 := D4.out _ HBL.out
              go_wp2_with fail
              refine (hbag.out.put_yes hA hn8 (by omega) hsn zz HZC.out hmb).mono ?_
              rintro e w9 ⟨rfl, hL9⟩
              clear d0 d1 d2 d3 d4
              have d2 := D2.out _ hL9.bel
              have d3 := D3.out _ hL9.bel
              have d4 := D4.out _ hL9.bel
              go_wp2_with fail
              refine (HMY.out _).mono ?_
              rintro e w10 ⟨rfl, b10⟩
              rw [hmb]
              have HL10 := Lib.hid (hL9.grown b10)
              have hbw := HL10.out.bel
              clear d2 d3 d4 hL9 b10
              have d2 := D2.out _ hbw
              have d3 := D3.out _ hbw
              have d4 := D4.out _ hbw
              have HL11 := Lib.hid (HL10.out.put_tab hsn zz HZC.out)
              obtain ⟨y0, y1, y2⟩ := HL10.out.tab.r3 hsn
              have fz0 : w10.frozen? ⟨h, s * 3, none⟩ = false := (HL10.out.tab.there3 hsn 0 (by decide)).2
              have fz1 : w10.frozen? ⟨h, s * 3 + 1, none⟩ = false := (HL10.out.tab.there3 hsn 1 (by decide)).2
              have fz2 : w10.frozen? ⟨h, s * 3 + 2, none⟩ = false := (HL10.out.tab.there3 hsn 2 (by decide)).2
              have i1 := HL10.out.tab.i1 hsn
              have f1 := HL10.out.tab.f1 hsn
              have hne : h ≠ q := HL10.out.ne.1
              have hne' : q ≠ h := fun e => hne e.symm
              have HL12 := Lib.hid (show Lo w ((w10.setCells h (s * 3) [.int .i64 zz.s, .int .i64 zz.q, .slice zz.A zz.n zz.c]).setCell ⟨q, s, none⟩ (.bool true)) g a p h q n (k + 1) (fu hv s zz) (fu iz s true) (fu hv s zz) (fu iz s true) from HL11.out.set_tab hsn true)
              clear hbw
              go_wp2_with fail
              go_roundw
              case rel => exact ⟨k + 1, _, _, by omega, by omega, by go_num, Lib.hid (HL12.out)⟩
              case measure => simp [intOf]; omega
          | false =>
            as_aux_lemma =>
              have d2 := D2.out _ HBL.out
              have d3 := D3.out _ HBL.out
              have d4 := D4.out _ HBL.out
              go_wp2_with fail
              refine (hbag.out.put_not hA hsn zz HZC.out hmb).mono ?_
              rintro e w9 ⟨rfl, hL9⟩
              clear d0 d1 d2 d3 d4
              have d2 := D2.out _ hL9.bel
              have d3 := D3.out _ hL9.bel
              have d4 := D4.out _ hL9.bel
              go_wp2_with fail
              refine (HMY.out _).mono ?_
              rintro e w10 ⟨rfl, b10⟩
              rw [hmb]
              have HL10 := Lib.hid (hL9.grown b10)
              have hbw := HL10.out.bel
              clear d2 d3 d4 hL9 b10
              clear hbw
              go_wp2_with fail
              go_roundw
              case rel => exact ⟨k + 1, _, _, by omega, by omega, by go_num, Lib.hid (HL10.out)⟩
              case measure => simp [intOf]; omega
        · have hq1 : (kind == 1) = false := by rw [beq_eq_false_iff_ne]; exact hk1
          clear hk1
          by_cases hk3 : kind = 2
          · subst hk3
            as_aux_lemma =>
              go_wp2_with fail
              refine (hbag.out.clear_in hA hn8 (by omega) hsn).mono ?_
              rintro e w9 ⟨rfl, hL9⟩
              clear d0 d1
              have i1 := hL9.tab.i1 hsn
              have f1 := hL9.tab.f1 hsn
              have HL12 := Lib.hid (show Lo w (w9.setCell ⟨q, s, none⟩ (.bool false)) g a p h q n (k + 1) hv (fu iz s false) hv (fu iz s false) from hL9.set_tab hsn false)
              clear hL9
              go_wp2_with fail
              go_roundw
              case rel => exact ⟨k + 1, _, _, by omega, by omega, by go_num, Lib.hid (HL12.out)⟩
              case measure => simp [intOf]; omega
          · have hq3 : (kind == 2) = false := by rw [beq_eq_false_iff_ne]; exact hk3
            clear hk3
            by_cases hk4 : kind = 3
            · subst hk4
              as_aux_lemma =>
                go_wp2_with fail
                refine (hbag.out.get_in hA hn8 hsn).mono ?_
                rintro e w9 ⟨hL9, hgot⟩
                clear d0 d1
                rcases hgot with ⟨hb0, rfl⟩ | ⟨hb1, A9, c9, rfl, hrd9, hsm9⟩
                · have hbw : Below w9.heap.size w9 (w9.alloc (.cells #[.int .i64 0, .int .i64 0, .slice none 0 0] 24)) := (Below.refl _ _).alloc (Nat.le_refl _) _
                  have HL10 := Lib.hid (hL9.grown hbw)
                  have i1 := HL10.out.tab.i1 hsn
                  rw [hb0] at i1
                  clear hL9 hbw
                  go_wp2_with fail
                  generalize w9.alloc (.cells #[.int .i64 0, .int .i64 0, .slice none 0 0] 24) = W10 at *
                  go_quiet (fail)
                  have HL11 := Lib.hid (HL10.out.grown (drawn (Below.refl _ W10) nq))
                  clear i1
                  go_wp2_with fail
                  go_roundw
                  case rel => exact ⟨k + 1, _, _, by omega, by omega, by go_num, Lib.hid (HL11.out)⟩
                  case measure => simp [intOf]; omega
                · have hbw : Below w9.heap.size w9 (w9.alloc (.cells #[.int .i64 (hv s).s, .int .i64 (hv s).q, .slice A9 128 c9] 24)) := (Below.refl _ _).alloc (Nat.le_refl _) _
                  have HL10 := Lib.hid (hL9.grown hbw)
                  have v10 := heap_alloc_new w9 (.cells #[.int .i64 (hv s).s, .int .i64 (hv s).q, .slice A9 128 c9] 24)
                  have hz10 : w9.heap.size < (w9.alloc (.cells #[.int .i64 (hv s).s, .int .i64 (hv s).q, .slice A9 128 c9] 24)).heap.size := by simp
                  have rd10 := (hrd9.below hbw).more hbw.size
                  have HT := Lib.hid HL10.out.tab
                  have HRK := Lib.hid ((HL10.out.ok s).grown HL10.out.bel)
                  obtain ⟨r0, r1, r2⟩ := HL10.out.tab.r3 hsn
                  have i0 := HL10.out.tab.i1 hsn
                  rw [hb1] at i0
                  clear hL9 hbw hrd9
                  generalize hyy : hv s = yy at *
                  go_wp2_with fail
                  generalize w9.alloc (.cells #[.int .i64 yy.s, .int .i64 yy.q, .slice A9 128 c9] 24) = W10 at *
                  have HSM := Lib.hid (fun W' (hb : Below W10.heap.size W10 W') => refSame_self yy.s yy.q A9 yy.A 128 c9 yy.n yy.c yy.l W' hsm9 ((rd10.below hb).more hb.size) ((HRK.out.rd.below hb).more hb.size))
                  have m0 := fun W' (hb : Below W10.heap.size W10 W') => (hb.cell (p := ⟨h, s * 3, none⟩) HT.out.lh).trans r0
                  have m1 := fun W' (hb : Below W10.heap.size W10 W') => (hb.cell (p := ⟨h, s * 3 + 1, none⟩) HT.out.lh).trans r1
                  have m2 := fun W' (hb : Below W10.heap.size W10 W') => (hb.cell (p := ⟨h, s * 3 + 2, none⟩) HT.out.lh).trans r2
                  have j1 := fun W' (hb : Below W10.heap.size W10 W') => (hb.cell (p := ⟨q, s, none⟩) HT.out.lq).trans i0
                  have n0 := fun W' (hb : Below W10.heap.size W10 W') => (cells3_of ((hb.block w9.heap.size hz10).trans v10)).1
                  have n1 := fun W' (hb : Below W10.heap.size W10 W') => (cells3_of ((hb.block w9.heap.size hz10).trans v10)).2.1
                  have n2 := fun W' (hb : Below W10.heap.size W10 W') => (cells3_of ((hb.block w9.heap.size hz10).trans v10)).2.2.1
                  clear r0 r1 r2 i0
                  refine wp_region_held_drew (S := fun W' => Below W10.heap.size W10 W') (by kernel_rfl) ((Below.refl _ _).drew) (fun hHeld => ?_)
                  refine wpAnyH_take (i := 0) (oi := ⟨some 173, _, _, _, _, _⟩) (v := ?_) rfl (by kernel_rfl) (by kernel_rfl) (by kernel_rfl) (fun _ _ _ h => h) (Or.inl ⟨by rfl, ?_⟩) (by assumption) ?_
                  rotate_left
                  · (intro w hSw; (try dsimp only at hSw); go_simp; first | done | with_reducible rfl)
                  try simp only [Act.put, List.setIfInBounds_toArray, List.set_cons_zero, List.set_cons_succ]
                  refine wpAnyH_take (i := 1) (oi := ⟨some 174, _, _, _, _, _⟩) (v := ?_) rfl (by kernel_rfl) (by kernel_rfl) (by kernel_rfl) (fun _ _ _ h => h) (Or.inl ⟨by rfl, ?_⟩) (by assumption) ?_
                  rotate_left
                  · (intro w hSw; (try dsimp only at hSw); go_simp; first | done | with_reducible rfl)
                  try simp only [Act.put, List.setIfInBounds_toArray, List.set_cons_zero, List.set_cons_succ]
                  refine wpAnyH_take (i := 2) (oi := ⟨some 175, _, _, _, _, _⟩) (v := ?_) rfl (by kernel_rfl) (by kernel_rfl) (by kernel_rfl) (fun _ _ _ h => h) (Or.inl ⟨by rfl, ?_⟩) (by assumption) ?_
                  rotate_left
                  · (intro w hSw; (try dsimp only at hSw); go_simp; first | done | with_reducible rfl)
                  try simp only [Act.put, List.setIfInBounds_toArray, List.set_cons_zero, List.set_cons_succ]
                  refine wpAnyH_take (i := 3) (oi := ⟨some 176, _, _, _, _, _⟩) (v := ?_) rfl (by kernel_rfl) (by kernel_rfl) (by kernel_rfl) (fun _ _ _ h => h) (Or.inl ⟨by rfl, ?_⟩) (by assumption) ?_
                  rotate_left
                  · (intro w hSw; (try dsimp only at hSw); go_simp; first | done | with_reducible rfl)
                  try simp only [Act.put, List.setIfInBounds_toArray, List.set_cons_zero, List.set_cons_succ]
                  refine wpAnyH_take (i := 4) (oi := ⟨some 177, _, _, _, _, _⟩) (v := ?_) rfl (by kernel_rfl) (by kernel_rfl) (by kernel_rfl) (fun _ _ _ h => h) (Or.inl ⟨by rfl, ?_⟩) (by assumption) ?_
                  rotate_left
                  · (intro w hSw; (try dsimp only at hSw); go_simp; first | done | with_reducible rfl)
                  try simp only [Act.put, List.setIfInBounds_toArray, List.set_cons_zero, List.set_cons_succ]
                  refine wpAnyH_take (i := 5) (oi := ⟨some 178, _, _, _, _, _⟩) (v := ?_) rfl (by kernel_rfl) (by kernel_rfl) (by kernel_rfl) (fun _ _ _ h => h) (Or.inl ⟨by rfl, ?_⟩) (by assumption) ?_
                  rotate_left
                  · (intro w hSw; (try dsimp only at hSw); go_simp; first | done | with_reducible rfl)
                  try simp only [Act.put, List.setIfInBounds_toArray, List.set_cons_zero, List.set_cons_succ]
                  refine wpAnyH_take (i := 6) (oi := ⟨some 179, _, _, _, _, _⟩) (v := ?_) rfl (by kernel_rfl) (by kernel_rfl) (by kernel_rfl) (fun _ _ _ h => h) (Or.inl ⟨by rfl, ?_⟩) (by assumption) ?_
                  rotate_left
                  · (intro w hSw; (try dsimp only at hSw); go_simp; first | done | with_reducible rfl)
                  try simp only [Act.put, List.setIfInBounds_toArray, List.set_cons_zero, List.set_cons_succ]
                  refine wpAnyH_take (i := 7) (oi := ⟨some 180, _, _, _, _, _⟩) (v := ?_) rfl (by kernel_rfl) (by kernel_rfl) (by kernel_rfl) (fun _ _ _ h => h) (Or.inl ⟨by rfl, ?_⟩) (by assumption) ?_
                  rotate_left
                  · (intro w hSw; (try dsimp only at hSw); go_simp; first | done | with_reducible rfl)
                  try simp only [Act.put, List.setIfInBounds_toArray, List.set_cons_zero, List.set_cons_succ]
                  refine wpAnyH_take (i := 8) (oi := ⟨some 181, _, _, _, _, _⟩) (v := ?_) rfl (by kernel_rfl) (by kernel_rfl) (by kernel_rfl) (fun _ _ _ h => h) (Or.inl ⟨by rfl, ?_⟩) (by assumption) ?_
                  rotate_left
                  · (intro w hSw; (try dsimp only at hSw); go_simp; first | done | with_reducible rfl)
                  try simp only [Act.put, List.setIfInBounds_toArray, List.set_cons_zero, List.set_cons_succ]
                  refine wpAnyH_take (i := 9) (oi := ⟨some 182, _, _, _, _, _⟩) (v := ?_) rfl (by kernel_rfl) (by kernel_rfl) (by kernel_rfl) (fun _ _ _ h => h) (Or.inl ⟨by rfl, ?_⟩) (by assumption) ?_
                  rotate_left
                  · (intro w hSw; (try dsimp only at hSw); go_simp; first | done | with_reducible rfl)
                  try simp only [Act.put, List.setIfInBounds_toArray, List.set_cons_zero, List.set_cons_succ]
                  refine wpAnyH_take (i := 10) (oi := ⟨some 183, _, _, _, _, _⟩) (v := ?_) rfl (by kernel_rfl) (by kernel_rfl) (by kernel_rfl) (fun _ _ _ h => h) (Or.inl ⟨by rfl, ?_⟩) (by assumption) ?_
                  rotate_left
                  · (intro w hSw; (try dsimp only at hSw); go_simp; first | done | with_reducible rfl)
                  try simp only [Act.put, List.setIfInBounds_toArray, List.set_cons_zero, List.set_cons_succ]
                  refine wpAnyH_take (i := 11) (oi := ⟨some 184, _, _, _, _, _⟩) (v := ?_) rfl (by kernel_rfl) (by kernel_rfl) (by kernel_rfl) (fun _ _ _ h => h) (Or.inl ⟨by rfl, ?_⟩) (by assumption) ?_
                  rotate_left
                  · (intro w hSw; (try dsimp only at hSw); go_simp; first | done | with_reducible rfl)
                  try simp only [Act.put, List.setIfInBounds_toArray, List.set_cons_zero, List.set_cons_succ]
                  refine wpAnyH_take (i := 12) (oi := ⟨some 185, _, _, _, _, _⟩) (v := ?_) rfl (by kernel_rfl) (by kernel_rfl) (by kernel_rfl) (fun _ _ _ h => h) (Or.inl ⟨by rfl, ?_⟩) (by assumption) ?_
                  rotate_left
                  · (intro w hSw; (try dsimp only at hSw); go_simp; first | done | with_reducible rfl)
                  try simp only [Act.put, List.setIfInBounds_toArray, List.set_cons_zero, List.set_cons_succ]
                  refine wpAnyH_ready (rs := [13]) (by kernel_rfl) (by simp) ?_
                  refine AllReadyH.cons (o := ⟨some 186, _, _, _, _, _⟩) rfl (fun K hK => ?_) AllReadyH.nil
                  go_simp
                  refine (HSM.out _ hHeld).mono ?_
                  rintro e w11 ⟨rfl, hb11⟩
                  refine hK.out _ _ (bel_on hHeld hb11) (fun hHeld => ?_)
                  clear hK K
                  try simp only [Act.put, List.setIfInBounds_toArray, List.set_cons_zero, List.set_cons_succ]
                  refine wpAnyH_take (i := 14) (oi := ⟨some 187, _, _, _, _, _⟩) (v := ?_) rfl (by kernel_rfl) (by kernel_rfl) (by kernel_rfl) (fun _ _ _ h => h) (Or.inl ⟨by rfl, ?_⟩) (by assumption) ?_
                  rotate_left
                  · (intro w hSw; (try dsimp only at hSw); go_simp; first | done | with_reducible rfl)
                  try simp only [Act.put, List.setIfInBounds_toArray, List.set_cons_zero, List.set_cons_succ]
                  refine wpAnyH_take (i := 15) (oi := ⟨some 188, _, _, _, _, _⟩) (v := ?_) rfl (by kernel_rfl) (by kernel_rfl) (by kernel_rfl) (fun _ _ _ h => h) (Or.inl ⟨by rfl, ?_⟩) (by assumption) ?_
                  rotate_left
                  · (intro w hSw; (try dsimp only at hSw); go_simp; first | done | with_reducible rfl)
                  try simp only [Act.put, List.setIfInBounds_toArray, List.set_cons_zero, List.set_cons_succ]
                  refine wpAnyH_take (i := 16) (oi := ⟨some 189, _, _, _, _, _⟩) (v := ?_) rfl (by kernel_rfl) (by kernel_rfl) (by kernel_rfl) (fun _ _ _ h => h) (Or.inl ⟨by rfl, ?_⟩) (by assumption) ?_
                  rotate_left
                  · (intro w hSw; (try dsimp only at hSw); go_simp; first | done | with_reducible rfl)
                  try simp only [Act.put, List.setIfInBounds_toArray, List.set_cons_zero, List.set_cons_succ]
                  refine wpAnyH_take (i := 17) (oi := ⟨some 190, _, _, _, _, _⟩) (v := ?_) rfl (by kernel_rfl) (by kernel_rfl) (by kernel_rfl) (fun _ _ _ h => h) (Or.inl ⟨by rfl, ?_⟩) (by assumption) ?_
                  rotate_left
                  · (intro w hSw; (try dsimp only at hSw); go_simp; first | done | with_reducible rfl)
                  try simp only [Act.put, List.setIfInBounds_toArray, List.set_cons_zero, List.set_cons_succ]
                  refine wpAnyH_take (i := 18) (oi := ⟨some 191, _, _, _, _, _⟩) (v := ?_) rfl (by kernel_rfl) (by kernel_rfl) (by kernel_rfl) (fun _ _ _ h => h) (Or.inl ⟨by rfl, ?_⟩) (by assumption) ?_
                  rotate_left
                  · (intro w hSw; (try dsimp only at hSw); go_simp; first | done | with_reducible rfl)
                  try simp only [Act.put, List.setIfInBounds_toArray, List.set_cons_zero, List.set_cons_succ]
                  refine wpAnyH_take (i := 19) (oi := ⟨some 192, _, _, _, _, _⟩) (v := ?_) rfl (by kernel_rfl) (by kernel_rfl) (by kernel_rfl) (fun _ _ _ h => h) (Or.inl ⟨by rfl, ?_⟩) (by assumption) ?_
                  rotate_left
                  · (intro w hSw; (try dsimp only at hSw); go_simp; first | done | with_reducible rfl)
                  try simp only [Act.put, List.setIfInBounds_toArray, List.set_cons_zero, List.set_cons_succ]
                  refine wpAnyH_take (i := 20) (oi := ⟨some 193, _, _, _, _, _⟩) (v := ?_) rfl (by kernel_rfl) (by kernel_rfl) (by kernel_rfl) (fun _ _ _ h => h) (Or.inl ⟨by rfl, ?_⟩) (by assumption) ?_
                  rotate_left
                  · (intro w hSw; (try dsimp only at hSw); go_simp; first | done | with_reducible rfl)
                  try simp only [Act.put, List.setIfInBounds_toArray, List.set_cons_zero, List.set_cons_succ]
                  refine wpAnyH_take (i := 21) (oi := ⟨some 194, _, _, _, _, _⟩) (v := ?_) rfl (by kernel_rfl) (by kernel_rfl) (by kernel_rfl) (fun _ _ _ h => h) (Or.inl ⟨by rfl, ?_⟩) (by assumption) ?_
                  rotate_left
                  · (intro w hSw; (try dsimp only at hSw); go_simp; first | done | with_reducible rfl)
                  try simp only [Act.put, List.setIfInBounds_toArray, List.set_cons_zero, List.set_cons_succ]
                  refine wpAnyH_take (i := 22) (oi := ⟨some 195, _, _, _, _, _⟩) (v := ?_) rfl (by kernel_rfl) (by kernel_rfl) (by kernel_rfl) (fun _ _ _ h => h) (Or.inl ⟨by rfl, ?_⟩) (by assumption) ?_
                  rotate_left
                  · (intro w hSw; (try dsimp only at hSw); go_simp; first | done | with_reducible rfl)
                  try simp only [Act.put, List.setIfInBounds_toArray, List.set_cons_zero, List.set_cons_succ]
                  refine wpAnyH_take (i := 23) (oi := ⟨some 196, _, _, _, _, _⟩) (v := ?_) rfl (by kernel_rfl) (by kernel_rfl) (by kernel_rfl) (fun _ _ _ h => h) (Or.inl ⟨by rfl, ?_⟩) (by assumption) ?_
                  rotate_left
                  · (intro w hSw; (try dsimp only at hSw); go_simp; first | done | with_reducible rfl)
                  try simp only [Act.put, List.setIfInBounds_toArray, List.set_cons_zero, List.set_cons_succ]
                  refine wpAnyH_take (i := 24) (oi := ⟨some 197, _, _, _, _, _⟩) (v := undef) rfl (by kernel_rfl) (by kernel_rfl) (by kernel_rfl) (fun _ _ _ h => h) (Or.inr ⟨by rfl, rfl⟩) (by assumption) ?_
                  try simp only [Act.put, List.setIfInBounds_toArray, List.set_cons_zero, List.set_cons_succ]
                  refine wpAnyH_take (i := 25) (oi := ⟨some 198, _, _, _, _, _⟩) (v := undef) rfl (by kernel_rfl) (by kernel_rfl) (by kernel_rfl) (fun _ _ _ h => h) (Or.inr ⟨by rfl, rfl⟩) (by assumption) ?_
                  try simp only [Act.put, List.setIfInBounds_toArray, List.set_cons_zero, List.set_cons_succ]
                  refine wpAnyH_take (i := 26) (oi := ⟨some 199, _, _, _, _, _⟩) (v := ?_) rfl (by kernel_rfl) (by kernel_rfl) (by kernel_rfl) (fun _ _ _ h => h) (Or.inl ⟨by rfl, ?_⟩) (by assumption) ?_
                  rotate_left
                  · (intro w hSw; (try dsimp only at hSw); go_simp; first | done | with_reducible rfl)
                  try simp only [Act.put, List.setIfInBounds_toArray, List.set_cons_zero, List.set_cons_succ]
                  refine wpAnyH_take (i := 27) (oi := ⟨some 200, _, _, _, _, _⟩) (v := ?_) rfl (by kernel_rfl) (by kernel_rfl) (by kernel_rfl) (fun _ _ _ h => h) (Or.inl ⟨by rfl, ?_⟩) (by assumption) ?_
                  rotate_left
                  · (intro w hSw; (try dsimp only at hSw); go_simp; first | done | with_reducible rfl)
                  try simp only [Act.put, List.setIfInBounds_toArray, List.set_cons_zero, List.set_cons_succ]
                  refine wpAnyH_done (by kernel_rfl) ?_ _
                  have HL11 := Lib.hid (HL10.out.grown hHeld)
                  clear hHeld m0 m1 m2 n0 n1 n2 j1
                  go_wp2_with fail
                  go_roundw
                  case rel => exact ⟨k + 1, _, _, by omega, by omega, by go_num, Lib.hid (HL11.out)⟩
                  case measure => simp [intOf]; omega
            · have hq4 : (kind == 3) = false := by rw [beq_eq_false_iff_ne]; exact hk4
              clear hk4
              by_cases hk5 : kind = 4
              · subst hk5
                as_aux_lemma =>
                  go_wp2_with fail
                  refine (hbag.out.flush (by omega)).mono ?_
                  rintro e w9 ⟨rfl, hL9⟩
                  clear d0 d1
                  go_wp2_with fail
                  go_roundw
                  case rel => exact ⟨k + 1, _, _, by omega, by omega, by go_num, Lib.hid (hL9)⟩
                  case measure => simp [intOf]; omega
              · have hq5 : (kind == 4) = false := by rw [beq_eq_false_iff_ne]; exact hk5
                clear hk5
                as_aux_lemma =>
                  go_wp2_with fail
                  go_roundw
                  case rel => exact ⟨k + 1, _, _, by omega, by omega, by go_num, Lib.hid (hbag.out.next)⟩
                  case measure => simp [intOf]; omega
      · have HOUT := Lib.hid (show slot < 0 ∨ (0 ≤ slot ∧ (n : Int) ≤ slot) by omega)
        clear hs
        by_cases hs0 : 0 ≤ slot
        · have u1 : decide ((0 : Int) ≤ slot) = true := by simpa using hs0
          have u2 : decide (slot < (n : Int)) = false := by have := HOUT.out; simp; omega
          by_cases hk1 : kind = 1
          · subst hk1
            as_aux_lemma =>
              have d2 := D2.out _ HBL.out
              have d3 := D3.out _ HBL.out
              have d4 := D4.out _ HBL.out
              go_wp2_with fail
              refine (hbag.out.put_out slot HOUT.out zz).mono ?_
              rintro e w9 ⟨rfl, hL9⟩
              clear d0 d1 d2 d3 d4
              go_wp2_with fail
              go_roundw
              case rel => exact ⟨k + 1, _, _, by omega, by omega, by go_num, Lib.hid (hL9)⟩
              case measure => simp [intOf]; omega
          · have hq1 : (kind == 1) = false := by rw [beq_eq_false_iff_ne]; exact hk1
            clear hk1
            by_cases hk3 : kind = 2
            · subst hk3
              as_aux_lemma =>
                go_wp2_with fail
                refine (hbag.out.clear_out slot HOUT.out).mono ?_
                rintro e w9 ⟨rfl, hL9⟩
                clear d0 d1
                go_wp2_with fail
                go_roundw
                case rel => exact ⟨k + 1, _, _, by omega, by omega, by go_num, Lib.hid (hL9)⟩
                case measure => simp [intOf]; omega
            · have hq3 : (kind == 2) = false := by rw [beq_eq_false_iff_ne]; exact hk3
              clear hk3
              by_cases hk4 : kind = 3
              · subst hk4
                as_aux_lemma =>
                  go_wp2_with fail
                  refine (hbag.out.get_out slot HOUT.out).mono ?_
                  rintro e w9 ⟨rfl, hL9⟩
                  clear d0 d1
                  have HL10 := Lib.hid (hL9.grown ((Below.refl _ w9).alloc (Nat.le_refl _) (.cells #[.int .i64 0, .int .i64 0, .slice none 0 0] 24)))
                  clear hL9
                  go_wp2_with fail
                  go_roundw
                  case rel => exact ⟨k + 1, _, _, by omega, by omega, by go_num, Lib.hid (HL10.out)⟩
                  case measure => simp [intOf]; omega
              · have hq4 : (kind == 3) = false := by rw [beq_eq_false_iff_ne]; exact hk4
                clear hk4
                by_cases hk5 : kind = 4
                · subst hk5
                  as_aux_lemma =>
                    go_wp2_with fail
                    refine (hbag.out.flush (by omega)).mono ?_
                    rintro e w9 ⟨rfl, hL9⟩
                    clear d0 d1
                    go_wp2_with fail
                    go_roundw
                    case rel => exact ⟨k + 1, _, _, by omega, by omega, by go_num, Lib.hid (hL9)⟩
                    case measure => simp [intOf]; omega
                · have hq5 : (kind == 4) = false := by rw [beq_eq_false_iff_ne]; exact hk5
                  clear hk5
                  as_aux_lemma =>
                    go_wp2_with fail
                    go_roundw
                    case rel => exact ⟨k + 1, _, _, by omega, by omega, by go_num, Lib.hid (hbag.out.next)⟩
                    case measure => simp [intOf]; omega
        · have u1 : decide ((0 : Int) ≤ slot) = false := by simpa using hs0
          by_cases hk1 : kind = 1
          · subst hk1
            as_aux_lemma =>
              have d2 := D2.out _ HBL.out
              have d3 := D3.out _ HBL.out
              have d4 := D4.out _ HBL.out
              go_wp2_with fail
              refine (hbag.out.put_out slot HOUT.out zz).mono ?_
              rintro e w9 ⟨rfl, hL9⟩
              clear d0 d1 d2 d3 d4
              go_wp2_with fail
              go_roundw
              case rel => exact ⟨k + 1, _, _, by omega, by omega, by go_num, Lib.hid (hL9)⟩
              case measure => simp [intOf]; omega
          · have hq1 : (kind == 1) = false := by rw [beq_eq_false_iff_ne]; exact hk1
            clear hk1
            by_cases hk3 : kind = 2
            · subst hk3
              as_aux_lemma =>
                go_wp2_with fail
                refine (hbag.out.clear_out slot HOUT.out).mono ?_
                rintro e w9 ⟨rfl, hL9⟩
                clear d0 d1
                go_wp2_with fail
                go_roundw
                case rel => exact ⟨k + 1, _, _, by omega, by omega, by go_num, Lib.hid (hL9)⟩
                case measure => simp [intOf]; omega
            · have hq3 : (kind == 2) = false := by rw [beq_eq_false_iff_ne]; exact hk3
              clear hk3
              by_cases hk4 : kind = 3
              · subst hk4
                as_aux_lemma =>
                  go_wp2_with fail
                  refine (hbag.out.get_out slot HOUT.out).mono ?_
                  rintro e w9 ⟨rfl, hL9⟩
                  clear d0 d1
                  have HL10 := Lib.hid (hL9.grown ((Below.refl _ w9).alloc (Nat.le_refl _) (.cells #[.int .i64 0, .int .i64 0, .slice none 0 0] 24)))
                  clear hL9
                  go_wp2_with fail
                  go_roundw
                  case rel => exact ⟨k + 1, _, _, by omega, by omega, by go_num, Lib.hid (HL10.out)⟩
                  case measure => simp [intOf]; omega
              · have hq4 : (kind == 3) = false := by rw [beq_eq_false_iff_ne]; exact hk4
                clear hk4
                by_cases hk5 : kind = 4
                · subst hk5
                  as_aux_lemma =>
                    go_wp2_with fail
                    refine (hbag.out.flush (by omega)).mono ?_
                    rintro e w9 ⟨rfl, hL9⟩
                    clear d0 d1
                    go_wp2_with fail
                    go_roundw
                    case rel => exact ⟨k + 1, _, _, by omega, by omega, by go_num, Lib.hid (hL9)⟩
                    case measure => simp [intOf]; omega
                · have hq5 : (kind == 4) = false := by rw [beq_eq_false_iff_ne]; exact hk5
                  clear hk5
                  as_aux_lemma =>
                    go_wp2_with fail
                    go_roundw
                    case rel => exact ⟨k + 1, _, _, by omega, by omega, by go_num, Lib.hid (hbag.out.next)⟩
                    case measure => simp [intOf]; omega
    · by_cases h1 : k < nn
      · have h2 : 300 ≤ k := by omega
        have hqe : decide ((k : Int) < 300) = false := by simp; omega
        clear hlt
        as_aux_lemma =>
          obtain ⟨o, S, F5, L5, J5, hC5, hse5, _, hN5, hsl5⟩ := hbag.out.all
          have HT := Lib.hid hbag.out.tab
          have HRK := Lib.hid hbag.out.ok
          clear hbag
          have hg : ∀ i, i < blk S.sectors → goodAt S 0 i = true := fun i hi => J5.good hC5.on i hi
          have HALL := Lib.hid (all_calm L5 hA.tabs hA.tabs.size hA.fld hA.fld.size hC5 hn8 (by rw [hse5, blk40]; omega) hg)
          have HSL := Lib.hid hsl5
          have HN5 := Lib.hid hN5
          clear hg L5 J5 hC5 hse5 hsl5 hN5
          go_wp2_with fail
          refine HALL.out.mono ?_
          rintro e w16 ⟨⟨v, es, rfl, hes, hE⟩, S16, _, L16, hO16⟩
          obtain ⟨A, cm, rfl⟩ := Sh.own_shape2 hE.own
          have HTB := Lib.hid (HT.out.only hO16 (fun e => HN5.out.1 (.inl e)) (fun e => HN5.out.2 (.inl e)))
          have HES := Lib.hid hes
          have HEN := Lib.hid hE
          have hel : es.length = (gots S 0 n).length := by rw [← hes, List.length_map]
          have HEL := Lib.hid hel
          have hle : es.length ≤ 8 := by have := gots_le S 0 n; omega
          have HBW := Lib.hid L16.dv.on.bel
          clear HALL hes hE L16 hO16 HT hel
          go_wp2_with fail
          go_loopw [21, 22] (fun s21 s22 wr2 => ∃ j : Nat, j ≤ n ∧ s21 = .int .i64 ((gots S 0 j).length : Nat) ∧ s22 = .int .i64 j ∧ Hid (Below w16.heap.size w16 wr2)) (fun _ i _ => n - (intOf i).toNat)
          case atStart => exact ⟨0, Nat.zero_le _, rfl, rfl, Lib.hid (Below.refl _ _)⟩
          case round =>
            obtain ⟨j, hj, rfl, rfl, hbw⟩ := hrel
            by_cases hlj : j < n
            · have q4 : (j : Int) < (n : Int) := by omega
              have i0 := HTB.out.i1 hlj
              have hb2 := hbw.out
              have j1 := (hb2.cell (p := ⟨q, j, none⟩) HTB.out.lq).trans i0
              have hss := HSL.out j hlj
              have hgs := gots_succ S 0 j
              cases hz : iz j with
              | false =>
                rw [hz] at j1 hss
                rw [got_none hss] at hgs
                have e1 : (gots S 0 (j + 1)).length = (gots S 0 j).length := by rw [hgs]; simp
                have HE1 := Lib.hid e1
                clear i0 hb2 hss hgs e1 hz
                generalize hga : (gots S 0 j).length = ga at *
                go_wp2_with fail
                go_roundw
                case rel => exact ⟨j + 1, by omega, by rw [HE1.out], by go_num, hbw⟩
                case measure => simp [intOf]; omega
              | true =>
                rw [hz] at j1 hss
                have hrk := HRK.out j
                obtain ⟨x, t, e1, e2, e3, hgt⟩ := got_some hss hrk.sm
                have hat := gots_at hlj hgt
                rw [← HES.out, List.getElem?_map, Option.map_eq_some_iff] at hat
                obtain ⟨en, hen, hrec⟩ := hat
                have hal : (gots S 0 j).length < es.length := (List.getElem?_eq_some_iff.1 hen).1
                obtain ⟨gm, hgm, hgl, ⟨r0, r1, r2⟩, rde⟩ := ens_cell HEN.out hen
                subst hgm
                obtain ⟨y0, y1, y2⟩ := HTB.out.r3 hlj
                have e4 : (gots S 0 (j + 1)).length = (gots S 0 j).length + 1 := by rw [hgs, hgt]; simp
                have HE4 := Lib.hid e4
                have ea : (en.a : Int) = (hv j).s := by rw [e1, show en.a = x from congrArg Prod.fst hrec]
                have eb : (en.b : Int) = (hv j).q := by rw [e2, show en.b = t from congrArg (fun y => y.2.1) hrec]
                have el : en.l = (hv j).l := congrArg (fun y => y.2.2) hrec
                rw [ea] at r0
                rw [eb] at r1
                rw [el] at rde
                have HRJ := Lib.hid (hrk.grown HBW.out)
                clear i0 hss hgs hgt hen hrec e4 ea eb el e1 e2 e3 hz hrk
                generalize (gots S 0 j).length = ga at *
                have hga : (ga : Int) < (es.length : Int) := by omega
                have hgb : decide ((es.length : Int) ≤ (ga : Int)) = false := by simp; omega
                have hgc : decide (es.length ≤ ga) = false := by simp; omega
                have hgd : decide (ga < es.length) = true := by simp; omega
                generalize hv j = yy at *
                generalize en.A = A9 at *
                generalize en.c = c9 at *
                have HSM := Lib.hid (fun W' (hb : Below wr.heap.size wr W') => refSame_self yy.s yy.q A9 yy.A 128 c9 yy.n yy.c yy.l W' HRJ.out.sm ((rde.below (bel_on hb2 hb)).more (bel_on hb2 hb).size) ((HRJ.out.rd.below (bel_on hb2 hb)).more (bel_on hb2 hb).size))
                have m0 := fun W' (hb : Below wr.heap.size wr W') => ((bel_on hb2 hb).cell (p := ⟨h, j * 3, none⟩) HTB.out.lh).trans y0
                have m1 := fun W' (hb : Below wr.heap.size wr W') => ((bel_on hb2 hb).cell (p := ⟨h, j * 3 + 1, none⟩) HTB.out.lh).trans y1
                have m2 := fun W' (hb : Below wr.heap.size wr W') => ((bel_on hb2 hb).cell (p := ⟨h, j * 3 + 2, none⟩) HTB.out.lh).trans y2
                have n0 := fun W' (hb : Below wr.heap.size wr W') => ((bel_on hb2 hb).cell (p := ⟨gm, ga * 3, none⟩) hgl).trans r0
                have n1 := fun W' (hb : Below wr.heap.size wr W') => ((bel_on hb2 hb).cell (p := ⟨gm, ga * 3 + 1, none⟩) hgl).trans r1
                have n2 := fun W' (hb : Below wr.heap.size wr W') => ((bel_on hb2 hb).cell (p := ⟨gm, ga * 3 + 2, none⟩) hgl).trans r2
                have HB2 := Lib.hid hb2
                clear r0 r1 r2 y0 y1 y2 hb2 hgl
                go_wp2_with fail
                refine wp_region_held_drew (S := fun W' => Below wr.heap.size wr W') (by kernel_rfl) ((Below.refl _ _).drew) (fun hHeld => ?_)
                refine wpAnyH_take (i := 0) (oi := ⟨some 217, _, _, _, _, _⟩) (v := ?_) rfl (by kernel_rfl) (by kernel_rfl) (by kernel_rfl) (fun _ _ _ h => h) (Or.inl ⟨by rfl, ?_⟩) (by assumption) ?_
                rotate_left
                · (intro w hSw; (try dsimp only at hSw); go_simp; first | done | with_reducible rfl)
                try simp only [Act.put, List.setIfInBounds_toArray, List.set_cons_zero, List.set_cons_succ]
                refine wpAnyH_take (i := 1) (oi := ⟨some 218, _, _, _, _, _⟩) (v := ?_) rfl (by kernel_rfl) (by kernel_rfl) (by kernel_rfl) (fun _ _ _ h => h) (Or.inl ⟨by rfl, ?_⟩) (by assumption) ?_
                rotate_left
                · (intro w hSw; (try dsimp only at hSw); go_simp; first | done | with_reducible rfl)
                try simp only [Act.put, List.setIfInBounds_toArray, List.set_cons_zero, List.set_cons_succ]
                refine wpAnyH_take (i := 2) (oi := ⟨some 219, _, _, _, _, _⟩) (v := ?_) rfl (by kernel_rfl) (by kernel_rfl) (by kernel_rfl) (fun _ _ _ h => h) (Or.inl ⟨by rfl, ?_⟩) (by assumption) ?_
                rotate_left
                · (intro w hSw; (try dsimp only at hSw); go_simp; first | done | with_reducible rfl)
                try simp only [Act.put, List.setIfInBounds_toArray, List.set_cons_zero, List.set_cons_succ]
                refine wpAnyH_take (i := 3) (oi := ⟨some 220, _, _, _, _, _⟩) (v := ?_) rfl (by kernel_rfl) (by kernel_rfl) (by kernel_rfl) (fun _ _ _ h => h) (Or.inl ⟨by rfl, ?_⟩) (by assumption) ?_
                rotate_left
                · (intro w hSw; (try dsimp only at hSw); go_simp; first | done | with_reducible rfl)
                try simp only [Act.put, List.setIfInBounds_toArray, List.set_cons_zero, List.set_cons_succ]
                refine wpAnyH_take (i := 4) (oi := ⟨some 221, _, _, _, _, _⟩) (v := ?_) rfl (by kernel_rfl) (by kernel_rfl) (by kernel_rfl) (fun _ _ _ h => h) (Or.inl ⟨by rfl, ?_⟩) (by assumption) ?_
                rotate_left
                · (intro w hSw; (try dsimp only at hSw); go_simp; first | done | with_reducible rfl)
                try simp only [Act.put, List.setIfInBounds_toArray, List.set_cons_zero, List.set_cons_succ]
                refine wpAnyH_take (i := 5) (oi := ⟨some 222, _, _, _, _, _⟩) (v := ?_) rfl (by kernel_rfl) (by kernel_rfl) (by kernel_rfl) (fun _ _ _ h => h) (Or.inl ⟨by rfl, ?_⟩) (by assumption) ?_
                rotate_left
                · (intro w hSw; (try dsimp only at hSw); go_simp; first | done | with_reducible rfl)
                try simp only [Act.put, List.setIfInBounds_toArray, List.set_cons_zero, List.set_cons_succ]
                refine wpAnyH_take (i := 6) (oi := ⟨some 223, _, _, _, _, _⟩) (v := ?_) rfl (by kernel_rfl) (by kernel_rfl) (by kernel_rfl) (fun _ _ _ h => h) (Or.inl ⟨by rfl, ?_⟩) (by assumption) ?_
                rotate_left
                · (intro w hSw; (try dsimp only at hSw); go_simp; first | done | with_reducible rfl)
                try simp only [Act.put, List.setIfInBounds_toArray, List.set_cons_zero, List.set_cons_succ]
                refine wpAnyH_take (i := 7) (oi := ⟨some 224, _, _, _, _, _⟩) (v := ?_) rfl (by kernel_rfl) (by kernel_rfl) (by kernel_rfl) (fun _ _ _ h => h) (Or.inl ⟨by rfl, ?_⟩) (by assumption) ?_
                rotate_left
                · (intro w hSw; (try dsimp only at hSw); go_simp; first | done | with_reducible rfl)
                try simp only [Act.put, List.setIfInBounds_toArray, List.set_cons_zero, List.set_cons_succ]
                refine wpAnyH_take (i := 8) (oi := ⟨some 225, _, _, _, _, _⟩) (v := ?_) rfl (by kernel_rfl) (by kernel_rfl) (by kernel_rfl) (fun _ _ _ h => h) (Or.inl ⟨by rfl, ?_⟩) (by assumption) ?_
                rotate_left
                · (intro w hSw; (try dsimp only at hSw); go_simp; first | done | with_reducible rfl)
                try simp only [Act.put, List.setIfInBounds_toArray, List.set_cons_zero, List.set_cons_succ]
                refine wpAnyH_take (i := 9) (oi := ⟨some 226, _, _, _, _, _⟩) (v := ?_) rfl (by kernel_rfl) (by kernel_rfl) (by kernel_rfl) (fun _ _ _ h => h) (Or.inl ⟨by rfl, ?_⟩) (by assumption) ?_
                rotate_left
                · (intro w hSw; (try dsimp only at hSw); go_simp; first | done | with_reducible rfl)
                try simp only [Act.put, List.setIfInBounds_toArray, List.set_cons_zero, List.set_cons_succ]
                refine wpAnyH_take (i := 10) (oi := ⟨some 227, _, _, _, _, _⟩) (v := ?_) rfl (by kernel_rfl) (by kernel_rfl) (by kernel_rfl) (fun _ _ _ h => h) (Or.inl ⟨by rfl, ?_⟩) (by assumption) ?_
                rotate_left
                · (intro w hSw; (try dsimp only at hSw); go_simp; first | done | with_reducible rfl)
                try simp only [Act.put, List.setIfInBounds_toArray, List.set_cons_zero, List.set_cons_succ]
                refine wpAnyH_take (i := 11) (oi := ⟨some 228, _, _, _, _, _⟩) (v := ?_) rfl (by kernel_rfl) (by kernel_rfl) (by kernel_rfl) (fun _ _ _ h => h) (Or.inl ⟨by rfl, ?_⟩) (by assumption) ?_
                rotate_left
                · (intro w hSw; (try dsimp only at hSw); go_simp; first | done | with_reducible rfl)
                try simp only [Act.put, List.setIfInBounds_toArray, List.set_cons_zero, List.set_cons_succ]
                refine wpAnyH_take (i := 12) (oi := ⟨some 229, _, _, _, _, _⟩) (v := ?_) rfl (by kernel_rfl) (by kernel_rfl) (by kernel_rfl) (fun _ _ _ h => h) (Or.inl ⟨by rfl, ?_⟩) (by assumption) ?_
                rotate_left
                · (intro w hSw; (try dsimp only at hSw); go_simp; first | done | with_reducible rfl)
                try simp only [Act.put, List.setIfInBounds_toArray, List.set_cons_zero, List.set_cons_succ]
                refine wpAnyH_ready (rs := [13]) (by kernel_rfl) (by simp) ?_
                refine AllReadyH.cons (o := ⟨some 230, _, _, _, _, _⟩) rfl (fun K hK => ?_) AllReadyH.nil
                go_simp
                refine (HSM.out _ hHeld).mono ?_
                rintro e w11 ⟨rfl, hb11⟩
                refine hK.out _ _ (bel_on hHeld hb11) (fun hHeld => ?_)
                clear hK K
                try simp only [Act.put, List.setIfInBounds_toArray, List.set_cons_zero, List.set_cons_succ]
                refine wpAnyH_take (i := 14) (oi := ⟨some 231, _, _, _, _, _⟩) (v := ?_) rfl (by kernel_rfl) (by kernel_rfl) (by kernel_rfl) (fun _ _ _ h => h) (Or.inl ⟨by rfl, ?_⟩) (by assumption) ?_
                rotate_left
                · (intro w hSw; (try dsimp only at hSw); go_simp; first | done | with_reducible rfl)
                try simp only [Act.put, List.setIfInBounds_toArray, List.set_cons_zero, List.set_cons_succ]
                refine wpAnyH_take (i := 15) (oi := ⟨some 232, _, _, _, _, _⟩) (v := ?_) rfl (by kernel_rfl) (by kernel_rfl) (by kernel_rfl) (fun _ _ _ h => h) (Or.inl ⟨by rfl, ?_⟩) (by assumption) ?_
                rotate_left
                · (intro w hSw; (try dsimp only at hSw); go_simp; first | done | with_reducible rfl)
                try simp only [Act.put, List.setIfInBounds_toArray, List.set_cons_zero, List.set_cons_succ]
                refine wpAnyH_done (by kernel_rfl) ?_ _
                have HB3 := Lib.hid (bel_on HB2.out hHeld)
                clear hHeld m0 m1 m2 n0 n1 n2 j1
                go_wp2_with fail
                go_roundw
                case rel => exact ⟨j + 1, by omega, by rw [HE4.out]; go_num, by go_num, HB3⟩
                case measure => simp [intOf]; omega
            · have hjn : j = n := by omega
              have e1 : (gots S 0 j).length = es.length := by rw [hjn, HEL.out]
              have HBE := Lib.hid (HBW.out.trans (hbw.out.mono HBW.out.size))
              have q5 : decide ((j : Int) < (n : Int)) = false := by simp; omega
              rw [e1]
              clear hjn e1 hbw
              go_wp2_with fail
              go_ret
              exact ⟨rfl, HBE.out⟩
      · have hqe : decide ((k : Int) < (nn : Int)) = false := by simp; omega
        clear hlt
        as_aux_lemma =>
          obtain ⟨o, S, F5, L5, J5, hC5, hse5, _, hN5, hsl5⟩ := hbag.out.all
          have HT := Lib.hid hbag.out.tab
          have HRK := Lib.hid hbag.out.ok
          clear hbag
          have hg : ∀ i, i < blk S.sectors → goodAt S 0 i = true := fun i hi => J5.good hC5.on i hi
          have HALL := Lib.hid (all_calm L5 hA.tabs hA.tabs.size hA.fld hA.fld.size hC5 hn8 (by rw [hse5, blk40]; omega) hg)
          have HSL := Lib.hid hsl5
          have HN5 := Lib.hid hN5
          clear hg L5 J5 hC5 hse5 hsl5 hN5
          go_wp2_with fail
          refine HALL.out.mono ?_
          rintro e w16 ⟨⟨v, es, rfl, hes, hE⟩, S16, _, L16, hO16⟩
          obtain ⟨A, cm, rfl⟩ := Sh.own_shape2 hE.own
          have HTB := Lib.hid (HT.out.only hO16 (fun e => HN5.out.1 (.inl e)) (fun e => HN5.out.2 (.inl e)))
          have HES := Lib.hid hes
          have HEN := Lib.hid hE
          have hel : es.length = (gots S 0 n).length := by rw [← hes, List.length_map]
          have HEL := Lib.hid hel
          have hle : es.length ≤ 8 := by have := gots_le S 0 n; omega
          have HBW := Lib.hid L16.dv.on.bel
          clear HALL hes hE L16 hO16 HT hel
          go_wp2_with fail
          go_loopw [21, 22] (fun s21 s22 wr2 => ∃ j : Nat, j ≤ n ∧ s21 = .int .i64 ((gots S 0 j).length : Nat) ∧ s22 = .int .i64 j ∧ Hid (Below w16.heap.size w16 wr2)) (fun _ i _ => n - (intOf i).toNat)
          case atStart => exact ⟨0, Nat.zero_le _, rfl, rfl, Lib.hid (Below.refl _ _)⟩
          case round =>
            obtain ⟨j, hj, rfl, rfl, hbw⟩ := hrel
            by_cases hlj : j < n
            · have q4 : (j : Int) < (n : Int) := by omega
              have i0 := HTB.out.i1 hlj
              have hb2 := hbw.out
              have j1 := (hb2.cell (p := ⟨q, j, none⟩) HTB.out.lq).trans i0
              have hss := HSL.out j hlj
              have hgs := gots_succ S 0 j
              cases hz : iz j with
              | false =>
                rw [hz] at j1 hss
                rw [got_none hss] at hgs
                have e1 : (gots S 0 (j + 1)).length = (gots S 0 j).length := by rw [hgs]; simp
                have HE1 := Lib.hid e1
                clear i0 hb2 hss hgs e1 hz
                generalize hga : (gots S 0 j).length = ga at *
                go_wp2_with fail
                go_roundw
                case rel => exact ⟨j + 1, by omega, by rw [HE1.out], by go_num, hbw⟩
                case measure => simp [intOf]; omega
              | true =>
                rw [hz] at j1 hss
                have hrk := HRK.out j
                obtain ⟨x, t, e1, e2, e3, hgt⟩ := got_some hss hrk.sm
                have hat := gots_at hlj hgt
                rw [← HES.out, List.getElem?_map, Option.map_eq_some_iff] at hat
                obtain ⟨en, hen, hrec⟩ := hat
                have hal : (gots S 0 j).length < es.length := (List.getElem?_eq_some_iff.1 hen).1
                obtain ⟨gm, hgm, hgl, ⟨r0, r1, r2⟩, rde⟩ := ens_cell HEN.out hen
                subst hgm
                obtain ⟨y0, y1, y2⟩ := HTB.out.r3 hlj
                have e4 : (gots S 0 (j + 1)).length = (gots S 0 j).length + 1 := by rw [hgs, hgt]; simp
                have HE4 := Lib.hid e4
                have ea : (en.a : Int) = (hv j).s := by rw [e1, show en.a = x from congrArg Prod.fst hrec]
                have eb : (en.b : Int) = (hv j).q := by rw [e2, show en.b = t from congrArg (fun y => y.2.1) hrec]
                have el : en.l = (hv j).l := congrArg (fun y => y.2.2) hrec
                rw [ea] at r0
                rw [eb] at r1
                rw [el] at rde
                have HRJ := Lib.hid (hrk.grown HBW.out)
                clear i0 hss hgs hgt hen hrec e4 ea eb el e1 e2 e3 hz hrk
                generalize (gots S 0 j).length = ga at *
                have hga : (ga : Int) < (es.length : Int) := by omega
                have hgb : decide ((es.length : Int) ≤ (ga : Int)) = false := by simp; omega
                have hgc : decide (es.length ≤ ga) = false := by simp; omega
                have hgd : decide (ga < es.length) = true := by simp; omega
                generalize hv j = yy at *
                generalize en.A = A9 at *
                generalize en.c = c9 at *
                have HSM := Lib.hid (fun W' (hb : Below wr.heap.size wr W') => refSame_self yy.s yy.q A9 yy.A 128 c9 yy.n yy.c yy.l W' HRJ.out.sm ((rde.below (bel_on hb2 hb)).more (bel_on hb2 hb).size) ((HRJ.out.rd.below (bel_on hb2 hb)).more (bel_on hb2 hb).size))
                have m0 := fun W' (hb : Below wr.heap.size wr W') => ((bel_on hb2 hb).cell (p := ⟨h, j * 3, none⟩) HTB.out.lh).trans y0
                have m1 := fun W' (hb : Below wr.heap.size wr W') => ((bel_on hb2 hb).cell (p := ⟨h, j * 3 + 1, none⟩) HTB.out.lh).trans y1
                have m2 := fun W' (hb : Below wr.heap.size wr W') => ((bel_on hb2 hb).cell (p := ⟨h, j * 3 + 2, none⟩) HTB.out.lh).trans y2
                have n0 := fun W' (hb : Below wr.heap.size wr W') => ((bel_on hb2 hb).cell (p := ⟨gm, ga * 3, none⟩) hgl).trans r0
                have n1 := fun W' (hb : Below wr.heap.size wr W') => ((bel_on hb2 hb).cell (p := ⟨gm, ga * 3 + 1, none⟩) hgl).trans r1
                have n2 := fun W' (hb : Below wr.heap.size wr W') => ((bel_on hb2 hb).cell (p := ⟨gm, ga * 3 + 2, none⟩) hgl).trans r2
                have HB2 := Lib.hid hb2
                clear r0 r1 r2 y0 y1 y2 hb2 hgl
                go_wp2_with fail
                refine wp_region_held_drew (S := fun W' => Below wr.heap.size wr W') (by kernel_rfl) ((Below.refl _ _).drew) (fun hHeld => ?_)
                refine wpAnyH_take (i := 0) (oi := ⟨some 217, _, _, _, _, _⟩) (v := ?_) rfl (by kernel_rfl) (by kernel_rfl) (by kernel_rfl) (fun _ _ _ h => h) (Or.inl ⟨by rfl, ?_⟩) (by assumption) ?_
                rotate_left
                · (intro w hSw; (try dsimp only at hSw); go_simp; first | done | with_reducible rfl)
                try simp only [Act.put, List.setIfInBounds_toArray, List.set_cons_zero, List.set_cons_succ]
                refine wpAnyH_take (i := 1) (oi := ⟨some 218, _, _, _, _, _⟩) (v := ?_) rfl (by kernel_rfl) (by kernel_rfl) (by kernel_rfl) (fun _ _ _ h => h) (Or.inl ⟨by rfl, ?_⟩) (by assumption) ?_
                rotate_left
                · (intro w hSw; (try dsimp only at hSw); go_simp; first | done | with_reducible rfl)
                try simp only [Act.put, List.setIfInBounds_toArray, List.set_cons_zero, List.set_cons_succ]
                refine wpAnyH_take (i := 2) (oi := ⟨some 219, _, _, _, _, _⟩) (v := ?_) rfl (by kernel_rfl) (by kernel_rfl) (by kernel_rfl) (fun _ _ _ h => h) (Or.inl ⟨by rfl, ?_⟩) (by assumption) ?_
                rotate_left
                · (intro w hSw; (try dsimp only at hSw); go_simp; first | done | with_reducible rfl)
                try simp only [Act.put, List.setIfInBounds_toArray, List.set_cons_zero, List.set_cons_succ]
                refine wpAnyH_take (i := 3) (oi := ⟨some 220, _, _, _, _, _⟩) (v := ?_) rfl (by kernel_rfl) (by kernel_rfl) (by kernel_rfl) (fun _ _ _ h => h) (Or.inl ⟨by rfl, ?_⟩) (by assumption) ?_
                rotate_left
                · (intro w hSw; (try dsimp only at hSw); go_simp; first | done | with_reducible rfl)
                try simp only [Act.put, List.setIfInBounds_toArray, List.set_cons_zero, List.set_cons_succ]
                refine wpAnyH_take (i := 4) (oi := ⟨some 221, _, _, _, _, _⟩) (v := ?_) rfl (by kernel_rfl) (by kernel_rfl) (by kernel_rfl) (fun _ _ _ h => h) (Or.inl ⟨by rfl, ?_⟩) (by assumption) ?_
                rotate_left
                · (intro w hSw; (try dsimp only at hSw); go_simp; first | done | with_reducible rfl)
                try simp only [Act.put, List.setIfInBounds_toArray, List.set_cons_zero, List.set_cons_succ]
                refine wpAnyH_take (i := 5) (oi := ⟨some 222, _, _, _, _, _⟩) (v := ?_) rfl (by kernel_rfl) (by kernel_rfl) (by kernel_rfl) (fun _ _ _ h => h) (Or.inl ⟨by rfl, ?_⟩) (by assumption) ?_
                rotate_left
                · (intro w hSw; (try dsimp only at hSw); go_simp; first | done | with_reducible rfl)
                try simp only [Act.put, List.setIfInBounds_toArray, List.set_cons_zero, List.set_cons_succ]
                refine wpAnyH_take (i := 6) (oi := ⟨some 223, _, _, _, _, _⟩) (v := ?_) rfl (by kernel_rfl) (by kernel_rfl) (by kernel_rfl) (fun _ _ _ h => h) (Or.inl ⟨by rfl, ?_⟩) (by assumption) ?_
                rotate_left
                · (intro w hSw; (try dsimp only at hSw); go_simp; first | done | with_reducible rfl)
                try simp only [Act.put, List.setIfInBounds_toArray, List.set_cons_zero, List.set_cons_succ]
                refine wpAnyH_take (i := 7) (oi := ⟨some 224, _, _, _, _, _⟩) (v := ?_) rfl (by kernel_rfl) (by kernel_rfl) (by kernel_rfl) (fun _ _ _ h => h) (Or.inl ⟨by rfl, ?_⟩) (by assumption) ?_
                rotate_left
                · (intro w hSw; (try dsimp only at hSw); go_simp; first | done | with_reducible rfl)
                try simp only [Act.put, List.setIfInBounds_toArray, List.set_cons_zero, List.set_cons_succ]
                refine wpAnyH_take (i := 8) (oi := ⟨some 225, _, _, _, _, _⟩) (v := ?_) rfl (by kernel_rfl) (by kernel_rfl) (by kernel_rfl) (fun _ _ _ h => h) (Or.inl ⟨by rfl, ?_⟩) (by assumption) ?_
                rotate_left
                · (intro w hSw; (try dsimp only at hSw); go_simp; first | done | with_reducible rfl)
                try simp only [Act.put, List.setIfInBounds_toArray, List.set_cons_zero, List.set_cons_succ]
                refine wpAnyH_take (i := 9) (oi := ⟨some 226, _, _, _, _, _⟩) (v := ?_) rfl (by kernel_rfl) (by kernel_rfl) (by kernel_rfl) (fun _ _ _ h => h) (Or.inl ⟨by rfl, ?_⟩) (by assumption) ?_
                rotate_left
                · (intro w hSw; (try dsimp only at hSw); go_simp; first | done | with_reducible rfl)
                try simp only [Act.put, List.setIfInBounds_toArray, List.set_cons_zero, List.set_cons_succ]
                refine wpAnyH_take (i := 10) (oi := ⟨some 227, _, _, _, _, _⟩) (v := ?_) rfl (by kernel_rfl) (by kernel_rfl) (by kernel_rfl) (fun _ _ _ h => h) (Or.inl ⟨by rfl, ?_⟩) (by assumption) ?_
                rotate_left
                · (intro w hSw; (try dsimp only at hSw); go_simp; first | done | with_reducible rfl)
                try simp only [Act.put, List.setIfInBounds_toArray, List.set_cons_zero, List.set_cons_succ]
                refine wpAnyH_take (i := 11) (oi := ⟨some 228, _, _, _, _, _⟩) (v := ?_) rfl (by kernel_rfl) (by kernel_rfl) (by kernel_rfl) (fun _ _ _ h => h) (Or.inl ⟨by rfl, ?_⟩) (by assumption) ?_
                rotate_left
                · (intro w hSw; (try dsimp only at hSw); go_simp; first | done | with_reducible rfl)
                try simp only [Act.put, List.setIfInBounds_toArray, List.set_cons_zero, List.set_cons_succ]
                refine wpAnyH_take (i := 12) (oi := ⟨some 229, _, _, _, _, _⟩) (v := ?_) rfl (by kernel_rfl) (by kernel_rfl) (by kernel_rfl) (fun _ _ _ h => h) (Or.inl ⟨by rfl, ?_⟩) (by assumption) ?_
                rotate_left
                · (intro w hSw; (try dsimp only at hSw); go_simp; first | done | with_reducible rfl)
                try simp only [Act.put, List.setIfInBounds_toArray, List.set_cons_zero, List.set_cons_succ]
                refine wpAnyH_ready (rs := [13]) (by kernel_rfl) (by simp) ?_
                refine AllReadyH.cons (o := ⟨some 230, _, _, _, _, _⟩) rfl (fun K hK => ?_) AllReadyH.nil
                go_simp
                refine (HSM.out _ hHeld).mono ?_
                rintro e w11 ⟨rfl, hb11⟩
                refine hK.out _ _ (bel_on hHeld hb11) (fun hHeld => ?_)
                clear hK K
                try simp only [Act.put, List.setIfInBounds_toArray, List.set_cons_zero, List.set_cons_succ]
                refine wpAnyH_take (i := 14) (oi := ⟨some 231, _, _, _, _, _⟩) (v := ?_) rfl (by kernel_rfl) (by kernel_rfl) (by kernel_rfl) (fun _ _ _ h => h) (Or.inl ⟨by rfl, ?_⟩) (by assumption) ?_
                rotate_left
                · (intro w hSw; (try dsimp only at hSw); go_simp; first | done | with_reducible rfl)
                try simp only [Act.put, List.setIfInBounds_toArray, List.set_cons_zero, List.set_cons_succ]
                refine wpAnyH_take (i := 15) (oi := ⟨some 232, _, _, _, _, _⟩) (v := ?_) rfl (by kernel_rfl) (by kernel_rfl) (by kernel_rfl) (fun _ _ _ h => h) (Or.inl ⟨by rfl, ?_⟩) (by assumption) ?_
                rotate_left
                · (intro w hSw; (try dsimp only at hSw); go_simp; first | done | with_reducible rfl)
                try simp only [Act.put, List.setIfInBounds_toArray, List.set_cons_zero, List.set_cons_succ]
                refine wpAnyH_done (by kernel_rfl) ?_ _
                have HB3 := Lib.hid (bel_on HB2.out hHeld)
                clear hHeld m0 m1 m2 n0 n1 n2 j1
                go_wp2_with fail
                go_roundw
                case rel => exact ⟨j + 1, by omega, by rw [HE4.out]; go_num, by go_num, HB3⟩
                case measure => simp [intOf]; omega
            · have hjn : j = n := by omega
              have e1 : (gots S 0 j).length = es.length := by rw [hjn, HEL.out]
              have HBE := Lib.hid (HBW.out.trans (hbw.out.mono HBW.out.size))
              have q5 : decide ((j : Int) < (n : Int)) = false := by simp; omega
              rw [e1]
              clear hjn e1 hbw
              go_wp2_with fail
              go_ret
              exact ⟨rfl, HBE.out⟩
theorem walk {w : World} (n : Int) (_ : -9223372036854775808 ≤ n) (_ : n ≤ 9223372036854775807) (B0 : Option Addr) (nn c0 : Nat) (f : Nat → Op7) (hops : Ops7 w B0 nn f) (hA : All w) :
    Calls Tryd.prog 6 #[.int .i64 n, .slice B0 nn c0] w fun e w' => e = .returned (.bool true) ∧ Below w.heap.size w w' := by
  by_cases h1 : n < 1
  · exact walk_out n (.inl h1) B0 nn c0 hA
  · by_cases h2 : 8 < n
    · exact walk_out n (.inr h2) B0 nn c0 hA
    · obtain ⟨m, rfl⟩ := nat_of (show (0 : Int) ≤ n by omega)
      exact walk_in m (by omega) (by omega) B0 nn c0 f hops hA
set_option maxRecDepth 100000 in
/-- WHAT THE WALK GIVES, FOR EVERY ARGUMENT AND EVERY WORLD THAT HOLDS THE TABLES. -/
theorem contract (H : Type) (enc : TypeId × Value → H) (W : World) (base : Nat) (args : Array Value) (ds gs : List (DataW H)) (before : List MemPlace)
    (hval : ∀ (j : Nat) t v, Tryd.f6.params[j]? = some t → args[j]? = some v → Value.okWide Tryd.prog W .any base t v)
    (hW : DataW.Whole enc Tryd.prog Tryd.f6.params.toList Rows.pplLogsSpec.vars false W args.toList ds gs before)
    (hsz : (DataW.weightsEach Tryd.prog (Tryd.f6.params.toList ++ (OpenSpec.ofChange Rows.pplLogsSpec).bare.plain.varTypes Tryd.prog) (ds ++ gs)).all (· ≤ reachBytes) = true) (hL : laidMetH Tryd.prog laidBoth W) :
    Calls Tryd.prog 6 args W fun e W' => ∃ v, e = .returned v ∧ Rows.pplLogsSpec.post enc Tryd.prog Tryd.f6 false true false false W args v W' := by
  have hW' := hW
  obtain ⟨p, q, hA0, hV, rfl, hfz, hnd⟩ := hW
  have hA : DataW.TrodAll enc Tryd.prog W 0 (fun _ => true) true Tryd.f6.params.toList args.toList ds p := hA0
  have hsz2 : (DataW.weightsEach Tryd.prog (Tryd.f6.params.toList ++ []) (ds ++ gs)).all (· ≤ reachBytes) = true := hsz
  rw [Tryd.params6] at hA hval hsz2
  obtain ⟨v0, vs0, d0, ds0, p0, q0, hargs, rfl, rfl, h0, r0⟩ := trodAll_cons hA
  obtain ⟨v1, vs1, d1, ds1, p1, q1, rfl, rfl, rfl, h1, r1⟩ := trodAll_cons r0
  obtain ⟨rfl, rfl, rfl⟩ := trodAll_nil r1
  obtain rfl : args = #[v0, v1] := by cases args; simp_all
  obtain ⟨rfl, rfl⟩ := trodVars_none hV
  obtain ⟨a0, rfl, rfl, rfl, w0⟩ := open_int Tryd.underlying3 (hval 0 3 v0 rfl rfl) h0
  have bd0 := bounds_i64 w0
  obtain ⟨A1, n1, c1, rfl⟩ := okWide_slice Tryd.underlying35 (hval 1 35 v1 rfl rfl)
  have k1 := h1
  have lt1 : ∀ x ∈ p1, x.block < W.heap.size := by obtain ⟨m, hm⟩ := k1; exact DataW.trod_lt m _ _ _ hm
  obtain ⟨f1, hl1⟩ : ∃ f, Ops7 W A1 n1 f := by obtain ⟨fuel, hf⟩ := h1; exact ops7_in (by simpa [Value.cells] using hf)
  have hT := tabs_of_laid hL
  refine (walk a0 bd0.1 bd0.2 A1 n1 c1 f1 hl1 hT).mono fun e W' ⟨he, bel⟩ => ?_
  subst he
  exact ⟨_, rfl, _, _, _, [], _, [], hW', trodAll_mk1 (shut_bool Tryd.underlying4 _), (trodAll_cons_mk (shut_int Tryd.underlying3 w0) (trodAll_cons_mk (Below.trod laidOut (by kernel_rfl) (of_decide_eq_true (by kernel_rfl)) k1 bel lt1) trodAll_mk0)), rfl, bel.frame _, fun h => by cases h⟩

theorem laid_met (os : Os) : laidMetH Tryd.prog laidBoth ((laidWorld os).forCall (fun _ _ => 0) ⟨#[], #[.int .i64 0, .slice none 0 0], []⟩).memory :=
  laidMetH_of_parts3 (fuel := 8) (laidMet_of_run' 8 (by kernel_rfl) (by kernel_rfl)) (by kernel_rfl) (by kernel_rfl)
theorem reads (os : Os) {H : Type} (enc : TypeId × Value → H) : ∃ places, DataW.whole enc Tryd.prog ((laidWorld os).forCall (fun _ _ => 0) ⟨#[], #[.int .i64 0, .slice none 0 0], []⟩).memory Tryd.f6.params.toList Rows.pplLogsSpec.vars false (#[.int .i64 0, .slice none 0 0] : Array Value).toList 8 = some ([.lit (.int .i64 0), .nil], [], places) :=
  ⟨[], by kernel_rfl⟩
set_option maxRecDepth 100000 in
theorem lifted (os : Os) (started : os.Started) (H : Type) (enc : TypeId × Value → H) (F : Stop.Interp) :
    ReturnsInHanded {} Tryd.checked os 6 .any ((OpenSpec.ofChange Rows.pplLogsSpec).preRow enc Tryd.prog Tryd.f6 Rows.pplLogsRow.domain false Rows.pplLogsRow.laid) (((OpenSpec.ofChange Rows.pplLogsSpec).at F).post enc Tryd.prog Tryd.f6 false true false false) := by
  obtain ⟨places, hx⟩ := reads os enc
  refine returnsInHanded_of_row (C := Tryd.checked) (s := (OpenSpec.ofChange Rows.pplLogsSpec)) own started (by kernel_rfl) Tryd.func6
    (witness_row_at (enc := enc) (C := Tryd.checked) false (laidWorld os) #[.int .i64 0, .slice none 0 0] rfl (by kernel_rfl) (by kernel_rfl) (by kernel_rfl)
      (OpenSpec.preRow_of_cond 8 hx (by kernel_rfl) (fun k hk => by cases hk) (by kernel_rfl) (laid_met os))) ?_
  intro W base args ds gs before hval hW _ hcond hsz hL _ _
  exact contract H enc W base args ds gs before hval hW hsz hL
theorem said : Rows.PplLogsSaid :=
  OpenClaim.holds_of_cond 6 Tryd.f6 rfl rfl rfl rfl rfl rfl rfl ⟨rfl, rfl, rfl, rfl, rfl⟩ rfl rfl rfl rfl rfl (by kernel_rfl) Tryd.func6 (by kernel_rfl)
    (of_decide_eq_true (by kernel_rfl)) (by unfold Func.isWrapper; first | (rw [if_pos (by decide +kernel)]; kernel_rfl) | (rw [if_neg (by decide +kernel)]; exact ⟨rfl, rfl⟩))
    (fun os started H enc _ F => by rw [OpenClaim.pre_eq_preRow]; exact lifted os started H enc F)
theorem plain (f : FuncId) (fn : Func) (hf : Tryd.pinned.checked.prog.funcNamed "ashlar/ashlarlaw07.PplLogs" = some f) (hfn : Tryd.pinned.checked.prog.funcs[f]? = some fn) :
    false = Tryd.pinned.checked.prog.looks [] ∧ ∀ (j : Nat) t, fn.params[j]? = some t → Tryd.pinned.checked.prog.wantsStandIn t = false := by
  obtain rfl : f = 6 := Option.some.inj ((show Tryd.prog.funcNamed "ashlar/ashlarlaw07.PplLogs" = some 6 by kernel_rfl).symm.trans hf) |>.symm
  obtain rfl : fn = Tryd.f6 := (Option.some.inj (Tryd.func6.symm.trans hfn)).symm
  refine ⟨by kernel_rfl, fun j t ht => ?_⟩
  rw [Tryd.params6] at ht
  have hm : t ∈ [3, 35] := by simpa using Array.mem_of_getElem? ht
  have hall : ([3, 35].all fun u => !Tryd.prog.wantsStandIn u) = true := by kernel_rfl
  exact (show Tryd.prog.wantsStandIn t = false by simpa using List.all_eq_true.1 hall t hm)

/-- ████ THE CARD ████ -/
theorem card : Rows.PplLogsCardSaid :=
  Claim7.holds_tied_plain_at .later [] _ _ _ _ said (fun _ h => by cases h) (by kernel_rfl) (fun _ h => by cases h) pplLogs_row_tie rfl ⟨rfl, rfl⟩ (by kernel_rfl) rfl plain (by kernel_rfl)
end Go.Proofs.YtohdieddocogkaaDoor.U.pplLogs
