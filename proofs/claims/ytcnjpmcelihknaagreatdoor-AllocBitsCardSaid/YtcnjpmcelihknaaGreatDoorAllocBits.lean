/-
  AllocBits: the bits of what is taken, in the journal's blocks; those beyond the last thing stay.
  Conditions: the tables hold what the program's text lays.
-/
import Derived.Test.YtcnjpmcelihknaaGreatDoorV47
import Derived.Test.YtcnjpmcelihknaaGreatDoorJf
namespace Go.Proofs.YtcnjpmcelihknaaGreatDoor.U.allocBits
open Go.ChangeShapes Go.WideShapes Go.ChangeAt Go.RowKit Go.Maps
open Go.Proofs.YtcnjpmcelihknaaGreatDoor.Kj (begin12 lives12 BegunD DiskQ mine_at mine modN modN_lt mod12_any setT Alc open_alc2 tkA begun_free Bl Duo does_take does_give duo_moves refNew RefA aBlocks aBlocks_any refBlocks bL bL_succ bL_zero bL_sec bL_length rowB_cell jWrite Js rput opV12)
abbrev laidBoth : List (String × DataW Unit) := Go.Proofs.YtcnjpmcelihknaaGreatDoor.U.cacheNobody.laidBoth
theorem tabs_of_laid {W : World} (h : laidMetH Tryz.prog laidBoth W) : All10 W := Go.Proofs.YtcnjpmcelihknaaGreatDoor.U.cacheNobody.tabs_of_laid h

/-- What lies beside the map: a cell of the disk, and the row of the first bits. -/
structure Outs (W : World) (O : Nat → Prop) (q gw g p : Nat) (X : List Nat) : Prop where
  c : W.cell? ⟨q, 2, none⟩ = some (.pointer (some ⟨p, 0, none⟩))
  bl : Bl W gw 1024 (bitB X)
  lq : q < W.heap.size
  nq : ¬ O q ∧ q ≠ g
  nw : ¬ O gw ∧ gw ≠ g
theorem Outs.moved {W W' : World} {O O' : Nat → Prop} {q gw g p : Nat} {X : List Nat} (h : Outs W O q gw g p X) (hm : Sh.Moves (fun b => O b ∨ b = g) W (fun b => O' b ∨ b = g) W') : Outs W' O' q gw g p X := by
  have a1 : ¬ (O q ∨ q = g) := fun e => e.elim h.nq.1 h.nq.2
  have a2 : ¬ (O gw ∨ gw = g) := fun e => e.elim h.nw.1 h.nw.2
  exact ⟨(hm.1.cell (p := ⟨q, 2, none⟩) h.lq a1).trans h.c, h.bl.only hm.1 a2, Nat.lt_of_lt_of_le h.lq hm.1.size,
    ⟨fun e => (hm.2 q (.inl e)).elim a1 (fun q2 => by have := h.lq; omega), h.nq.2⟩, ⟨fun e => (hm.2 gw (.inl e)).elim a2 (fun q2 => by have := h.bl.lt; omega), h.nw.2⟩⟩
theorem Outs.grown {W W' : World} {O : Nat → Prop} {q gw g p : Nat} {X : List Nat} (h : Outs W O q gw g p X) (hb : Below W.heap.size W W') : Outs W' O q gw g p X :=
  ⟨(hb.cell (p := ⟨q, 2, none⟩) h.lq).trans h.c, h.bl.grown hb, Nat.lt_of_lt_of_le h.lq hb.size, h.nq, h.nw⟩
/-- What is taken at first. -/
def T1 (bk : Nat) (X : List Nat) (j : Nat) : Bool := decide (j / 1024 = bk - 1) && bitB X (j % 1024)
/-- A row that a slice of truth values has. -/
theorem bits_row {W : World} {base n : Nat} {v : Value} {f : Nat → Bool} (h : W.ownsRow base 4 1 v n (bbs f n)) (hn : 0 < n) : ∃ g c, v = .slice (some ⟨g, 0, none⟩) n c ∧ Bl W g n f ∧ base ≤ g := by
  obtain ⟨g, c, rfl, hg, hc, _⟩ := Sh.own_form h hn
  obtain ⟨cur, hcur⟩ := Sh.row_type h rfl
  exact ⟨g, c, rfl, ⟨hg, fun j hj => Sh.cell_at h (by simp [bbs, hj]), fun j _ => frozen_of_row _ _ j _ _ hcur⟩, (h.lt g rfl).1⟩
theorem look_one {s s4 : Js} {la a8 bk i : Nat} {X : Sh.Bs} (hR : s4.R = [(la, X)]) (hf : s4.f = s.f) (hla : a8 + bk - 1 = la) (hbk : 1 ≤ bk) (h0 : ∀ j, j < 14 → s.f j = Sh.noughts) (hi : a8 + i / 1024 < 14) : tkA s4.look a8 i = T1 bk X i := by
  unfold tkA T1 Js.look Kj.over
  rw [hR, hf]
  by_cases e : i / 1024 = bk - 1
  · have e2 : a8 + i / 1024 = la := by omega
    rw [e2, decide_eq_true e, Bool.true_and]
    simp [Kj.rget]
  · have e2 : a8 + i / 1024 ≠ la := by omega
    rw [decide_eq_false e, Bool.false_and]
    have : Kj.rget [(la, X)] (a8 + i / 1024) = none := by
      unfold Kj.rget
      rw [List.find?_singleton, if_neg (by simpa using fun q => e2 q.symm)]
      rfl
    rw [this, Option.getD_none, h0 _ hi]
    exact Kj.bit_noughts _
set_option maxRecDepth 100000 in
set_option maxHeartbeats 8000000 in
theorem walk {w : World} (ct : Int) (hc1 : -9223372036854775808 ≤ ct) (hc2 : ct ≤ 9223372036854775807) (fi : Int) (_ : -9223372036854775808 ≤ fi) (_ : fi ≤ 9223372036854775807) (A : Option Addr) (gn gc : Nat) (gf : Nat → Int) (hl : Go.Proofs.YtcnjpmcelihknaaGreatDoor.Kc.Ints10 w A gn gf) (od : Nat) (hod : od < 256) (hA : All10 w) :
    Calls Tryz.prog 9 #[.int .i64 ct, .int .i64 fi, .slice A gn gc, .int .u8 (od : Int)] w fun e w' => e = .returned (.bool true) ∧ Below w.heap.size w w' := by
  have HBG := Lib.hid (begin12 hA 14 (by decide) (by decide))
  have HLV := Lib.hid (fun (W : World) (hb : Below w.heap.size w W) => lives12 (hA.over hb))
  clear hA
  unfold BegunD at HBG
  have hM1 := modN_lt ct (show 0 < 2100 by decide)
  have HM1 := Lib.hid (fun W => mod12_any ct 2100 (by decide) (by decide) W)
  change Hid (∀ W, Calls _ _ #[.int .i64 ct, .int .i64 2100] W _) at HM1
  have ha8 := modN_lt fi (show 0 < 8 by decide)
  have HM8 := Lib.hid (fun W => mod12_any fi 8 (by decide) (by decide) W)
  change Hid (∀ W, Calls _ _ #[.int .i64 fi, .int .i64 8] W _) at HM8
  generalize modN ct 2100 = km at *
  generalize modN fi 8 = a8 at *
  obtain ⟨k, hk⟩ : ∃ k, km + 1 = k := ⟨_, rfl⟩
  have wk : wrap64 (1 + (km : Int)) = (k : Int) := by rw [IntWalk.wrap64_in _ ⟨by omega, by omega⟩]; omega
  have hkm : (k : Int) - 1 = (km : Int) := by omega
  have hk1p : 1 + (km : Int) = (k : Int) := by omega
  have hk1 : 1 ≤ k ∧ k ≤ 2100 := by omega
  have HBK := Lib.hid (fun W => aBlocks k W hk1.1 (by omega))
  obtain ⟨bk, hbk⟩ : ∃ bk, (k - 1) / 1024 + 1 = bk := ⟨_, rfl⟩
  rw [hbk] at HBK
  have hbk1 : 1 ≤ bk ∧ bk ≤ 3 := by omega
  obtain ⟨la, hla⟩ : ∃ la, a8 + bk - 1 = la := ⟨_, rfl⟩
  have wl : (a8 : Int) + (bk : Int) - 1 = (la : Int) := by omega
  obtain ⟨p0, hp0⟩ : ∃ p0, km % 1024 / 8 = p0 := ⟨_, rfl⟩
  have hp1 : p0 ≤ 127 := by omega
  have HM2 := Lib.hid (fun x W => mod12_any x k (by omega) (by omega) W)
  have hgn := hl.1
  have HGF := Lib.hid (fun (W : World) (hb : Below w.heap.size w W) (i : Nat) (hi : i < gn) => show ∃ ad, A = some ad ∧ W.cell? (ad.add i) = some (.int .i64 (gf i)) from by
    obtain ⟨b, off, rfl, hlt, h⟩ := hl.2 (by omega)
    exact ⟨_, rfl, (hb.cell (p := (⟨b, off, none⟩ : Addr).add i) (by rw [Sh.block_of_add]; exact hlt)).trans (by rw [U.add_plain]; exact (h i hi).1)⟩)
  have HCT := Lib.hid (And.intro hc1 hc2)
  have HK := Lib.hid (And.intro hk (And.intro hbk (And.intro hla (And.intro hp0 hM1))))
  clear hM1 hk hl hbk hla hp0 hc1 hc2
  go_enter Tryz.func9, Tryz.ntmps9
  go_wp2_with fail
  refine (HM1.out _).mono ?_
  rintro e w0 ⟨rfl, rfl⟩
  go_wp2_with fail
  refine (HM8.out _).mono ?_
  rintro e w0 ⟨rfl, rfl⟩
  go_wp2_with fail
  refine HBG.out.mono ?_
  rintro e w1 ⟨S, G, q, O, s, rfl, hd, hn, hfi, hle, hSB, hSW, hsR, hsf, hwq, hb⟩
  have HL := Lib.hid (HLV.out w1 hb)
  have HD := Lib.hid (And.intro hd (And.intro hb (And.intro hSB (And.intro hSW (And.intro hsR hsf)))))
  have HM : Hid (∀ b, mine S G b ↔ b < 14) := Lib.hid (fun b => (mine_at hn hfi hle).trans (by omega))
  clear hd hn hfi hle hSB hSW hsR hsf hwq hb HBG HLV HM1 HM8
  go_wp2_with fail
  refine HL.out.mono ?_
  rintro e w2 ⟨rfl, hb2⟩
  have hd2 := HD.out.1.grown hb2
  have HD2 := Lib.hid hd2
  clear hb2 hd2 HL
  go_wp2_with fail
  refine (HBK.out _).mono ?_
  rintro e w2 ⟨rfl, rfl⟩
  go_wp2_with (at_make; refine Kj.make128 rfl _ _ rfl rfl rfl ?_; intro w3 p3 b3; have H3 := Lib.hid (And.intro (Kj.pad_rowB p3) b3); clear p3 b3)
  obtain ⟨gb, hgb⟩ : ∃ gb, w2.heap.size = gb := ⟨_, rfl⟩
  rw [hgb] at H3 ⊢
  have hgb' := hgb
  rw [show (km : Int) % 1024 / 8 = (p0 : Int) from by have := HK.out.2.2.2.1; omega]
  go_loopw [14] (fun s14 wr => ∃ j : Nat, p0 ≤ j ∧ j ≤ 128 ∧ s14 = .int .i64 j ∧ Hid (RowB wr gb (bL p0 od j) [] ∧ Below gb w2 wr)) (fun s14 _ => 128 - (intOf s14).toNat)
  case atStart => exact ⟨p0, Nat.le_refl _, by omega, rfl, Lib.hid ⟨by rw [bL_zero]; exact H3.out.1, H3.out.2⟩⟩
  case round =>
    obtain ⟨j, hpj, hj, rfl, hR⟩ := hrel
    by_cases hlt : j < 128
    · have cj := rowB_cell hR.out.1 (j := j) (by rw [bL_length]; exact hlt)
      have fj := frozen_of_row _ _ j _ _ hR.out.1
      have HN : Hid (RowB (wr.setCell ⟨gb, j, none⟩ (.int .u8 (od : Int))) gb (bL p0 od (j + 1)) [] ∧ Below gb w2 (wr.setCell ⟨gb, j, none⟩ (.int .u8 (od : Int)))) := Lib.hid ⟨by rw [← bL_succ p0 od hpj]; exact Kj.RowB.set hR.out.1 j od (by rw [bL_length]; exact hlt), hR.out.2.setCell (p := ⟨gb, j, none⟩) (Nat.le_refl _) _⟩
      clear hR
      go_wp2
      go_roundw
      case rel => exact ⟨j + 1, by omega, by omega, by go_num, HN⟩
      case measure => simp [intOf]; omega
    · obtain rfl : j = 128 := by omega
      have hR1 := hR.out
      rw [← hgb] at hR1
      have hd3 := HD2.out.grown hR1.2
      have c2 := hd3.c2
      have hsec := bL_sec p0 hod 128
      have hbs : Sh.Beside wr O (some ⟨gb, 0, none⟩) (bL p0 od 128) := ⟨by rw [hgb] at hR1; exact hR1.1.reads hsec.1, fun ad ha e => by
        injection ha with ha
        rw [← ha] at e
        have := HD2.out.jou.lt _ e
        simp only at this
        omega⟩
      have hmi : mine S G la := (HM.out la).2 (by have := HK.out.2.2.1; omega)
      have HW := Lib.hid (jWrite (hd3.jou.less (show 379990 ≤ 380000 by decide)) la hmi 128 hbs hsec (.inr (by rw [HD.out.2.2.2.2.1]; decide)))
      have HR3 := Lib.hid (And.intro hR.out.1 hd3)
      have HMI := Lib.hid hmi
      clear hR hR1 hd3 hsec hbs hmi hlt hj hpj H3
      obtain ⟨X, hX⟩ : ∃ X, bL p0 od 128 = X := ⟨_, rfl⟩
      have hXs : Sh.Sec X := by rw [← hX]; exact bL_sec p0 hod 128
      rw [hX] at HW HR3
      clear hX
      go_wp2_with fail
      refine HW.out.mono ?_
      rintro e w4 ⟨rfl, hj4, hmv4⟩
      obtain ⟨s4, hs4⟩ : ∃ s4 : Js, { s with R := rput s.R la X } = s4 := ⟨_, rfl⟩
      have hR4 : s4.R = [(la, X)] := by rw [← hs4]; show rput s.R la X = _; rw [HD.out.2.2.2.2.1]; rfl
      have hf4 : s4.f = s.f := by rw [← hs4]
      rw [hs4] at hj4
      have c2' : w4.cell? ⟨q, 2, none⟩ = some (.pointer (some ⟨G.p, 0, none⟩)) := (hmv4.1.cell (p := ⟨q, 2, none⟩) (lt_of_block HR3.out.2.row.choose_spec) HR3.out.2.nq).trans c2
      have HT0 : Hid (∀ i, i < 4096 → tkA s4.look a8 i = T1 bk X i) := Lib.hid fun i hi => look_one hR4 hf4 HK.out.2.2.1 hbk1.1 HD.out.2.2.2.2.2 (by omega)
      have HO := Lib.hid (open_alc2 (fi := a8) (n := k) (k := 379000) (by rw [hR4]; intro z hz; rw [List.mem_singleton.1 hz]; have := HK.out.2.2.1; simp only; omega) (hj4.less (by decide)) ⟨hk1.1, by omega⟩ (fun i hi => (HM.out _).2 (by omega)))
      have hrow4 := HR3.out.1.same (hmv4.1.block _ HR3.out.1.lt (fun e => by have := HD2.out.jou.lt _ e; omega))
      have hq4 := hmv4.1.block q (lt_of_block HR3.out.2.row.choose_spec) HR3.out.2.nq
      have H4 := Lib.hid (And.intro hrow4 (And.intro hXs (And.intro (show ¬ O gb from fun e => by have := HD2.out.jou.lt _ e; omega) (And.intro HR3.out.2.nq (Nat.lt_of_lt_of_le (lt_of_block HR3.out.2.row.choose_spec) hmv4.1.size)))))
      clear hq4 hj4 hmv4 hR4 hf4 hs4 hrow4 HW hXs c2
      generalize tkA s4.look a8 = T0 at *
      go_wp2_with fail
      refine HO.out.mono ?_
      rintro e w5 ⟨m, O5, rfl, ha5, hmv5, hm5⟩
      have hgb5 : ¬ O5 gb := fun e => (hmv5.2 _ e).elim H4.out.2.2.1 (fun q => by have := H4.out.1.lt; omega)
      have hq5 : ¬ O5 q := fun e => (hmv5.2 _ e).elim H4.out.2.2.2.1 (fun q => by have := H4.out.2.2.2.2; omega)
      have c2 := (hmv5.1.cell (p := ⟨q, 2, none⟩) H4.out.2.2.2.2 H4.out.2.2.2.1).trans c2'
      have hrow5 := H4.out.1.same (hmv5.1.block _ H4.out.1.lt H4.out.2.2.1)
      have H5 := Lib.hid (And.intro ha5 (And.intro hrow5 (And.intro hgb5 (And.intro hq5 (And.intro c2 (Nat.lt_of_lt_of_le H4.out.2.2.2.2 hmv5.1.size))))))
      have HNW := Lib.hid (refNew k (by omega) w5)
      have HXS := Lib.hid H4.out.2.1
      clear ha5 hrow5 hgb5 hq5 hmv5 hm5 c2' c2 HO H4 HR3
      go_wp2_with fail
      refine HNW.out.mono ?_
      rintro e w6 ⟨x, g, rfl, hr6, hb6, hx6, hg6⟩
      have h5l := fun b (e : O5 b) => H5.out.1.lts b e
      have hml := H5.out.1.mlt
      have hd6 : Hid (Alc S G w6 m a8 k O5 T0 379000 ∧ RefA w6 x g k (fun _ => false) ∧ (¬ O5 x ∧ ¬ O5 g ∧ x ≠ m ∧ g ≠ m) ∧ w6.cell? ⟨q, 2, none⟩ = some (.pointer (some ⟨G.p, 0, none⟩)) ∧ ¬ O5 q ∧ q < w5.heap.size ∧ w5.heap.size ≤ g ∧ w5.heap.size ≤ w6.heap.size) := Lib.hid ⟨H5.out.1.grown hb6, hr6, ⟨fun e => by have := h5l _ e; omega, fun e => by have := h5l _ e; omega, by omega, by omega⟩, (hb6.cell (p := ⟨q, 2, none⟩) H5.out.2.2.2.2.2).trans H5.out.2.2.2.2.1, H5.out.2.2.2.1, H5.out.2.2.2.2.2, hg6, hb6.size⟩
      have hrow6 := H5.out.2.1.same (hb6.block _ H5.out.2.1.lt)
      have HBT := Lib.hid (refBits_any (some ⟨gb, 0, none⟩) 128 128 w6.heap.size X w6 HXS.out.2 (hrow6.reads HXS.out.1) (Nat.le_refl _) (by decide))
      unfold BitsMade at HBT
      clear hr6 hb6 hx6 hg6 h5l hml hrow6 H5 HNW
      go_wp2_with fail
      refine HBT.out.mono ?_
      rintro e w7 ⟨v7, rfl, ho7, hb7⟩
      obtain ⟨gw, cw, rfl, hbl7, hgw⟩ := bits_row ho7 (by decide)
      rw [show 8 * 128 = 1024 from rfl] at hbl7 ⊢
      have h5l := fun b (e : O5 b) => hd6.out.1.lts b e
      have H7 : Hid (Alc S G w7 m a8 k O5 T0 379000 ∧ RefA w7 x g k (fun j => decide (j < 0) && T1 bk X j) ∧ (¬ O5 x ∧ ¬ O5 g ∧ x ≠ m ∧ g ≠ m) ∧ w7.cell? ⟨q, 2, none⟩ = some (.pointer (some ⟨G.p, 0, none⟩)) ∧ (¬ O5 q ∧ q ≠ g ∧ q < w7.heap.size) ∧ Bl w7 gw 1024 (bitB X) ∧ ¬ O5 gw ∧ gw ≠ g) := Lib.hid
        ⟨hd6.out.1.grown hb7, (hd6.out.2.1.grown hb7).alike (fun j _ => by simp), hd6.out.2.2.1, (hb7.cell (p := ⟨q, 2, none⟩) (show q < w6.heap.size from by have := hd6.out.2.2.2.2.2; omega)).trans hd6.out.2.2.2.1, ⟨hd6.out.2.2.2.2.1, by have := hd6.out.2.2.2.2.2; omega, by have h1 := hd6.out.2.2.2.2.2; have h2 := hb7.size; omega⟩, hbl7, fun e => by have := h5l _ e; omega, by have := hd6.out.2.1.row.lt; omega⟩
      clear h5l hd6 hbl7 hgw ho7 hb7 HBT
      go_wp2
      go_loopw [19] (fun s19 wr => ∃ i : Nat, i ≤ k ∧ s19 = .int .i64 i ∧ Hid (RefA wr x g k (fun j => decide (j < i) && T1 bk X j) ∧ Sh.Only (fun b => b = g) w7 wr)) (fun s19 _ => k - (intOf s19).toNat)
      case atStart => exact ⟨0, Nat.zero_le _, rfl, Lib.hid ⟨H7.out.2.1, Sh.Only.refl _ _⟩⟩
      case round =>
        obtain ⟨i, hi, rfl, hR⟩ := hrel
        by_cases hlt : i < k
        · have c0 := hR.out.1.c0
          have ci := hR.out.1.row.at_ i hlt
          have fi' := hR.out.1.row.free i hlt
          have hbw := H7.out.2.2.2.2.2.1.only hR.out.2 H7.out.2.2.2.2.2.2.2
          have cw2 := hbw.at_ (i % 1024) (Nat.mod_lt _ (by decide))
          have HS := Lib.hid (hR.out.1.set i hlt (T1 bk X i))
          have HRR := Lib.hid hR.out.2
          have hib : i ≤ 2100 := by omega
          have wq : IntKind.i64.wrap ((i : Int) / 1024) = (i : Int) / 1024 := by rw [IntKind.wrap_i64]; omega
          have ws : IntKind.i64.wrap ((la : Int) - (a8 : Int)) = ((bk - 1 : Nat) : Int) := by have := HK.out.2.2.1; rw [IntKind.wrap_i64]; omega
          obtain ⟨im, him⟩ : ∃ im, i % 1024 = im := ⟨_, rfl⟩
          rw [him] at cw2
          have hm1024 : im < 1024 := by omega
          have hm1025 : (im : Int) < 1024 := by omega
          have wr2 : (i : Int).tmod 1024 = (im : Int) := by rw [← him, show (1024 : Int) = ((1024 : Nat) : Int) from rfl, ← Int.ofNat_tmod]
          clear hR hbw
          have HT1 : Hid (∀ i j, j < k → setT (fun j => decide (j < i) && T1 bk X j) i (T1 bk X i) j = (decide (j < i + 1) && T1 bk X j)) := Lib.hid fun i j _ => by
            unfold setT
            by_cases e : j = i
            · rw [if_pos e, e, decide_eq_true (by omega), Bool.true_and]
            · rw [if_neg e]
              show (decide (j < i) && T1 bk X j) = _
              by_cases e2 : j < i
              · rw [decide_eq_true e2, decide_eq_true (by omega)]
              · rw [decide_eq_false e2, decide_eq_false (by omega)]
          by_cases he : i / 1024 = bk - 1
          · have q1 : (i : Int) / 1024 = ((bk - 1 : Nat) : Int) := by omega
            have wb : IntKind.i64.wrap ((bk - 1 : Nat) : Int) = ((bk - 1 : Nat) : Int) := by rw [IntKind.wrap_i64]; omega
            have HV : Hid (T1 bk X i = bitB X im) := Lib.hid (by unfold T1; rw [decide_eq_true he, Bool.true_and, him])
            rw [HV.out] at HS
            go_wp2
            go_still_tail 19, (by kernel_rfl)
            change wpList _ _ _ _ _ wr.drew
            go_wp2
            go_roundw
            case rel => exact ⟨i + 1, by omega, by go_num, Lib.hid ⟨(HS.out.1.alike (by have := HT1.out i; rw [HV.out] at this; exact this)).grown ((Below.refl _ _).drew), (HRR.out.trans HS.out.2 (fun _ e => .inl e)).drew⟩⟩
            case measure => simp [intOf]; omega
          · have q1 : ¬ ((i : Int) / 1024 = ((bk - 1 : Nat) : Int)) := by omega
            have HV : Hid (T1 bk X i = false) := Lib.hid (by unfold T1; rw [decide_eq_false he, Bool.false_and])
            rw [HV.out] at HS
            go_wp2
            go_still_tail 19, (by kernel_rfl)
            change wpList _ _ _ _ _ wr.drew
            go_wp2
            go_roundw
            case rel => exact ⟨i + 1, by omega, by go_num, Lib.hid ⟨(HS.out.1.alike (by have := HT1.out i; rw [HV.out] at this; exact this)).grown ((Below.refl _ _).drew), (HRR.out.trans HS.out.2 (fun _ e => .inl e)).drew⟩⟩
            case measure => simp [intOf]; omega
        · obtain rfl : k = i := by omega
          have hD8 : Duo S G wr m a8 k O5 T0 379000 x g := ⟨H7.out.1.only hR.out.2 (fun b hb => by rw [hb]; exact ⟨H7.out.2.2.1.2.1, H7.out.2.2.1.2.2.2⟩), hR.out.1.alike (fun j hj => by show (decide (j < k) && T1 bk X j) = T0 j; rw [decide_eq_true hj, Bool.true_and]; exact (HT0.out j (by omega)).symm), H7.out.2.2.1⟩
          have hO8 : Outs wr O5 q gw g G.p X := ⟨(hR.out.2.cell (p := ⟨q, 2, none⟩) H7.out.2.2.2.2.1.2.2 H7.out.2.2.2.2.1.2.1).trans H7.out.2.2.2.1, H7.out.2.2.2.2.2.1.only hR.out.2 H7.out.2.2.2.2.2.2.2, Nat.lt_of_lt_of_le H7.out.2.2.2.2.1.2.2 hR.out.2.size, ⟨H7.out.2.2.2.2.1.1, H7.out.2.2.2.2.1.2.1⟩, H7.out.2.2.2.2.2.2⟩
          have hrel0 : Hid (∃ O' T', Duo S G wr m a8 k O' T' (379000 - 12 * 0) x g ∧ (∀ j, k ≤ j → T' j = T0 j) ∧ Outs wr O' q gw g G.p X) := Lib.hid ⟨O5, T0, hD8, fun _ _ => rfl, hO8⟩
          clear hD8 hO8 hR H7 hlt hi
          go_wp2
          go_loopw [20] (fun s20 wr => ∃ i : Nat, i ≤ 40 ∧ s20 = .int .i64 i ∧ Hid (∃ O' T', Duo S G wr m a8 k O' T' (379000 - 12 * i) x g ∧ (∀ j, k ≤ j → T' j = T0 j) ∧ Outs wr O' q gw g G.p X)) (fun s20 _ => 40 - (intOf s20).toNat)
          case atStart => exact ⟨0, Nat.zero_le _, rfl, hrel0⟩
          case round =>
            obtain ⟨i, hi, rfl, hrel⟩ := hrel
            clear hrel0
            by_cases hgi : i < gn ∧ i < 40
            · obtain ⟨hgl, hi40⟩ := hgi
              obtain ⟨O', T', hD, hTT, hOo⟩ := hrel.out
              have hbel := hD.alc.bel
              rw [HD.out.2.2.1, HD.out.2.2.2.1] at hbel
              obtain ⟨ad, hAe, hcg⟩ := HGF.out _ hbel i hgl
              subst hAe
              have hgq := modN_lt (gf i) (show 0 < k by omega)
              have HMQ := Lib.hid (HM2.out (gf i))
              obtain ⟨gq, hgqe⟩ : ∃ gq, modN (gf i) k = gq := ⟨_, rfl⟩
              rw [hgqe] at hgq HMQ
              have HI := Lib.hid (And.intro hD (And.intro hTT hOo))
              clear hD hTT hOo hbel hrel hgqe
              by_cases hpar : i % 2 = 0
              · have hp1 : (i : Int) % 2 = 0 := by omega
                have hp2 : (i : Int).tmod 2 = 0 := by rw [show (2 : Int) = ((2 : Nat) : Int) from rfl, ← Int.ofNat_tmod]; omega
                have HDO := Lib.hid (does_take ((HI.out.1).less (show 379000 - 12 * (i + 1) + 10 ≤ 379000 - 12 * i by omega)) (gq : Int))
                unfold opV12 at HDO
                go_wp2_with fail
                refine (HMQ.out _).mono ?_
                rintro e w8 ⟨rfl, rfl⟩
                go_wp2_with fail
                refine HDO.out.mono ?_
                rintro e w8 ⟨O8, T8, rfl, hD8, hT8, hm8⟩
                have HN : Hid (Duo S G w8 m a8 k O8 T8 (379000 - 12 * (i + 1)) x g ∧ (∀ j, k ≤ j → T8 j = T0 j) ∧ Outs w8 O8 q gw g G.p X) := Lib.hid ⟨hD8, fun j hj => (hT8 j hj).trans (HI.out.2.1 j hj), HI.out.2.2.moved hm8⟩
                clear hD8 hT8 hm8 HDO HMQ hcg
                go_wp2
                go_roundw
                case rel => exact ⟨i + 1, by omega, by go_num, Lib.hid ⟨_, _, HN.out⟩⟩
                case measure => simp [intOf]; omega
              · have hp1 : (i : Int) % 2 = 1 := by omega
                have hp2 : (i : Int).tmod 2 = 1 := by rw [show (2 : Int) = ((2 : Nat) : Int) from rfl, ← Int.ofNat_tmod]; omega
                have HDO := Lib.hid (does_give ((HI.out.1).less (show 379000 - 12 * (i + 1) + 2 ≤ 379000 - 12 * i by omega)) gq hgq)
                unfold opV12 at HDO
                go_wp2_with fail
                refine (HMQ.out _).mono ?_
                rintro e w8 ⟨rfl, rfl⟩
                go_wp2_with fail
                refine HDO.out.mono ?_
                rintro e w8 ⟨O8, rfl, hD8, hm8⟩
                have HN : Hid (Duo S G w8 m a8 k O8 (setT T' gq false) (379000 - 12 * (i + 1)) x g ∧ (∀ j, k ≤ j → setT T' gq false j = T0 j) ∧ Outs w8 O8 q gw g G.p X) := Lib.hid ⟨hD8, fun j hj => by unfold setT; rw [if_neg (by omega)]; exact HI.out.2.1 j hj, HI.out.2.2.moved hm8⟩
                clear hD8 hm8 HDO HMQ hcg
                go_wp2
                go_roundw
                case rel => exact ⟨i + 1, by omega, by go_num, Lib.hid ⟨_, _, HN.out⟩⟩
                case measure => simp [intOf]; omega
            · by_cases h1 : i < gn
              all_goals
                have h40 : i < gn → ¬ i < 40 := fun a b => hgi ⟨a, b⟩
                have h41 : ¬ i < gn ∨ ¬ i < 40 := by omega
                obtain ⟨O', T', hD, hTT, hOo⟩ := hrel.out
                have hrel1 : Hid (∃ O', Duo S G wr m a8 k O' T' (300000 - 2 * a8) x g ∧ Outs wr O' q gw g G.p X) := Lib.hid ⟨O', hD.less (by omega), hOo⟩
                have HTT := Lib.hid hTT
                clear hD hTT hOo hrel hgi h40 hi
                try have h42 : ¬ i < 40 := h41.resolve_left (fun q => q h1)
                clear h41
                go_wp2
                go_loopw [21, 22, 23, 24, 25, 26] (fun s21 s22 s23 s24 s25 s26 wr => ∃ i : Nat, a8 ≤ i ∧ i ≤ la + 1 ∧ s21 = .int .i64 i ∧ Hid (∃ O', Duo S G wr m a8 k O' T' (300000 - 2 * i) x g ∧ Outs wr O' q gw g G.p X)) (fun s21 _ _ _ _ _ _ => la + 1 - (intOf s21).toNat)
                case atStart => exact ⟨a8, Nat.le_refl _, by have := HK.out.2.2.1; omega, rfl, hrel1⟩
                case round =>
                  obtain ⟨i, hi1, hi2, rfl, hrel⟩ := hrel
                  clear hrel1
                  by_cases hle : i ≤ la
                  · have qle : decide ((i : Int) ≤ (la : Int)) = true := by simpa using hle
                    obtain ⟨O', hD, hOo⟩ := hrel.out
                    have c2 := hOo.c
                    have HRD := Lib.hid ((hD.alc.less (show 300000 - 2 * (i + 1) + 2 ≤ 300000 - 2 * i by have := HK.out.2.2.1; omega)).read i ((HM.out i).2 (by have := HK.out.2.2.1; omega)))
                    have HI := Lib.hid (And.intro hD hOo)
                    clear hD hOo hrel
                    go_wp2_with fail
                    refine HRD.out.mono ?_
                    rintro e w8 ⟨Ar, cap, O8, l, rfl, ha8', hm8, hrd, hls, hbits⟩
                    have HBT := Lib.hid (refBits_any Ar 128 cap w8.heap.size l w8 hls.2 hrd (Nat.le_refl _) (by decide))
                    unfold BitsMade at HBT
                    have H8 : Hid (Duo S G w8 m a8 k O8 T' (300000 - 2 * (i + 1)) x g ∧ Outs w8 O8 q gw g G.p X) := Lib.hid ⟨HI.out.1.both ha8' hm8 (HI.out.1.ref_moved hm8) (Sh.Only.refl _ _), HI.out.2.moved (duo_moves (Below.refl _ _) hm8 (Sh.Only.refl (fun b => b = g) _))⟩
                    have HBB := Lib.hid hbits
                    clear ha8' hm8 hrd hls hbits HRD c2
                    go_wp2_with fail
                    refine HBT.out.mono ?_
                    rintro e w9 ⟨v9, rfl, ho9, hb9⟩
                    obtain ⟨gr, cr, rfl, hbl9, _⟩ := bits_row ho9 (by decide)
                    rw [show 8 * 128 = 1024 from rfl] at hbl9 ⊢
                    have H9 := Lib.hid (And.intro (H8.out.1.grown hb9) (And.intro (H8.out.2.grown hb9) hbl9))
                    obtain ⟨d, hd⟩ : ∃ d, i - a8 = d := ⟨_, rfl⟩
                    have e1 : (i : Int) - (a8 : Int) = (d : Int) := by omega
                    have hdb : d ≤ bk - 1 := by have := HK.out.2.2.1; omega
                    have hd3 : d ≤ 2 := by omega
                    clear hbl9 ho9 hb9 HBT H8
                    go_wp2
                    go_loopw [25, 26] (fun s25 s26 wr => ∃ n : Nat, n ≤ 1024 ∧ s25 = .int .i64 n ∧ Hid (Below w9.heap.size w9 wr)) (fun s25 _ _ => 1024 - (intOf s25).toNat)
                    case atStart => exact ⟨0, Nat.zero_le _, rfl, Lib.hid (Below.refl _ _)⟩
                    case round =>
                      obtain ⟨n, hn, rfl, hbr⟩ := hrel
                      by_cases hltn : n < 1024
                      · obtain ⟨th, hth⟩ : ∃ th, d * 1024 + n = th := ⟨_, rfl⟩
                        have e2 : (d : Int) * 1024 + (n : Int) = (th : Int) := by omega
                        have hth5 : th ≤ 5000 := by omega
                        have c0 := (H9.out.1.ref.grown hbr.out).c0
                        have cr1 := (H9.out.2.2.grown hbr.out).at_ n hltn
                        have cw1 := (H9.out.2.1.bl.grown hbr.out).at_ n hltn
                        have hb9 := HBB.out th (by omega)
                        rw [show th % 1024 = n by omega] at hb9
                        by_cases htk : th < k
                        · have ct1 := (H9.out.1.ref.grown hbr.out).row.at_ th htk
                          rw [← hb9] at ct1
                          have HBR := hbr
                          clear hb9 cw1 hbr
                          generalize bitB l n = bv at *
                          have q1 : decide ((th : Int) ≥ (k : Int)) = false := by simp; omega
                          have q2 : decide (k ≤ th) = false := by simp; omega
                          go_wp2
                          go_quiet (fail)
                          go_wp2
                          go_roundw
                          case rel => exact ⟨n + 1, by omega, by go_num, Lib.hid (HBR.out.trans ((below_drewN (Below.refl _ wr) nq).mono HBR.out.size))⟩
                          case measure => simp [intOf]; omega
                        · have hT0 := (HTT.out th (by omega)).trans (HT0.out th (by omega))
                          unfold T1 at hT0
                          rw [show th / 1024 = bk - 1 by have := HK.out; omega, decide_eq_true rfl, Bool.true_and, show th % 1024 = n by omega] at hT0
                          rw [← hT0, ← hb9] at cw1
                          have HBR := hbr
                          clear hb9 hT0 hbr
                          generalize bitB l n = bv at *
                          have q1 : decide ((th : Int) ≥ (k : Int)) = true := by simp; omega
                          have q2 : decide (k ≤ th) = true := by simp; omega
                          go_wp2
                          go_quiet (fail)
                          go_wp2
                          go_roundw
                          case rel => exact ⟨n + 1, by omega, by go_num, Lib.hid (HBR.out.trans ((below_drewN (Below.refl _ wr) nq).mono HBR.out.size))⟩
                          case measure => simp [intOf]; omega
                      · obtain rfl : n = 1024 := by omega
                        go_wp2
                        go_roundw
                        case rel => exact ⟨i + 1, by omega, by omega, by go_num, Lib.hid ⟨O8, H9.out.1.grown hbr.out, H9.out.2.1.grown hbr.out⟩⟩
                        case measure => simp [intOf]; omega
                  · obtain rfl : i = la + 1 := by omega
                    have qle : decide (((la + 1 : Nat) : Int) ≤ (la : Int)) = false := by simp; omega
                    obtain ⟨O', hD, hOo⟩ := hrel.out
                    have hbel := hD.alc.bel
                    rw [HD.out.2.2.1, HD.out.2.2.2.1] at hbel
                    have HBEL := Lib.hid hbel
                    obtain ⟨z, hz⟩ : ∃ z, ct.tmod 100000 = z := ⟨_, rfl⟩
                    have hzb : -100000 ≤ z ∧ z ≤ 100000 := by
                      have h1 : (ct.tmod 100000).natAbs < 100000 := by
                        rw [Int.natAbs_tmod]
                        exact Nat.mod_lt _ (by decide)
                      rw [hz] at h1
                      omega
                    have HB1 := Lib.hid (aBlocks_any z wr hzb.1 hzb.2)
                    obtain ⟨bz, hbz⟩ : ∃ bz, ((z + 1023) / 1024).toNat = bz := ⟨_, rfl⟩
                    rw [hbz] at HB1
                    have HB2 := Lib.hid (refBlocks z wr (by omega))
                    clear hD hOo hbel hrel
                    go_wp2_with fail
                    refine HB1.out.mono ?_
                    rintro e w8 ⟨rfl, rfl⟩
                    go_wp2_with fail
                    refine HB2.out.mono ?_
                    rintro e w8 ⟨kk, rfl, rfl, hk8, hk9⟩
                    obtain rfl : bz = kk := by omega
                    clear hk8 hk9 hbz
                    go_wp2
                    go_ret
                    exact ⟨rfl, HBEL.out⟩
set_option maxRecDepth 100000 in
/-- WHAT THE WALK GIVES, FOR EVERY ARGUMENT AND EVERY WORLD THAT HOLDS THE TABLES. -/
theorem contract (H : Type) (enc : TypeId × Value → H) (W : World) (base : Nat) (args : Array Value) (ds gs : List (DataW H)) (before : List MemPlace)
    (hval : ∀ (j : Nat) t v, Tryz.f9.params[j]? = some t → args[j]? = some v → Value.okWide Tryz.prog W .any base t v)
    (hW : DataW.Whole enc Tryz.prog Tryz.f9.params.toList Rows.allocBitsSpec.vars false W args.toList ds gs before)
    (hsz : (DataW.weightsEach Tryz.prog (Tryz.f9.params.toList ++ (OpenSpec.ofChange Rows.allocBitsSpec).bare.plain.varTypes Tryz.prog) (ds ++ gs)).all (· ≤ reachBytes) = true) (hL : laidMetH Tryz.prog laidBoth W) :
    Calls Tryz.prog 9 args W fun e W' => ∃ v, e = .returned v ∧ Rows.allocBitsSpec.post enc Tryz.prog Tryz.f9 false true false false W args v W' := by
  have hW' := hW
  obtain ⟨p, q, hA0, hV, rfl, hfz, hnd⟩ := hW
  have hA : DataW.TrodAll enc Tryz.prog W 0 (fun _ => true) true Tryz.f9.params.toList args.toList ds p := hA0
  have hsz2 : (DataW.weightsEach Tryz.prog (Tryz.f9.params.toList ++ []) (ds ++ gs)).all (· ≤ reachBytes) = true := hsz
  rw [Tryz.params9] at hA hval hsz2
  obtain ⟨v0, vs0, d0, ds0, p0, q0, hargs, rfl, rfl, h0, r0⟩ := trodAll_cons hA
  obtain ⟨v1, vs1, d1, ds1, p1, q1, rfl, rfl, rfl, h1, r1⟩ := trodAll_cons r0
  obtain ⟨v2, vs2, d2, ds2, p2, q2, rfl, rfl, rfl, h2, r2⟩ := trodAll_cons r1
  obtain ⟨v3, vs3, d3, ds3, p3, q3, rfl, rfl, rfl, h3, r3⟩ := trodAll_cons r2
  obtain ⟨rfl, rfl, rfl⟩ := trodAll_nil r3
  obtain rfl : args = #[v0, v1, v2, v3] := by cases args; simp_all
  obtain ⟨rfl, rfl⟩ := trodVars_none hV
  obtain ⟨a0, rfl, rfl, rfl, w0⟩ := open_int Tryz.underlying3 (hval 0 3 v0 rfl rfl) h0
  have bd0 := bounds_i64 w0
  obtain ⟨a1, rfl, rfl, rfl, w1⟩ := open_int Tryz.underlying3 (hval 1 3 v1 rfl rfl) h1
  have bd1 := bounds_i64 w1
  obtain ⟨A2, n2, c2, rfl⟩ := okWide_slice Tryz.underlying22 (hval 2 22 v2 rfl rfl)
  have k2 := h2
  have lt2 : ∀ x ∈ p2, x.block < W.heap.size := by obtain ⟨m, hm⟩ := k2; exact DataW.trod_lt m _ _ _ hm
  obtain ⟨f2, hl2⟩ : ∃ f, Kc.Ints10 W A2 n2 f := by obtain ⟨fuel, hf⟩ := h2; exact Kc.ints10_in (by simpa [Value.cells] using hf)
  obtain ⟨a3, rfl, rfl, rfl, w3⟩ := open_int Tryz.underlying5 (hval 3 5 v3 rfl rfl) h3
  have bd3 := bounds_u8 w3
  obtain ⟨m3, hm3⟩ : ∃ m : Nat, a3 = (m : Int) := ⟨a3.toNat, by omega⟩
  have hT := tabs_of_laid hL
  subst hm3
  refine (walk a0 bd0.1 bd0.2 a1 bd1.1 bd1.2 A2 n2 c2 f2 hl2 m3 (by omega) hT).mono fun e W' ⟨he, bel⟩ => ?_
  subst he
  exact ⟨_, rfl, _, _, _, [], _, [], hW', trodAll_mk1 (shut_bool Tryz.underlying4 _), (trodAll_cons_mk (shut_int Tryz.underlying3 w0) (trodAll_cons_mk (shut_int Tryz.underlying3 w1) (trodAll_cons_mk (Below.trod laidOut (by kernel_rfl) (of_decide_eq_true (by kernel_rfl)) k2 bel lt2) (trodAll_cons_mk (shut_int Tryz.underlying5 w3) trodAll_mk0)))), rfl, bel.frame _, fun h => by cases h⟩

theorem laid_met (os : Os) : laidMetH Tryz.prog laidBoth ((laidWorld os).forCall (fun _ _ => 0) ⟨#[], #[.int .i64 0, .int .i64 0, .slice none 0 0, .int .u8 0], []⟩).memory :=
  laidMetH_of_parts3 (fuel := 8) (laidMet_of_run' 8 (by kernel_rfl) (by kernel_rfl)) (by kernel_rfl) (by kernel_rfl)
theorem reads (os : Os) {H : Type} (enc : TypeId × Value → H) : ∃ places, DataW.whole enc Tryz.prog ((laidWorld os).forCall (fun _ _ => 0) ⟨#[], #[.int .i64 0, .int .i64 0, .slice none 0 0, .int .u8 0], []⟩).memory Tryz.f9.params.toList Rows.allocBitsSpec.vars false (#[.int .i64 0, .int .i64 0, .slice none 0 0, .int .u8 0] : Array Value).toList 8 = some ([.lit (.int .i64 0), .lit (.int .i64 0), .nil, .lit (.int .u8 0)], [], places) :=
  ⟨[], by kernel_rfl⟩
set_option maxRecDepth 100000 in
theorem lifted (os : Os) (started : os.Started) (H : Type) (enc : TypeId × Value → H) (F : Stop.Interp) :
    ReturnsInHanded {} Tryz.checked os 9 .any ((OpenSpec.ofChange Rows.allocBitsSpec).preRow enc Tryz.prog Tryz.f9 Rows.allocBitsRow.domain false Rows.allocBitsRow.laid) (((OpenSpec.ofChange Rows.allocBitsSpec).at F).post enc Tryz.prog Tryz.f9 false true false false) := by
  obtain ⟨places, hx⟩ := reads os enc
  refine returnsInHanded_of_row (C := Tryz.checked) (s := (OpenSpec.ofChange Rows.allocBitsSpec)) own started (by kernel_rfl) Tryz.func9
    (witness_row_at (enc := enc) (C := Tryz.checked) false (laidWorld os) #[.int .i64 0, .int .i64 0, .slice none 0 0, .int .u8 0] rfl (by kernel_rfl) (by kernel_rfl) (by kernel_rfl)
      (OpenSpec.preRow_of_cond 8 hx (by kernel_rfl) (fun k hk => by cases hk) (by kernel_rfl) (laid_met os))) ?_
  intro W base args ds gs before hval hW _ hcond hsz hL _ _
  exact contract H enc W base args ds gs before hval hW hsz hL
theorem closed_h1 : Jf.j1 Tryz.prog Tryz.f9 ((OpenSpec.ofChange Rows.allocBitsSpec)).bare Rows.allocBitsRow = true := by kernel_rfl
theorem closed_h2 : Jf.j2 Tryz.prog Tryz.f9 ((OpenSpec.ofChange Rows.allocBitsSpec)).bare Rows.allocBitsRow = true := by kernel_rfl
theorem closed_h3 : Jf.j3 Tryz.prog Tryz.f9 ((OpenSpec.ofChange Rows.allocBitsSpec)).bare Rows.allocBitsRow = true := by kernel_rfl
theorem closed_h4 : Jf.j4 Tryz.prog Rows.allocBitsRow = true := by kernel_rfl
theorem closed_h5 : Jf.j5 Tryz.prog Tryz.f9 Rows.allocBitsRow = true := by kernel_rfl
theorem closed_h6 : Jf.j6 Tryz.prog Tryz.f9 ((OpenSpec.ofChange Rows.allocBitsSpec)).bare Rows.allocBitsRow = true := by kernel_rfl
theorem closed_l1 : laidOutB Tryz.prog = true := by kernel_rfl
theorem closed_l2 : mapsRowed Tryz.prog = true := by kernel_rfl
theorem closed_l3 : Tryz.prog.stopsHeard = true := by kernel_rfl
theorem closed_l4 : Tryz.prog.mayEnter = true := by kernel_rfl
theorem closed_m1 : (Rows.allocBitsRow.inPlace == Tryz.prog.inPlace 9) = true := by kernel_rfl
theorem closed_m2 : (Rows.allocBitsRow.unfollowed == Tryz.prog.unfollowed 9) = true := by kernel_rfl
theorem closed_m3 : (Rows.allocBitsRow.recurses == Tryz.prog.recurses 9) = true := by kernel_rfl
theorem closed_m4 : (Rows.allocBitsRow.named == Tryz.prog.varsNamed 9) = true := by kernel_rfl
theorem closed : joinedFacts Tryz.pinned.checked.prog 9 Tryz.f9 ((OpenSpec.ofChange Rows.allocBitsSpec)).bare Rows.allocBitsRow = true :=
  Jf.joined_of closed_h1 closed_h2 closed_h3 closed_h4 closed_h5 closed_h6 closed_l1 closed_l2 closed_l3 closed_l4 closed_m1 closed_m2 closed_m3 closed_m4
theorem said : Rows.AllocBitsSaid :=
  OpenClaim.holds_of_cond 9 Tryz.f9 rfl rfl rfl rfl rfl rfl rfl ⟨rfl, rfl, rfl, rfl, rfl⟩ rfl rfl rfl rfl rfl (by kernel_rfl) Tryz.func9 closed
    (of_decide_eq_true (by kernel_rfl)) (by unfold Func.isWrapper; first | (rw [if_pos (by decide +kernel)]; kernel_rfl) | (rw [if_neg (by decide +kernel)]; exact ⟨rfl, rfl⟩))
    (fun os started H enc _ F => by rw [OpenClaim.pre_eq_preRow]; exact lifted os started H enc F)
theorem plain (f : FuncId) (fn : Func) (hf : Tryz.pinned.checked.prog.funcNamed "ashlar/ashlarlaw12.AllocBits" = some f) (hfn : Tryz.pinned.checked.prog.funcs[f]? = some fn) :
    false = Tryz.pinned.checked.prog.looks [] ∧ ∀ (j : Nat) t, fn.params[j]? = some t → Tryz.pinned.checked.prog.wantsStandIn t = false := by
  obtain rfl : f = 9 := Option.some.inj ((show Tryz.prog.funcNamed "ashlar/ashlarlaw12.AllocBits" = some 9 by kernel_rfl).symm.trans hf) |>.symm
  obtain rfl : fn = Tryz.f9 := (Option.some.inj (Tryz.func9.symm.trans hfn)).symm
  refine ⟨by kernel_rfl, fun j t ht => ?_⟩
  rw [Tryz.params9] at ht
  have hm : t ∈ [3, 3, 22, 5] := by simpa using Array.mem_of_getElem? ht
  have hall : ([3, 3, 22, 5].all fun u => !Tryz.prog.wantsStandIn u) = true := by kernel_rfl
  exact (show Tryz.prog.wantsStandIn t = false by simpa using List.all_eq_true.1 hall t hm)

/-- ████ THE CARD ████ -/
theorem card : Rows.AllocBitsCardSaid :=
  Claim7.holds_tied_plain_at .later [] _ _ _ _ said (fun _ h => by cases h) (by kernel_rfl) (fun _ h => by cases h) allocBits_row_tie rfl ⟨rfl, rfl⟩ (by kernel_rfl) rfl plain (by kernel_rfl)
end Go.Proofs.YtcnjpmcelihknaaGreatDoor.U.allocBits
