/-
  SumsMoved: another block, another disk.
  Conditions: each theorem's own.
-/
import Derived.Test.YtjdjpafnakhpcaaDoorUx
namespace Go.Proofs.YtjdjpafnakhpcaaDoor.U.sumsMoved
open Go.ChangeShapes Go.WideShapes Go.ChangeAt Go.RowKit

set_option maxRecDepth 100000 in
set_option maxHeartbeats 8000000 in
theorem mid {w : World} (f t : Nat) (hkf : f < 37) (hkt : t < 37) (hft : f ≠ t) (y z : Nat) (hy : y < 256) (hz : z < 256) (hyz : y ≠ z) (dk : Int) (K : Nat) (hK : K < 2) (htm : (dk.tmod 2 = 0 ∧ K = 0) ∨ (dk.tmod 2 = 1 ∧ K = 1) ∨ (dk.tmod 2 = -1 ∧ K = 1)) (hT : Tabs w) :
    Calls Tryd.prog 8 #[.int .i64 f, .int .i64 t, .int .u8 y, .int .u8 z, .int .i64 dk] w fun e w' => e = .returned (.bool true) ∧ Below w.heap.size w w' := by
  have hTB := hT.size
  have Htm := Lib.hid htm
  have qf : ((37 : Int) ≤ (f : Int)) = False := by simp; omega
  have qt : ((37 : Int) ≤ (t : Int)) = False := by simp; omega
  have qft : ((f : Int) == (t : Int)) = false := by rw [beq_eq_false_iff_ne]; omega
  have qyz : ((y : Int) == (z : Int)) = false := by rw [beq_eq_false_iff_ne]; omega
  have hfn : ¬ (dataOf f = sumOf t ∨ dataOf f = dataOf t) := fun h => h.elim (data_ne_sum f t) (fun e => hft (dataOf_inj e))
  clear htm hft hyz
  go_enter Tryd.func8, Tryd.ntmps8
  go_wp2_with fail
  refine (Sh.new_ok 2 40 w (by decide) (by decide) (by decide) (by decide)).mono ?_
  rintro e w1 ⟨p, F1, rfl, hS, hF, hb⟩
  have a1 : Sh.At w.heap.size w w1 p (Sh.newSf 2 40) F1 := ⟨hS, hF, hb, hb.size⟩
  clear hS hF hb
  go_wp2_with fail
  refine (open_yes 0 a1.shelf (by decide)).mono ?_
  rintro e w2 ⟨rfl, hd, hb⟩
  have DA2 := dv_open (a := w1.heap.size) a1 hd hb rfl
  have hlt2 : w1.heap.size < w2.heap.size := DA2.dev.lt
  generalize w1.heap.size = a at *
  clear a1 hd hb
  go_upto_if 46 with fail
  go_cut [15] (fun s15 wx => s15 = .int .i64 (K : Int) ∧ wx = w2)
  case first =>
    rcases Htm.out with ⟨e1, e2⟩ | ⟨e1, e2⟩ | ⟨e1, e2⟩
    all_goals
      rw [e1]
      subst e2
      go_wp2_with fail
      all_goals (go_meet; exact ⟨rfl, rfl⟩)
  case rest =>
    obtain ⟨rfl, rfl⟩ := hcut
    have hc3 : ∀ d, d < 2 → Calm (Sh.newSf 2 40) d := fun d hd => calm_new hd
    have HV3 := Lib.hid (show ∀ d n, d < 2 → n < 40 → V (Sh.newSf 2 40) d n = Sh.noughts from fun d n hd hn => V_new hd hn)
    have hL3 := new_small 2 40
    have hsec3 : (Sh.newSf 2 40).sectors = 40 := rfl
    have hlen3 : (Sh.newSf 2 40).disks.length = 2 := rfl
    generalize Sh.newSf 2 40 = S3 at *
    have Hsec3 := Lib.hid hsec3
    clear hsec3
    go_wp2_with fail
    refine (open_yes K DA2.on.shelf (by rw [hlen3]; exact hK)).mono ?_
    rintro e w3 ⟨rfl, hd, hb⟩
    have DB3 := dv_open (a := wc.heap.size) DA2.on hd hb rfl
    have DA3 := DA2.grown hb
    have hne : a ≠ wc.heap.size := Nat.ne_of_lt hlt2
    generalize wc.heap.size = a2 at *
    clear DA2 hd hb hlt2 hlen3
    go_wp2_with fail
    refine (lives_true w3 (At.tabs DA3.on hT hTB)).mono ?_
    rintro e w4 ⟨rfl, hb4⟩
    have DA4 := DA3.grown hb4
    have DB4 := DB3.grown hb4
    clear DA3 DB3 hb4
    have HCN := Lib.hid (fun w5 (hb : Below w4.heap.size w4 w5) => show Calls Tryd.prog 28 #[.pointer (some ⟨a, 0, none⟩)] w5 fun e w8 => e = .returned (.int .i64 37) ∧ ∃ n, w8 = w5.drewN n from by
      have D5 := DA4.grown hb
      have := count_of D5.dev D5.on.shelf (secM_of D5.on.shelf)
      rw [Hsec3.out] at this
      exact this)
    go_wp2_with fail
    refine (HCN.out _ (Below.refl _ _)).mono ?_
    rintro e w4a ⟨rfl, m4, rfl⟩
    go_wp2_with fail
    refine (HCN.out _ (drawn (Below.refl _ w4) m4)).mono ?_
    rintro e w4b ⟨rfl, m5, rfl⟩
    have hb4b : Below w4.heap.size w4 ((w4.drewN m4).drewN m5) := drawn (drawn (Below.refl _ w4) m4) m5
    have DA5 := DA4.grown hb4b
    have DB5 := DB4.grown hb4b
    have hc5 := hc3
    have hL5 := hL3
    have hs5 : S3.sectors = 40 := Hsec3.out
    have hkf' : f < blk 40 := hkf
    have hkt' : t < blk 40 := hkt
    obtain ⟨hfd, hfs, _⟩ := sum_of_lt (n := 40) hkf'
    obtain ⟨htd, hts, _⟩ := sum_of_lt (n := 40) hkt'
    clear DA4 DB4 hc3 hL3 HCN hb4b
    generalize (w4.drewN m4).drewN m5 = w5 at *
    go_wp2_with fail
    refine (Sh.sector_any w5 y hy).mono ?_
    rintro e w5a ⟨rfl, ho, hb⟩
    have DA5a := DA5.grown hb
    have DB5a := DB5.grown hb
    have y5 := sector_with DA5 ho
    clear DA5 DB5 ho hb
    go_wp2_with fail
    refine (write_calm DA5a hT hTB (hc5 0 (by omega)) f (by rw [hs5]; assumption) (Sh.secOf y) (Sh.secOf_sec hy) y5 hL5).mono ?_
    rintro e w6 ⟨rfl, S6, hP6, F6, DA6, hM6⟩
    have DB6 := DB_other DB5a (Ne.symm hne) DA6 hM6
    have hc6 := calm_all hc5 hP6.over
    have hL6 := hP6.small hL5
    have hs6 : S6.sectors = 40 := by rw [hP6.over.sectors]; exact hs5
    clear DA5a DB5a y5 hM6
    have hraw6 : V S6 0 (dataOf f) = Sh.secOf y := hP6.data
    go_wp2_with fail
    refine (flush_calm DA6 (hc6 0 (by omega)) (fun k hk => by have := hL6 k hk; omega)).mono ?_
    rintro e w7 ⟨rfl, F7, DA7, hM7⟩
    have DB7 := DB_other DB6 (Ne.symm hne) DA7 hM7
    have hO7 : Over S6 0 (fun _ => False) (Fl S6 0) := Over.fl (hc6 0 (by omega))
    have hc7 := calm_all hc6 hO7
    have hs7 : (Fl S6 0).sectors = 40 := by rw [fl_sectors]; exact hs6
    have hL7 : ∀ k ∈ (Fl S6 0).disks, k.waits.length + 3 < 1099511627776 := by
      intro x hx
      have := fl_waits (m := 1099511627773) (fun k hk => by have := hL6 k hk; omega) x hx
      omega
    generalize Fl S6 0 = S7 at *
    clear DA6 DB6 hM7
    have hraw7 : V S7 0 (dataOf f) = Sh.secOf y := by rw [hO7.same _ (by rw [hs6]; exact hfd) (fun h => h)]; exact hraw6
    clear hO7 hP6 hraw6 hc6 hL6
    go_wp2_with fail
    refine (Sh.sector_any w7 z hz).mono ?_
    rintro e w7a ⟨rfl, ho, hb⟩
    have DA7a := DA7.grown hb
    have DB7a := DB7.grown hb
    have y7 := sector_with DB7 ho
    clear DA7 DB7 ho hb
    go_wp2_with fail
    refine (write_calm DB7a hT hTB (hc7 K (by omega)) t (by rw [hs7]; assumption) (Sh.secOf z) (Sh.secOf_sec hz) y7 hL7).mono ?_
    rintro e w8 ⟨rfl, S8, hP8, F8, DB8, hM8⟩
    have DA8 := DB_other DA7a hne DB8 hM8
    have hc8 := calm_all hc7 hP8.over
    have hL8 := hP8.small hL7
    have hs8 : S8.sectors = 40 := by rw [hP8.over.sectors]; exact hs7
    clear DA7a DB7a y7 hM8
    have hraw8 : V S8 0 (dataOf f) = Sh.secOf y := by
      rw [← hraw7]
      exact raw_same hP8.over (by rw [hs7]; exact hfd) (.inr hfn)
    go_wp2_with fail
    refine (flush_calm DB8 (hc8 K (by omega)) (fun k hk => by have := hL8 k hk; omega)).mono ?_
    rintro e w9 ⟨rfl, F9, DB9, hM9⟩
    have DA9 := DB_other DA8 hne DB9 hM9
    have hO9 : Over S8 K (fun _ => False) (Fl S8 K) := Over.fl (hc8 K (by omega))
    have hc9 := calm_all hc8 hO9
    have hs9 : (Fl S8 K).sectors = 40 := by rw [fl_sectors]; exact hs8
    have hL9 : ∀ k ∈ (Fl S8 K).disks, k.waits.length + 3 < 1099511627776 := by
      intro x hx
      have := fl_waits (m := 1099511627773) (fun k hk => by have := hL8 k hk; omega) x hx
      omega
    generalize Fl S8 K = S9 at *
    clear DA8 DB8 hM9
    have hraw9 : V S9 0 (dataOf f) = Sh.secOf y := by
      rw [← hraw8]
      exact raw_same hO9 (by rw [hs8]; exact hfd) (.inr fun h => h)
    clear hO9 hP8 hraw7 hraw8 hc7 hL7 hc8 hL8
    go_wp2_with fail
    refine (place_yes f (by omega) w9).mono ?_
    rintro e w' ⟨rfl, rfl⟩
    go_wp2_with fail
    refine (place_yes t (by omega) w9).mono ?_
    rintro e w' ⟨rfl, rfl⟩
    go_wp2_with fail
    refine (Sh.read_done w9 p 0 (dataOf f) DB9.on.shelf (hc9 0 (by decide)).lt (by rw [hs9]; exact hfd) (hc9 0 (by decide)).why).mono ?_
    rintro e w10 ⟨A10, c10, rfl, y10, s10, o10⟩
    have y10' : Sh.Bytes w9 w10 A10 (Sh.secOf y) := by rw [← hraw9]; exact y10
    have z10 := beside_with DB9 y10'
    have DB10 := DB9.stays s10 o10
    have hc10 : ∀ d, d < 2 → Calm S9.doRead d := fun d hd => ⟨(hc9 d hd).lt, (hc9 d hd).on, (hc9 d hd).left, (hc9 d hd).alive, (hc9 d hd).len⟩
    have hL10 : ∀ z ∈ S9.doRead.disks, z.waits.length + 3 < 1099511627776 := hL9
    have hs10 : S9.doRead.sectors = 40 := hs9
    clear DA9 DB9 y10 y10' s10 o10 hc9 hL9 hraw9
    generalize S9.doRead = S10 at *
    go_wp2_with fail
    refine (wr_of w10 p K (dataOf t) (Sh.secOf y) DB10.on.shelf (hc10 K (by omega)).lt (by rw [hs10]; exact htd) (fun k hk => by have := hL10 k hk; omega) (Sh.secOf_sec hy) z10.1 (fun x hx e => z10.2 x hx (.inl e))).mono ?_
    rintro e w11 ⟨he, hl11⟩
    rw [(hc10 K (by omega)).why] at he
    subst he
    obtain ⟨F11, DB11, hM11⟩ := DB10.goes hl11
    have z11 := z10.moves hM11
    have hO11 : Over S10 K (fun m => m = dataOf t) (Wr S10 K (dataOf t) (Sh.secOf y)) := Over.wr (hc10 K (by omega)) _ _ rfl
    have hd11 : V (Wr S10 K (dataOf t) (Sh.secOf y)) K (dataOf t) = Sh.secOf y := by rw [(hc10 K (by omega)).V_wr, if_pos rfl]
    have hc11 := hO11.calm
    have hs11 : (Wr S10 K (dataOf t) (Sh.secOf y)).sectors = 40 := by rw [wr_sectors]; exact hs10
    have hk11 : t < blk (Wr S10 K (dataOf t) (Sh.secOf y)).sectors := by rw [hs11]; exact hkt
    clear DB10 hl11 hM11 z10 hO11 hc10 hL10
    generalize Wr S10 K (dataOf t) (Sh.secOf y) = S11 at *
    have hsec11 := V_sec DB11.on.shelf hc11.lt (n := sumOf t) (by rw [hs11]; exact hts)
    obtain ⟨g, hg⟩ : ∃ g, goodAt S11 K t = g := ⟨_, rfl⟩
    go_wp2_with fail
    refine (read_done DB11 hT hTB t hk11 hc11.lt hc11.why g hg).mono ?_
    rintro e w12 ⟨hrd, DB12, o12⟩
    have z12 := z11.moves (moves_only o12)
    have hc12 := hc11.looked K
    have hs12 : (Looked S11 K).sectors = 40 := by rw [looked_sectors]; exact hs11
    have hV12 : V (Looked S11 K) K (sumOf t) = V S11 K (sumOf t) := looked_V _ _ _ _
    have hgl : goodL K t (V S11 K (sumOf t)) (Sh.secOf y) = g := by rw [← hg]; unfold goodAt; rw [hd11]
    obtain ⟨vv, ii, rfl, hvi⟩ : ∃ (vv : Value) (ii : Int), e = .returned (.tuple #[vv, .int .i64 ii]) ∧ ((g = true ∧ ii = 0 ∧ ∃ A c, vv = .slice A 128 c) ∨ (g = false ∧ ii = 5 ∧ vv = .slice none 0 0)) := by
      rcases hrd with ⟨h1, A, c, rfl, _⟩ | ⟨h1, rfl⟩
      · exact ⟨_, _, rfl, .inl ⟨h1, rfl, A, c, rfl⟩⟩
      · exact ⟨_, _, rfl, .inr ⟨h1, rfl, rfl⟩⟩
    clear DB11 z11 o12 hd11 hc11 hk11 hrd hg
    have HGL := Lib.hid hgl
    clear hgl
    generalize Looked S11 K = S12 at *
    have hvs : (∃ A c, vv = .slice A 128 c) ∨ vv = .slice none 0 0 := hvi.elim (fun h => .inl h.2.2) (fun h => .inr h.2.2)
    have Hvi := Lib.hid (show (g = true ∧ ii = 0) ∨ (g = false ∧ ii = 5) from hvi.elim (fun h => .inl ⟨h.1, h.2.1⟩) (fun h => .inr ⟨h.1, h.2.1⟩))
    clear hvi
    rcases hvs with ⟨AA, cc, rfl⟩ | rfl
    all_goals
     go_wp2_with fail
     refine (place_yes t (by omega) w12).mono ?_
     rintro e w' ⟨rfl, rfl⟩
     go_wp2_with fail
     refine (Sh.read_done w12 p K (sumOf t) DB12.on.shelf hc12.lt (by rw [hs12]; exact hts) hc12.why).mono ?_
     rintro e w13 ⟨A13, c13, rfl, y13, s13, o13⟩
     have y13' : Sh.Bytes w12 w13 A13 (V S11 K (sumOf t)) := by rw [← hV12]; exact y13
     have x13 := beside_with DB12 y13'
     have z13 := z12.moves (moves_only o13)
     have DB13 := DB12.stays s13 o13
     have tA := Sh.conv_grown (c := c13) x13 rfl w13 (Below.refl _ _)
     have tB := Sh.conv_grown (c := c10) z13 rfl w13 (Below.refl _ _)
     have HGood := Lib.hid (refGood_any K t (by omega) (V S11 K (sumOf t)) (Sh.secOf y) hsec11 (Sh.secOf_sec hy) w13)
     rw [HGL.out] at HGood
     have Z13 := Lib.hid z13
     clear z13 x13 y13 y13' s13 o13 
     go_wp2_with fail
     refine HGood.out.mono ?_
     rintro e w17 ⟨rfl, hb17⟩
     have z17 := Z13.out.grown hb17
     have hfin := Lib.hid (DB13.on.bel.trans (hb17.mono DB13.on.size))
     have hsz := Lib.hid (Nat.le_trans DB13.on.size hb17.size)
     clear tA tB DB13 hb17 HGood
     generalize hsb : Sh.strL (Sh.secOf y) = sb at *
     have HSB := Lib.hid hsb
     have t1 := fun W (hb : Below w17.heap.size w17 W) => Sh.conv_grown (c := c10) z17 HSB.out W hb
     clear z17 hsb
     rcases Hvi.out with ⟨rfl, rfl⟩ | ⟨rfl, rfl⟩
     · go_wp2_with fail
       refine wp_region_held_drew (S := fun W' => Below w17.heap.size w17 W') (by kernel_rfl) ((Below.refl _ _).drew) (fun hHeld => ?_)
       refine wpAnyH_take (i := 0) (oi := ⟨some 195, _, _, _, _, _⟩) (v := ?_) rfl (by kernel_rfl) (by kernel_rfl) (by kernel_rfl) (fun _ _ _ h => h) (Or.inl ⟨by rfl, ?_⟩) (by assumption) ?_
       rotate_left
       · (intro w hSw; (try dsimp only at hSw); go_simp; first | done | with_reducible rfl)
       try simp only [Act.put, List.setIfInBounds_toArray, List.set_cons_zero, List.set_cons_succ]
       refine wpAnyH_take (i := 1) (oi := ⟨some 196, _, _, _, _, _⟩) (v := ?_) rfl (by kernel_rfl) (by kernel_rfl) (by kernel_rfl) (fun _ _ _ h => h) (Or.inl ⟨by rfl, ?_⟩) (by assumption) ?_
       rotate_left
       · (intro w hSw; (try dsimp only at hSw); go_simp; first | done | with_reducible rfl)
       try simp only [Act.put, List.setIfInBounds_toArray, List.set_cons_zero, List.set_cons_succ]
       refine wpAnyH_take (i := 2) (oi := ⟨some 197, _, _, _, _, _⟩) (v := ?_) rfl (by kernel_rfl) (by kernel_rfl) (by kernel_rfl) (fun _ _ _ h => h) (Or.inl ⟨by rfl, ?_⟩) (by assumption) ?_
       rotate_left
       · (intro w hSw; (try dsimp only at hSw); go_simp; first | done | with_reducible rfl)
       try simp only [Act.put, List.setIfInBounds_toArray, List.set_cons_zero, List.set_cons_succ]
       refine wpAnyH_ready (rs := [3]) (by kernel_rfl) (by simp) ?_
       refine AllReadyH.cons (o := ⟨some 198, _, _, _, _, _⟩) rfl (fun K hK => ?_) AllReadyH.nil
       go_simp
       refine (Sh.sector_any _ y hy).mono ?_
       rintro e w18 ⟨rfl, ho18, hb18⟩
       refine hK.out _ _ (hHeld.trans (hb18.mono hHeld.size)) (fun hHeld => ?_)
       clear hK K
       try simp only [Act.put, List.setIfInBounds_toArray, List.set_cons_zero, List.set_cons_succ]
       have hb18' : Below w17.heap.size w17 w18 := hHeld
       clear hHeld t1
       refine Sh.wpAnyH_mono (S' := fun W' => Below w18.heap.size w18 W') (fun W' h => hb18'.trans (h.mono hb18'.size)) _ _ _ _ ?_
       have hHeld : Below w18.heap.size w18 w18 := Below.refl _ _
       have t2 := Sh.conv_own (q := w17.heap.size) ho18 HSB.out
       refine wpAnyH_take (i := 4) (oi := ⟨some 199, _, _, _, _, _⟩) (v := ?_) rfl (by kernel_rfl) (by kernel_rfl) (by kernel_rfl) (fun _ _ _ h => h) (Or.inl ⟨by rfl, ?_⟩) (by assumption) ?_
       rotate_left
       · (intro w hSw; (try dsimp only at hSw); go_simp; first | done | with_reducible rfl)
       try simp only [Act.put, List.setIfInBounds_toArray, List.set_cons_zero, List.set_cons_succ]
       refine wpAnyH_take (i := 5) (oi := ⟨some 200, _, _, _, _, _⟩) (v := ?_) rfl (by kernel_rfl) (by kernel_rfl) (by kernel_rfl) (fun _ _ _ h => h) (Or.inl ⟨by rfl, ?_⟩) (by assumption) ?_
       rotate_left
       · (intro w hSw; (try dsimp only at hSw); go_simp; first | done | with_reducible rfl)
       try simp only [Act.put, List.setIfInBounds_toArray, List.set_cons_zero, List.set_cons_succ]
       refine wpAnyH_take (i := 6) (oi := ⟨some 201, _, _, _, _, _⟩) (v := ?_) rfl (by kernel_rfl) (by kernel_rfl) (by kernel_rfl) (fun _ _ _ h => h) (Or.inl ⟨by rfl, ?_⟩) (by assumption) ?_
       rotate_left
       · (intro w hSw; (try dsimp only at hSw); go_simp; first | done | with_reducible rfl)
       try simp only [Act.put, List.setIfInBounds_toArray, List.set_cons_zero, List.set_cons_succ]
       refine wpAnyH_take (i := 7) (oi := ⟨some 202, _, _, _, _, _⟩) (v := ?_) rfl (by kernel_rfl) (by kernel_rfl) (by kernel_rfl) (fun _ _ _ h => h) (Or.inl ⟨by rfl, ?_⟩) (by assumption) ?_
       rotate_left
       · (intro w hSw; (try dsimp only at hSw); go_simp; first | done | with_reducible rfl)
       try simp only [Act.put, List.setIfInBounds_toArray, List.set_cons_zero, List.set_cons_succ]
       refine wpAnyH_take (i := 8) (oi := ⟨some 203, _, _, _, _, _⟩) (v := ?_) rfl (by kernel_rfl) (by kernel_rfl) (by kernel_rfl) (fun _ _ _ h => h) (Or.inl ⟨by rfl, ?_⟩) (by assumption) ?_
       rotate_left
       · (intro w hSw; (try dsimp only at hSw); go_simp; first | done | with_reducible rfl)
       try simp only [Act.put, List.setIfInBounds_toArray, List.set_cons_zero, List.set_cons_succ]
       refine wpAnyH_take (i := 9) (oi := ⟨some 204, _, _, _, _, _⟩) (v := ?_) rfl (by kernel_rfl) (by kernel_rfl) (by kernel_rfl) (fun _ _ _ h => h) (Or.inl ⟨by rfl, ?_⟩) (by assumption) ?_
       rotate_left
       · (intro w hSw; (try dsimp only at hSw); go_simp; first | done | with_reducible rfl)
       try simp only [Act.put, List.setIfInBounds_toArray, List.set_cons_zero, List.set_cons_succ]
       refine wpAnyH_take (i := 10) (oi := ⟨some 205, _, _, _, _, _⟩) (v := ?_) rfl (by kernel_rfl) (by kernel_rfl) (by kernel_rfl) (fun _ _ _ h => h) (Or.inl ⟨by rfl, ?_⟩) (by assumption) ?_
       rotate_left
       · (intro w hSw; (try dsimp only at hSw); go_simp; first | done | with_reducible rfl)
       try simp only [Act.put, List.setIfInBounds_toArray, List.set_cons_zero, List.set_cons_succ]
       refine wpAnyH_take (i := 11) (oi := ⟨some 206, _, _, _, _, _⟩) (v := ?_) rfl (by kernel_rfl) (by kernel_rfl) (by kernel_rfl) (fun _ _ _ h => h) (Or.inl ⟨by rfl, ?_⟩) (by assumption) ?_
       rotate_left
       · (intro w hSw; (try dsimp only at hSw); go_simp; first | done | with_reducible rfl)
       try simp only [Act.put, List.setIfInBounds_toArray, List.set_cons_zero, List.set_cons_succ]
       refine wpAnyH_take (i := 12) (oi := ⟨some 207, _, _, _, _, _⟩) (v := ?_) rfl (by kernel_rfl) (by kernel_rfl) (by kernel_rfl) (fun _ _ _ h => h) (Or.inl ⟨by rfl, ?_⟩) (by assumption) ?_
       rotate_left
       · (intro w hSw; (try dsimp only at hSw); go_simp; first | done | with_reducible rfl)
       try simp only [Act.put, List.setIfInBounds_toArray, List.set_cons_zero, List.set_cons_succ]
       refine wpAnyH_take (i := 13) (oi := ⟨some 208, _, _, _, _, _⟩) (v := ?_) rfl (by kernel_rfl) (by kernel_rfl) (by kernel_rfl) (fun _ _ _ h => h) (Or.inl ⟨by rfl, ?_⟩) (by assumption) ?_
       rotate_left
       · (intro w hSw; (try dsimp only at hSw); go_simp; first | done | with_reducible rfl)
       try simp only [Act.put, List.setIfInBounds_toArray, List.set_cons_zero, List.set_cons_succ]
       refine wpAnyH_take (i := 14) (oi := ⟨some 209, _, _, _, _, _⟩) (v := ?_) rfl (by kernel_rfl) (by kernel_rfl) (by kernel_rfl) (fun _ _ _ h => h) (Or.inl ⟨by rfl, ?_⟩) (by assumption) ?_
       rotate_left
       · (intro w hSw; (try dsimp only at hSw); go_simp; first | done | with_reducible rfl)
       try simp only [Act.put, List.setIfInBounds_toArray, List.set_cons_zero, List.set_cons_succ]
       refine wpAnyH_take (i := 15) (oi := ⟨some 210, _, _, _, _, _⟩) (v := undef) rfl (by kernel_rfl) (by kernel_rfl) (by kernel_rfl) (fun _ _ _ h => h) (Or.inr ⟨by rfl, rfl⟩) (by assumption) ?_
       try simp only [Act.put, List.setIfInBounds_toArray, List.set_cons_zero, List.set_cons_succ]
       refine wpAnyH_take (i := 16) (oi := ⟨some 211, _, _, _, _, _⟩) (v := undef) rfl (by kernel_rfl) (by kernel_rfl) (by kernel_rfl) (fun _ _ _ h => h) (Or.inr ⟨by rfl, rfl⟩) (by assumption) ?_
       try simp only [Act.put, List.setIfInBounds_toArray, List.set_cons_zero, List.set_cons_succ]
       refine wpAnyH_take (i := 17) (oi := ⟨some 212, _, _, _, _, _⟩) (v := ?_) rfl (by kernel_rfl) (by kernel_rfl) (by kernel_rfl) (fun _ _ _ h => h) (Or.inl ⟨by rfl, ?_⟩) (by assumption) ?_
       rotate_left
       · (intro w hSw; (try dsimp only at hSw); go_simp; first | done | with_reducible rfl)
       try simp only [Act.put, List.setIfInBounds_toArray, List.set_cons_zero, List.set_cons_succ]
       refine wpAnyH_take (i := 18) (oi := ⟨some 213, _, _, _, _, _⟩) (v := ?_) rfl (by kernel_rfl) (by kernel_rfl) (by kernel_rfl) (fun _ _ _ h => h) (Or.inl ⟨by rfl, ?_⟩) (by assumption) ?_
       rotate_left
       · (intro w hSw; (try dsimp only at hSw); go_simp; first | done | with_reducible rfl)
       try simp only [Act.put, List.setIfInBounds_toArray, List.set_cons_zero, List.set_cons_succ]
       refine wpAnyH_take (i := 19) (oi := ⟨some 10, _, _, _, _, _⟩) (v := ?_) rfl (by kernel_rfl) (by kernel_rfl) (by kernel_rfl) (fun _ _ _ h => h) (Or.inl ⟨by rfl, ?_⟩) (by assumption) ?_
       rotate_left
       · (intro w hSw; (try dsimp only at hSw); go_simp; first | done | with_reducible rfl)
       try simp only [Act.put, List.setIfInBounds_toArray, List.set_cons_zero, List.set_cons_succ]
       refine wpAnyH_done (by kernel_rfl) ?_ _
       go_wp2
       go_ret
       exact ⟨rfl, hfin.out.trans (hb18'.mono hsz.out)⟩
     · go_wp2_with fail
       refine wp_region_held_drew (S := fun W' => Below w17.heap.size w17 W') (by kernel_rfl) ((Below.refl _ _).drew) (fun hHeld => ?_)
       refine wpAnyH_take (i := 0) (oi := ⟨some 195, _, _, _, _, _⟩) (v := ?_) rfl (by kernel_rfl) (by kernel_rfl) (by kernel_rfl) (fun _ _ _ h => h) (Or.inl ⟨by rfl, ?_⟩) (by assumption) ?_
       rotate_left
       · (intro w hSw; (try dsimp only at hSw); go_simp; first | done | with_reducible rfl)
       try simp only [Act.put, List.setIfInBounds_toArray, List.set_cons_zero, List.set_cons_succ]
       refine wpAnyH_take (i := 1) (oi := ⟨some 196, _, _, _, _, _⟩) (v := ?_) rfl (by kernel_rfl) (by kernel_rfl) (by kernel_rfl) (fun _ _ _ h => h) (Or.inl ⟨by rfl, ?_⟩) (by assumption) ?_
       rotate_left
       · (intro w hSw; (try dsimp only at hSw); go_simp; first | done | with_reducible rfl)
       try simp only [Act.put, List.setIfInBounds_toArray, List.set_cons_zero, List.set_cons_succ]
       refine wpAnyH_take (i := 2) (oi := ⟨some 197, _, _, _, _, _⟩) (v := ?_) rfl (by kernel_rfl) (by kernel_rfl) (by kernel_rfl) (fun _ _ _ h => h) (Or.inl ⟨by rfl, ?_⟩) (by assumption) ?_
       rotate_left
       · (intro w hSw; (try dsimp only at hSw); go_simp; first | done | with_reducible rfl)
       try simp only [Act.put, List.setIfInBounds_toArray, List.set_cons_zero, List.set_cons_succ]
       refine wpAnyH_ready (rs := [3]) (by kernel_rfl) (by simp) ?_
       refine AllReadyH.cons (o := ⟨some 198, _, _, _, _, _⟩) rfl (fun K hK => ?_) AllReadyH.nil
       go_simp
       refine (Sh.sector_any _ y hy).mono ?_
       rintro e w18 ⟨rfl, ho18, hb18⟩
       refine hK.out _ _ (hHeld.trans (hb18.mono hHeld.size)) (fun hHeld => ?_)
       clear hK K
       try simp only [Act.put, List.setIfInBounds_toArray, List.set_cons_zero, List.set_cons_succ]
       have hb18' : Below w17.heap.size w17 w18 := hHeld
       clear hHeld t1
       refine Sh.wpAnyH_mono (S' := fun W' => Below w18.heap.size w18 W') (fun W' h => hb18'.trans (h.mono hb18'.size)) _ _ _ _ ?_
       have hHeld : Below w18.heap.size w18 w18 := Below.refl _ _
       have t2 := Sh.conv_own (q := w17.heap.size) ho18 HSB.out
       refine wpAnyH_take (i := 4) (oi := ⟨some 199, _, _, _, _, _⟩) (v := ?_) rfl (by kernel_rfl) (by kernel_rfl) (by kernel_rfl) (fun _ _ _ h => h) (Or.inl ⟨by rfl, ?_⟩) (by assumption) ?_
       rotate_left
       · (intro w hSw; (try dsimp only at hSw); go_simp; first | done | with_reducible rfl)
       try simp only [Act.put, List.setIfInBounds_toArray, List.set_cons_zero, List.set_cons_succ]
       refine wpAnyH_take (i := 5) (oi := ⟨some 200, _, _, _, _, _⟩) (v := ?_) rfl (by kernel_rfl) (by kernel_rfl) (by kernel_rfl) (fun _ _ _ h => h) (Or.inl ⟨by rfl, ?_⟩) (by assumption) ?_
       rotate_left
       · (intro w hSw; (try dsimp only at hSw); go_simp; first | done | with_reducible rfl)
       try simp only [Act.put, List.setIfInBounds_toArray, List.set_cons_zero, List.set_cons_succ]
       refine wpAnyH_take (i := 6) (oi := ⟨some 201, _, _, _, _, _⟩) (v := ?_) rfl (by kernel_rfl) (by kernel_rfl) (by kernel_rfl) (fun _ _ _ h => h) (Or.inl ⟨by rfl, ?_⟩) (by assumption) ?_
       rotate_left
       · (intro w hSw; (try dsimp only at hSw); go_simp; first | done | with_reducible rfl)
       try simp only [Act.put, List.setIfInBounds_toArray, List.set_cons_zero, List.set_cons_succ]
       refine wpAnyH_take (i := 7) (oi := ⟨some 202, _, _, _, _, _⟩) (v := ?_) rfl (by kernel_rfl) (by kernel_rfl) (by kernel_rfl) (fun _ _ _ h => h) (Or.inl ⟨by rfl, ?_⟩) (by assumption) ?_
       rotate_left
       · (intro w hSw; (try dsimp only at hSw); go_simp; first | done | with_reducible rfl)
       try simp only [Act.put, List.setIfInBounds_toArray, List.set_cons_zero, List.set_cons_succ]
       refine wpAnyH_take (i := 8) (oi := ⟨some 203, _, _, _, _, _⟩) (v := ?_) rfl (by kernel_rfl) (by kernel_rfl) (by kernel_rfl) (fun _ _ _ h => h) (Or.inl ⟨by rfl, ?_⟩) (by assumption) ?_
       rotate_left
       · (intro w hSw; (try dsimp only at hSw); go_simp; first | done | with_reducible rfl)
       try simp only [Act.put, List.setIfInBounds_toArray, List.set_cons_zero, List.set_cons_succ]
       refine wpAnyH_take (i := 9) (oi := ⟨some 204, _, _, _, _, _⟩) (v := ?_) rfl (by kernel_rfl) (by kernel_rfl) (by kernel_rfl) (fun _ _ _ h => h) (Or.inl ⟨by rfl, ?_⟩) (by assumption) ?_
       rotate_left
       · (intro w hSw; (try dsimp only at hSw); go_simp; first | done | with_reducible rfl)
       try simp only [Act.put, List.setIfInBounds_toArray, List.set_cons_zero, List.set_cons_succ]
       refine wpAnyH_take (i := 10) (oi := ⟨some 205, _, _, _, _, _⟩) (v := ?_) rfl (by kernel_rfl) (by kernel_rfl) (by kernel_rfl) (fun _ _ _ h => h) (Or.inl ⟨by rfl, ?_⟩) (by assumption) ?_
       rotate_left
       · (intro w hSw; (try dsimp only at hSw); go_simp; first | done | with_reducible rfl)
       try simp only [Act.put, List.setIfInBounds_toArray, List.set_cons_zero, List.set_cons_succ]
       refine wpAnyH_take (i := 11) (oi := ⟨some 206, _, _, _, _, _⟩) (v := ?_) rfl (by kernel_rfl) (by kernel_rfl) (by kernel_rfl) (fun _ _ _ h => h) (Or.inl ⟨by rfl, ?_⟩) (by assumption) ?_
       rotate_left
       · (intro w hSw; (try dsimp only at hSw); go_simp; first | done | with_reducible rfl)
       try simp only [Act.put, List.setIfInBounds_toArray, List.set_cons_zero, List.set_cons_succ]
       refine wpAnyH_take (i := 12) (oi := ⟨some 207, _, _, _, _, _⟩) (v := ?_) rfl (by kernel_rfl) (by kernel_rfl) (by kernel_rfl) (fun _ _ _ h => h) (Or.inl ⟨by rfl, ?_⟩) (by assumption) ?_
       rotate_left
       · (intro w hSw; (try dsimp only at hSw); go_simp; first | done | with_reducible rfl)
       try simp only [Act.put, List.setIfInBounds_toArray, List.set_cons_zero, List.set_cons_succ]
       refine wpAnyH_take (i := 13) (oi := ⟨some 208, _, _, _, _, _⟩) (v := ?_) rfl (by kernel_rfl) (by kernel_rfl) (by kernel_rfl) (fun _ _ _ h => h) (Or.inl ⟨by rfl, ?_⟩) (by assumption) ?_
       rotate_left
       · (intro w hSw; (try dsimp only at hSw); go_simp; first | done | with_reducible rfl)
       try simp only [Act.put, List.setIfInBounds_toArray, List.set_cons_zero, List.set_cons_succ]
       refine wpAnyH_take (i := 14) (oi := ⟨some 209, _, _, _, _, _⟩) (v := ?_) rfl (by kernel_rfl) (by kernel_rfl) (by kernel_rfl) (fun _ _ _ h => h) (Or.inl ⟨by rfl, ?_⟩) (by assumption) ?_
       rotate_left
       · (intro w hSw; (try dsimp only at hSw); go_simp; first | done | with_reducible rfl)
       try simp only [Act.put, List.setIfInBounds_toArray, List.set_cons_zero, List.set_cons_succ]
       refine wpAnyH_take (i := 15) (oi := ⟨some 210, _, _, _, _, _⟩) (v := ?_) rfl (by kernel_rfl) (by kernel_rfl) (by kernel_rfl) (fun _ _ _ h => h) (Or.inl ⟨by rfl, ?_⟩) (by assumption) ?_
       rotate_left
       · (intro w hSw; (try dsimp only at hSw); go_simp; first | done | with_reducible rfl)
       try simp only [Act.put, List.setIfInBounds_toArray, List.set_cons_zero, List.set_cons_succ]
       refine wpAnyH_take (i := 16) (oi := ⟨some 211, _, _, _, _, _⟩) (v := ?_) rfl (by kernel_rfl) (by kernel_rfl) (by kernel_rfl) (fun _ _ _ h => h) (Or.inl ⟨by rfl, ?_⟩) (by assumption) ?_
       rotate_left
       · (intro w hSw; (try dsimp only at hSw); go_simp; first | done | with_reducible rfl)
       try simp only [Act.put, List.setIfInBounds_toArray, List.set_cons_zero, List.set_cons_succ]
       refine wpAnyH_take (i := 17) (oi := ⟨some 212, _, _, _, _, _⟩) (v := ?_) rfl (by kernel_rfl) (by kernel_rfl) (by kernel_rfl) (fun _ _ _ h => h) (Or.inl ⟨by rfl, ?_⟩) (by assumption) ?_
       rotate_left
       · (intro w hSw; (try dsimp only at hSw); go_simp; first | done | with_reducible rfl)
       try simp only [Act.put, List.setIfInBounds_toArray, List.set_cons_zero, List.set_cons_succ]
       refine wpAnyH_take (i := 18) (oi := ⟨some 213, _, _, _, _, _⟩) (v := ?_) rfl (by kernel_rfl) (by kernel_rfl) (by kernel_rfl) (fun _ _ _ h => h) (Or.inl ⟨by rfl, ?_⟩) (by assumption) ?_
       rotate_left
       · (intro w hSw; (try dsimp only at hSw); go_simp; first | done | with_reducible rfl)
       try simp only [Act.put, List.setIfInBounds_toArray, List.set_cons_zero, List.set_cons_succ]
       refine wpAnyH_take (i := 19) (oi := ⟨some 10, _, _, _, _, _⟩) (v := ?_) rfl (by kernel_rfl) (by kernel_rfl) (by kernel_rfl) (fun _ _ _ h => h) (Or.inl ⟨by rfl, ?_⟩) (by assumption) ?_
       rotate_left
       · (intro w hSw; (try dsimp only at hSw); go_simp; first | done | with_reducible rfl)
       try simp only [Act.put, List.setIfInBounds_toArray, List.set_cons_zero, List.set_cons_succ]
       refine wpAnyH_done (by kernel_rfl) ?_ _
       go_wp2
       go_ret
       exact ⟨rfl, hfin.out.trans (hb18'.mono hsz.out)⟩
end Go.Proofs.YtjdjpafnakhpcaaDoor.U.sumsMoved
namespace Go.Proofs.YtjdjpafnakhpcaaDoor.U.sumsMoved
open Go.ChangeShapes Go.WideShapes Go.ChangeAt Go.RowKit

set_option maxRecDepth 100000 in
set_option maxHeartbeats 8000000 in
theorem mid2 {w : World} (f : Nat) (hkf : f < 37) (y z : Nat) (hy : y < 256) (hz : z < 256) (hyz : y ≠ z) (dk : Int) (K : Nat) (hK : K < 2) (hK0 : K ≠ 0) (htm : (dk.tmod 2 = 0 ∧ K = 0) ∨ (dk.tmod 2 = 1 ∧ K = 1) ∨ (dk.tmod 2 = -1 ∧ K = 1)) (hT : Tabs w) :
    Calls Tryd.prog 8 #[.int .i64 f, .int .i64 f, .int .u8 y, .int .u8 z, .int .i64 dk] w fun e w' => e = .returned (.bool true) ∧ Below w.heap.size w w' := by
  have hTB := hT.size
  have Htm := Lib.hid htm
  have hkt := hkf
  have qf : ((37 : Int) ≤ (f : Int)) = False := by simp; omega
  have qk : ((K : Int) == 0) = false := by rw [beq_eq_false_iff_ne]; omega
  have qyz : ((y : Int) == (z : Int)) = false := by rw [beq_eq_false_iff_ne]; omega
  clear htm hyz
  go_enter Tryd.func8, Tryd.ntmps8
  go_wp2_with fail
  refine (Sh.new_ok 2 40 w (by decide) (by decide) (by decide) (by decide)).mono ?_
  rintro e w1 ⟨p, F1, rfl, hS, hF, hb⟩
  have a1 : Sh.At w.heap.size w w1 p (Sh.newSf 2 40) F1 := ⟨hS, hF, hb, hb.size⟩
  clear hS hF hb
  go_wp2_with fail
  refine (open_yes 0 a1.shelf (by decide)).mono ?_
  rintro e w2 ⟨rfl, hd, hb⟩
  have DA2 := dv_open (a := w1.heap.size) a1 hd hb rfl
  have hlt2 : w1.heap.size < w2.heap.size := DA2.dev.lt
  generalize w1.heap.size = a at *
  clear a1 hd hb
  go_upto_if 46 with fail
  go_cut [15] (fun s15 wx => s15 = .int .i64 (K : Int) ∧ wx = w2)
  case first =>
    rcases Htm.out with ⟨e1, e2⟩ | ⟨e1, e2⟩ | ⟨e1, e2⟩
    all_goals
      rw [e1]
      subst e2
      go_wp2_with fail
      all_goals (go_meet; exact ⟨rfl, rfl⟩)
  case rest =>
    obtain ⟨rfl, rfl⟩ := hcut
    have hc3 : ∀ d, d < 2 → Calm (Sh.newSf 2 40) d := fun d hd => calm_new hd
    have HV3 := Lib.hid (show ∀ d n, d < 2 → n < 40 → V (Sh.newSf 2 40) d n = Sh.noughts from fun d n hd hn => V_new hd hn)
    have hL3 := new_small 2 40
    have hsec3 : (Sh.newSf 2 40).sectors = 40 := rfl
    have hlen3 : (Sh.newSf 2 40).disks.length = 2 := rfl
    generalize Sh.newSf 2 40 = S3 at *
    have Hsec3 := Lib.hid hsec3
    clear hsec3
    go_wp2_with fail
    refine (open_yes K DA2.on.shelf (by rw [hlen3]; exact hK)).mono ?_
    rintro e w3 ⟨rfl, hd, hb⟩
    have DB3 := dv_open (a := wc.heap.size) DA2.on hd hb rfl
    have DA3 := DA2.grown hb
    have hne : a ≠ wc.heap.size := Nat.ne_of_lt hlt2
    generalize wc.heap.size = a2 at *
    clear DA2 hd hb hlt2 hlen3
    go_wp2_with fail
    refine (lives_true w3 (At.tabs DA3.on hT hTB)).mono ?_
    rintro e w4 ⟨rfl, hb4⟩
    have DA4 := DA3.grown hb4
    have DB4 := DB3.grown hb4
    clear DA3 DB3 hb4
    have HCN := Lib.hid (fun w5 (hb : Below w4.heap.size w4 w5) => show Calls Tryd.prog 28 #[.pointer (some ⟨a, 0, none⟩)] w5 fun e w8 => e = .returned (.int .i64 37) ∧ ∃ n, w8 = w5.drewN n from by
      have D5 := DA4.grown hb
      have := count_of D5.dev D5.on.shelf (secM_of D5.on.shelf)
      rw [Hsec3.out] at this
      exact this)
    go_wp2_with fail
    refine (HCN.out _ (Below.refl _ _)).mono ?_
    rintro e w4a ⟨rfl, m4, rfl⟩
    go_wp2_with fail
    refine (HCN.out _ (drawn (Below.refl _ w4) m4)).mono ?_
    rintro e w4b ⟨rfl, m5, rfl⟩
    have hb4b : Below w4.heap.size w4 ((w4.drewN m4).drewN m5) := drawn (drawn (Below.refl _ w4) m4) m5
    have DA5 := DA4.grown hb4b
    have DB5 := DB4.grown hb4b
    have hc5 := hc3
    have hL5 := hL3
    have hs5 : S3.sectors = 40 := Hsec3.out
    have hkf' : f < blk 40 := hkf
    have hkt' : f < blk 40 := hkt
    obtain ⟨hfd, hfs, _⟩ := sum_of_lt (n := 40) hkf'
    obtain ⟨htd, hts, _⟩ := sum_of_lt (n := 40) hkt'
    clear DA4 DB4 hc3 hL3 HCN hb4b
    generalize (w4.drewN m4).drewN m5 = w5 at *
    go_wp2_with fail
    refine (Sh.sector_any w5 y hy).mono ?_
    rintro e w5a ⟨rfl, ho, hb⟩
    have DA5a := DA5.grown hb
    have DB5a := DB5.grown hb
    have y5 := sector_with DA5 ho
    clear DA5 DB5 ho hb
    go_wp2_with fail
    refine (write_calm DA5a hT hTB (hc5 0 (by omega)) f (by rw [hs5]; assumption) (Sh.secOf y) (Sh.secOf_sec hy) y5 hL5).mono ?_
    rintro e w6 ⟨rfl, S6, hP6, F6, DA6, hM6⟩
    have DB6 := DB_other DB5a (Ne.symm hne) DA6 hM6
    have hc6 := calm_all hc5 hP6.over
    have hL6 := hP6.small hL5
    have hs6 : S6.sectors = 40 := by rw [hP6.over.sectors]; exact hs5
    clear DA5a DB5a y5 hM6
    have hraw6 : V S6 0 (dataOf f) = Sh.secOf y := hP6.data
    go_wp2_with fail
    refine (flush_calm DA6 (hc6 0 (by omega)) (fun k hk => by have := hL6 k hk; omega)).mono ?_
    rintro e w7 ⟨rfl, F7, DA7, hM7⟩
    have DB7 := DB_other DB6 (Ne.symm hne) DA7 hM7
    have hO7 : Over S6 0 (fun _ => False) (Fl S6 0) := Over.fl (hc6 0 (by omega))
    have hc7 := calm_all hc6 hO7
    have hs7 : (Fl S6 0).sectors = 40 := by rw [fl_sectors]; exact hs6
    have hL7 : ∀ k ∈ (Fl S6 0).disks, k.waits.length + 3 < 1099511627776 := by
      intro x hx
      have := fl_waits (m := 1099511627773) (fun k hk => by have := hL6 k hk; omega) x hx
      omega
    generalize Fl S6 0 = S7 at *
    clear DA6 DB6 hM7
    have hraw7 : V S7 0 (dataOf f) = Sh.secOf y := by rw [hO7.same _ (by rw [hs6]; exact hfd) (fun h => h)]; exact hraw6
    clear hO7 hP6 hraw6 hc6 hL6
    go_wp2_with fail
    refine (Sh.sector_any w7 z hz).mono ?_
    rintro e w7a ⟨rfl, ho, hb⟩
    have DA7a := DA7.grown hb
    have DB7a := DB7.grown hb
    have y7 := sector_with DB7 ho
    clear DA7 DB7 ho hb
    go_wp2_with fail
    refine (write_calm DB7a hT hTB (hc7 K (by omega)) f (by rw [hs7]; assumption) (Sh.secOf z) (Sh.secOf_sec hz) y7 hL7).mono ?_
    rintro e w8 ⟨rfl, S8, hP8, F8, DB8, hM8⟩
    have DA8 := DB_other DA7a hne DB8 hM8
    have hc8 := calm_all hc7 hP8.over
    have hL8 := hP8.small hL7
    have hs8 : S8.sectors = 40 := by rw [hP8.over.sectors]; exact hs7
    clear DA7a DB7a y7 hM8
    have hraw8 : V S8 0 (dataOf f) = Sh.secOf y := by
      rw [← hraw7]
      exact raw_same hP8.over (by rw [hs7]; exact hfd) (.inl hK0)
    go_wp2_with fail
    refine (flush_calm DB8 (hc8 K (by omega)) (fun k hk => by have := hL8 k hk; omega)).mono ?_
    rintro e w9 ⟨rfl, F9, DB9, hM9⟩
    have DA9 := DB_other DA8 hne DB9 hM9
    have hO9 : Over S8 K (fun _ => False) (Fl S8 K) := Over.fl (hc8 K (by omega))
    have hc9 := calm_all hc8 hO9
    have hs9 : (Fl S8 K).sectors = 40 := by rw [fl_sectors]; exact hs8
    have hL9 : ∀ k ∈ (Fl S8 K).disks, k.waits.length + 3 < 1099511627776 := by
      intro x hx
      have := fl_waits (m := 1099511627773) (fun k hk => by have := hL8 k hk; omega) x hx
      omega
    generalize Fl S8 K = S9 at *
    clear DA8 DB8 hM9
    have hraw9 : V S9 0 (dataOf f) = Sh.secOf y := by
      rw [← hraw8]
      exact raw_same hO9 (by rw [hs8]; exact hfd) (.inr fun h => h)
    clear hO9 hP8 hraw7 hraw8 hc7 hL7 hc8 hL8
    go_wp2_with fail
    refine (place_yes f (by omega) w9).mono ?_
    rintro e w' ⟨rfl, rfl⟩
    go_wp2_with fail
    refine (place_yes f (by omega) w9).mono ?_
    rintro e w' ⟨rfl, rfl⟩
    go_wp2_with fail
    refine (Sh.read_done w9 p 0 (dataOf f) DB9.on.shelf (hc9 0 (by decide)).lt (by rw [hs9]; exact hfd) (hc9 0 (by decide)).why).mono ?_
    rintro e w10 ⟨A10, c10, rfl, y10, s10, o10⟩
    have y10' : Sh.Bytes w9 w10 A10 (Sh.secOf y) := by rw [← hraw9]; exact y10
    have z10 := beside_with DB9 y10'
    have DB10 := DB9.stays s10 o10
    have hc10 : ∀ d, d < 2 → Calm S9.doRead d := fun d hd => ⟨(hc9 d hd).lt, (hc9 d hd).on, (hc9 d hd).left, (hc9 d hd).alive, (hc9 d hd).len⟩
    have hL10 : ∀ z ∈ S9.doRead.disks, z.waits.length + 3 < 1099511627776 := hL9
    have hs10 : S9.doRead.sectors = 40 := hs9
    clear DA9 DB9 y10 y10' s10 o10 hc9 hL9 hraw9
    generalize S9.doRead = S10 at *
    go_wp2_with fail
    refine (wr_of w10 p K (dataOf f) (Sh.secOf y) DB10.on.shelf (hc10 K (by omega)).lt (by rw [hs10]; exact htd) (fun k hk => by have := hL10 k hk; omega) (Sh.secOf_sec hy) z10.1 (fun x hx e => z10.2 x hx (.inl e))).mono ?_
    rintro e w11 ⟨he, hl11⟩
    rw [(hc10 K (by omega)).why] at he
    subst he
    obtain ⟨F11, DB11, hM11⟩ := DB10.goes hl11
    have z11 := z10.moves hM11
    have hO11 : Over S10 K (fun m => m = dataOf f) (Wr S10 K (dataOf f) (Sh.secOf y)) := Over.wr (hc10 K (by omega)) _ _ rfl
    have hd11 : V (Wr S10 K (dataOf f) (Sh.secOf y)) K (dataOf f) = Sh.secOf y := by rw [(hc10 K (by omega)).V_wr, if_pos rfl]
    have hc11 := hO11.calm
    have hs11 : (Wr S10 K (dataOf f) (Sh.secOf y)).sectors = 40 := by rw [wr_sectors]; exact hs10
    have hk11 : f < blk (Wr S10 K (dataOf f) (Sh.secOf y)).sectors := by rw [hs11]; exact hkt
    clear DB10 hl11 hM11 z10 hO11 hc10 hL10
    generalize Wr S10 K (dataOf f) (Sh.secOf y) = S11 at *
    have hsec11 := V_sec DB11.on.shelf hc11.lt (n := sumOf f) (by rw [hs11]; exact hts)
    obtain ⟨g, hg⟩ : ∃ g, goodAt S11 K f = g := ⟨_, rfl⟩
    go_wp2_with fail
    refine (read_done DB11 hT hTB f hk11 hc11.lt hc11.why g hg).mono ?_
    rintro e w12 ⟨hrd, DB12, o12⟩
    have z12 := z11.moves (moves_only o12)
    have hc12 := hc11.looked K
    have hs12 : (Looked S11 K).sectors = 40 := by rw [looked_sectors]; exact hs11
    have hV12 : V (Looked S11 K) K (sumOf f) = V S11 K (sumOf f) := looked_V _ _ _ _
    have hgl : goodL K f (V S11 K (sumOf f)) (Sh.secOf y) = g := by rw [← hg]; unfold goodAt; rw [hd11]
    obtain ⟨vv, ii, rfl, hvi⟩ : ∃ (vv : Value) (ii : Int), e = .returned (.tuple #[vv, .int .i64 ii]) ∧ ((g = true ∧ ii = 0 ∧ ∃ A c, vv = .slice A 128 c) ∨ (g = false ∧ ii = 5 ∧ vv = .slice none 0 0)) := by
      rcases hrd with ⟨h1, A, c, rfl, _⟩ | ⟨h1, rfl⟩
      · exact ⟨_, _, rfl, .inl ⟨h1, rfl, A, c, rfl⟩⟩
      · exact ⟨_, _, rfl, .inr ⟨h1, rfl, rfl⟩⟩
    clear DB11 z11 o12 hd11 hc11 hk11 hrd hg
    have HGL := Lib.hid hgl
    clear hgl
    generalize Looked S11 K = S12 at *
    have hvs : (∃ A c, vv = .slice A 128 c) ∨ vv = .slice none 0 0 := hvi.elim (fun h => .inl h.2.2) (fun h => .inr h.2.2)
    have Hvi := Lib.hid (show (g = true ∧ ii = 0) ∨ (g = false ∧ ii = 5) from hvi.elim (fun h => .inl ⟨h.1, h.2.1⟩) (fun h => .inr ⟨h.1, h.2.1⟩))
    clear hvi
    rcases hvs with ⟨AA, cc, rfl⟩ | rfl
    all_goals
     go_wp2_with fail
     refine (place_yes f (by omega) w12).mono ?_
     rintro e w' ⟨rfl, rfl⟩
     go_wp2_with fail
     refine (Sh.read_done w12 p K (sumOf f) DB12.on.shelf hc12.lt (by rw [hs12]; exact hts) hc12.why).mono ?_
     rintro e w13 ⟨A13, c13, rfl, y13, s13, o13⟩
     have y13' : Sh.Bytes w12 w13 A13 (V S11 K (sumOf f)) := by rw [← hV12]; exact y13
     have x13 := beside_with DB12 y13'
     have z13 := z12.moves (moves_only o13)
     have DB13 := DB12.stays s13 o13
     have tA := Sh.conv_grown (c := c13) x13 rfl w13 (Below.refl _ _)
     have tB := Sh.conv_grown (c := c10) z13 rfl w13 (Below.refl _ _)
     have HGood := Lib.hid (refGood_any K f (by omega) (V S11 K (sumOf f)) (Sh.secOf y) hsec11 (Sh.secOf_sec hy) w13)
     rw [HGL.out] at HGood
     have Z13 := Lib.hid z13
     clear z13 x13 y13 y13' s13 o13 
     go_wp2_with fail
     refine HGood.out.mono ?_
     rintro e w17 ⟨rfl, hb17⟩
     have z17 := Z13.out.grown hb17
     have hfin := Lib.hid (DB13.on.bel.trans (hb17.mono DB13.on.size))
     have hsz := Lib.hid (Nat.le_trans DB13.on.size hb17.size)
     clear tA tB DB13 hb17 HGood
     generalize hsb : Sh.strL (Sh.secOf y) = sb at *
     have HSB := Lib.hid hsb
     have t1 := fun W (hb : Below w17.heap.size w17 W) => Sh.conv_grown (c := c10) z17 HSB.out W hb
     clear z17 hsb
     rcases Hvi.out with ⟨rfl, rfl⟩ | ⟨rfl, rfl⟩
     · go_wp2_with fail
       refine wp_region_held_drew (S := fun W' => Below w17.heap.size w17 W') (by kernel_rfl) ((Below.refl _ _).drew) (fun hHeld => ?_)
       refine wpAnyH_take (i := 0) (oi := ⟨some 195, _, _, _, _, _⟩) (v := ?_) rfl (by kernel_rfl) (by kernel_rfl) (by kernel_rfl) (fun _ _ _ h => h) (Or.inl ⟨by rfl, ?_⟩) (by assumption) ?_
       rotate_left
       · (intro w hSw; (try dsimp only at hSw); go_simp; first | done | with_reducible rfl)
       try simp only [Act.put, List.setIfInBounds_toArray, List.set_cons_zero, List.set_cons_succ]
       refine wpAnyH_take (i := 1) (oi := ⟨some 196, _, _, _, _, _⟩) (v := ?_) rfl (by kernel_rfl) (by kernel_rfl) (by kernel_rfl) (fun _ _ _ h => h) (Or.inl ⟨by rfl, ?_⟩) (by assumption) ?_
       rotate_left
       · (intro w hSw; (try dsimp only at hSw); go_simp; first | done | with_reducible rfl)
       try simp only [Act.put, List.setIfInBounds_toArray, List.set_cons_zero, List.set_cons_succ]
       refine wpAnyH_take (i := 2) (oi := ⟨some 197, _, _, _, _, _⟩) (v := ?_) rfl (by kernel_rfl) (by kernel_rfl) (by kernel_rfl) (fun _ _ _ h => h) (Or.inl ⟨by rfl, ?_⟩) (by assumption) ?_
       rotate_left
       · (intro w hSw; (try dsimp only at hSw); go_simp; first | done | with_reducible rfl)
       try simp only [Act.put, List.setIfInBounds_toArray, List.set_cons_zero, List.set_cons_succ]
       refine wpAnyH_ready (rs := [3]) (by kernel_rfl) (by simp) ?_
       refine AllReadyH.cons (o := ⟨some 198, _, _, _, _, _⟩) rfl (fun K hK => ?_) AllReadyH.nil
       go_simp
       refine (Sh.sector_any _ y hy).mono ?_
       rintro e w18 ⟨rfl, ho18, hb18⟩
       refine hK.out _ _ (hHeld.trans (hb18.mono hHeld.size)) (fun hHeld => ?_)
       clear hK K
       try simp only [Act.put, List.setIfInBounds_toArray, List.set_cons_zero, List.set_cons_succ]
       have hb18' : Below w17.heap.size w17 w18 := hHeld
       clear hHeld t1
       refine Sh.wpAnyH_mono (S' := fun W' => Below w18.heap.size w18 W') (fun W' h => hb18'.trans (h.mono hb18'.size)) _ _ _ _ ?_
       have hHeld : Below w18.heap.size w18 w18 := Below.refl _ _
       have t2 := Sh.conv_own (q := w17.heap.size) ho18 HSB.out
       refine wpAnyH_take (i := 4) (oi := ⟨some 199, _, _, _, _, _⟩) (v := ?_) rfl (by kernel_rfl) (by kernel_rfl) (by kernel_rfl) (fun _ _ _ h => h) (Or.inl ⟨by rfl, ?_⟩) (by assumption) ?_
       rotate_left
       · (intro w hSw; (try dsimp only at hSw); go_simp; first | done | with_reducible rfl)
       try simp only [Act.put, List.setIfInBounds_toArray, List.set_cons_zero, List.set_cons_succ]
       refine wpAnyH_take (i := 5) (oi := ⟨some 200, _, _, _, _, _⟩) (v := ?_) rfl (by kernel_rfl) (by kernel_rfl) (by kernel_rfl) (fun _ _ _ h => h) (Or.inl ⟨by rfl, ?_⟩) (by assumption) ?_
       rotate_left
       · (intro w hSw; (try dsimp only at hSw); go_simp; first | done | with_reducible rfl)
       try simp only [Act.put, List.setIfInBounds_toArray, List.set_cons_zero, List.set_cons_succ]
       refine wpAnyH_take (i := 6) (oi := ⟨some 201, _, _, _, _, _⟩) (v := ?_) rfl (by kernel_rfl) (by kernel_rfl) (by kernel_rfl) (fun _ _ _ h => h) (Or.inl ⟨by rfl, ?_⟩) (by assumption) ?_
       rotate_left
       · (intro w hSw; (try dsimp only at hSw); go_simp; first | done | with_reducible rfl)
       try simp only [Act.put, List.setIfInBounds_toArray, List.set_cons_zero, List.set_cons_succ]
       refine wpAnyH_take (i := 7) (oi := ⟨some 202, _, _, _, _, _⟩) (v := ?_) rfl (by kernel_rfl) (by kernel_rfl) (by kernel_rfl) (fun _ _ _ h => h) (Or.inl ⟨by rfl, ?_⟩) (by assumption) ?_
       rotate_left
       · (intro w hSw; (try dsimp only at hSw); go_simp; first | done | with_reducible rfl)
       try simp only [Act.put, List.setIfInBounds_toArray, List.set_cons_zero, List.set_cons_succ]
       refine wpAnyH_take (i := 8) (oi := ⟨some 203, _, _, _, _, _⟩) (v := ?_) rfl (by kernel_rfl) (by kernel_rfl) (by kernel_rfl) (fun _ _ _ h => h) (Or.inl ⟨by rfl, ?_⟩) (by assumption) ?_
       rotate_left
       · (intro w hSw; (try dsimp only at hSw); go_simp; first | done | with_reducible rfl)
       try simp only [Act.put, List.setIfInBounds_toArray, List.set_cons_zero, List.set_cons_succ]
       refine wpAnyH_take (i := 9) (oi := ⟨some 204, _, _, _, _, _⟩) (v := ?_) rfl (by kernel_rfl) (by kernel_rfl) (by kernel_rfl) (fun _ _ _ h => h) (Or.inl ⟨by rfl, ?_⟩) (by assumption) ?_
       rotate_left
       · (intro w hSw; (try dsimp only at hSw); go_simp; first | done | with_reducible rfl)
       try simp only [Act.put, List.setIfInBounds_toArray, List.set_cons_zero, List.set_cons_succ]
       refine wpAnyH_take (i := 10) (oi := ⟨some 205, _, _, _, _, _⟩) (v := ?_) rfl (by kernel_rfl) (by kernel_rfl) (by kernel_rfl) (fun _ _ _ h => h) (Or.inl ⟨by rfl, ?_⟩) (by assumption) ?_
       rotate_left
       · (intro w hSw; (try dsimp only at hSw); go_simp; first | done | with_reducible rfl)
       try simp only [Act.put, List.setIfInBounds_toArray, List.set_cons_zero, List.set_cons_succ]
       refine wpAnyH_take (i := 11) (oi := ⟨some 206, _, _, _, _, _⟩) (v := ?_) rfl (by kernel_rfl) (by kernel_rfl) (by kernel_rfl) (fun _ _ _ h => h) (Or.inl ⟨by rfl, ?_⟩) (by assumption) ?_
       rotate_left
       · (intro w hSw; (try dsimp only at hSw); go_simp; first | done | with_reducible rfl)
       try simp only [Act.put, List.setIfInBounds_toArray, List.set_cons_zero, List.set_cons_succ]
       refine wpAnyH_take (i := 12) (oi := ⟨some 207, _, _, _, _, _⟩) (v := ?_) rfl (by kernel_rfl) (by kernel_rfl) (by kernel_rfl) (fun _ _ _ h => h) (Or.inl ⟨by rfl, ?_⟩) (by assumption) ?_
       rotate_left
       · (intro w hSw; (try dsimp only at hSw); go_simp; first | done | with_reducible rfl)
       try simp only [Act.put, List.setIfInBounds_toArray, List.set_cons_zero, List.set_cons_succ]
       refine wpAnyH_take (i := 13) (oi := ⟨some 208, _, _, _, _, _⟩) (v := ?_) rfl (by kernel_rfl) (by kernel_rfl) (by kernel_rfl) (fun _ _ _ h => h) (Or.inl ⟨by rfl, ?_⟩) (by assumption) ?_
       rotate_left
       · (intro w hSw; (try dsimp only at hSw); go_simp; first | done | with_reducible rfl)
       try simp only [Act.put, List.setIfInBounds_toArray, List.set_cons_zero, List.set_cons_succ]
       refine wpAnyH_take (i := 14) (oi := ⟨some 209, _, _, _, _, _⟩) (v := ?_) rfl (by kernel_rfl) (by kernel_rfl) (by kernel_rfl) (fun _ _ _ h => h) (Or.inl ⟨by rfl, ?_⟩) (by assumption) ?_
       rotate_left
       · (intro w hSw; (try dsimp only at hSw); go_simp; first | done | with_reducible rfl)
       try simp only [Act.put, List.setIfInBounds_toArray, List.set_cons_zero, List.set_cons_succ]
       refine wpAnyH_take (i := 15) (oi := ⟨some 210, _, _, _, _, _⟩) (v := undef) rfl (by kernel_rfl) (by kernel_rfl) (by kernel_rfl) (fun _ _ _ h => h) (Or.inr ⟨by rfl, rfl⟩) (by assumption) ?_
       try simp only [Act.put, List.setIfInBounds_toArray, List.set_cons_zero, List.set_cons_succ]
       refine wpAnyH_take (i := 16) (oi := ⟨some 211, _, _, _, _, _⟩) (v := undef) rfl (by kernel_rfl) (by kernel_rfl) (by kernel_rfl) (fun _ _ _ h => h) (Or.inr ⟨by rfl, rfl⟩) (by assumption) ?_
       try simp only [Act.put, List.setIfInBounds_toArray, List.set_cons_zero, List.set_cons_succ]
       refine wpAnyH_take (i := 17) (oi := ⟨some 212, _, _, _, _, _⟩) (v := ?_) rfl (by kernel_rfl) (by kernel_rfl) (by kernel_rfl) (fun _ _ _ h => h) (Or.inl ⟨by rfl, ?_⟩) (by assumption) ?_
       rotate_left
       · (intro w hSw; (try dsimp only at hSw); go_simp; first | done | with_reducible rfl)
       try simp only [Act.put, List.setIfInBounds_toArray, List.set_cons_zero, List.set_cons_succ]
       refine wpAnyH_take (i := 18) (oi := ⟨some 213, _, _, _, _, _⟩) (v := ?_) rfl (by kernel_rfl) (by kernel_rfl) (by kernel_rfl) (fun _ _ _ h => h) (Or.inl ⟨by rfl, ?_⟩) (by assumption) ?_
       rotate_left
       · (intro w hSw; (try dsimp only at hSw); go_simp; first | done | with_reducible rfl)
       try simp only [Act.put, List.setIfInBounds_toArray, List.set_cons_zero, List.set_cons_succ]
       refine wpAnyH_take (i := 19) (oi := ⟨some 10, _, _, _, _, _⟩) (v := ?_) rfl (by kernel_rfl) (by kernel_rfl) (by kernel_rfl) (fun _ _ _ h => h) (Or.inl ⟨by rfl, ?_⟩) (by assumption) ?_
       rotate_left
       · (intro w hSw; (try dsimp only at hSw); go_simp; first | done | with_reducible rfl)
       try simp only [Act.put, List.setIfInBounds_toArray, List.set_cons_zero, List.set_cons_succ]
       refine wpAnyH_done (by kernel_rfl) ?_ _
       go_wp2
       go_ret
       exact ⟨rfl, hfin.out.trans (hb18'.mono hsz.out)⟩
     · go_wp2_with fail
       refine wp_region_held_drew (S := fun W' => Below w17.heap.size w17 W') (by kernel_rfl) ((Below.refl _ _).drew) (fun hHeld => ?_)
       refine wpAnyH_take (i := 0) (oi := ⟨some 195, _, _, _, _, _⟩) (v := ?_) rfl (by kernel_rfl) (by kernel_rfl) (by kernel_rfl) (fun _ _ _ h => h) (Or.inl ⟨by rfl, ?_⟩) (by assumption) ?_
       rotate_left
       · (intro w hSw; (try dsimp only at hSw); go_simp; first | done | with_reducible rfl)
       try simp only [Act.put, List.setIfInBounds_toArray, List.set_cons_zero, List.set_cons_succ]
       refine wpAnyH_take (i := 1) (oi := ⟨some 196, _, _, _, _, _⟩) (v := ?_) rfl (by kernel_rfl) (by kernel_rfl) (by kernel_rfl) (fun _ _ _ h => h) (Or.inl ⟨by rfl, ?_⟩) (by assumption) ?_
       rotate_left
       · (intro w hSw; (try dsimp only at hSw); go_simp; first | done | with_reducible rfl)
       try simp only [Act.put, List.setIfInBounds_toArray, List.set_cons_zero, List.set_cons_succ]
       refine wpAnyH_take (i := 2) (oi := ⟨some 197, _, _, _, _, _⟩) (v := ?_) rfl (by kernel_rfl) (by kernel_rfl) (by kernel_rfl) (fun _ _ _ h => h) (Or.inl ⟨by rfl, ?_⟩) (by assumption) ?_
       rotate_left
       · (intro w hSw; (try dsimp only at hSw); go_simp; first | done | with_reducible rfl)
       try simp only [Act.put, List.setIfInBounds_toArray, List.set_cons_zero, List.set_cons_succ]
       refine wpAnyH_ready (rs := [3]) (by kernel_rfl) (by simp) ?_
       refine AllReadyH.cons (o := ⟨some 198, _, _, _, _, _⟩) rfl (fun K hK => ?_) AllReadyH.nil
       go_simp
       refine (Sh.sector_any _ y hy).mono ?_
       rintro e w18 ⟨rfl, ho18, hb18⟩
       refine hK.out _ _ (hHeld.trans (hb18.mono hHeld.size)) (fun hHeld => ?_)
       clear hK K
       try simp only [Act.put, List.setIfInBounds_toArray, List.set_cons_zero, List.set_cons_succ]
       have hb18' : Below w17.heap.size w17 w18 := hHeld
       clear hHeld t1
       refine Sh.wpAnyH_mono (S' := fun W' => Below w18.heap.size w18 W') (fun W' h => hb18'.trans (h.mono hb18'.size)) _ _ _ _ ?_
       have hHeld : Below w18.heap.size w18 w18 := Below.refl _ _
       have t2 := Sh.conv_own (q := w17.heap.size) ho18 HSB.out
       refine wpAnyH_take (i := 4) (oi := ⟨some 199, _, _, _, _, _⟩) (v := ?_) rfl (by kernel_rfl) (by kernel_rfl) (by kernel_rfl) (fun _ _ _ h => h) (Or.inl ⟨by rfl, ?_⟩) (by assumption) ?_
       rotate_left
       · (intro w hSw; (try dsimp only at hSw); go_simp; first | done | with_reducible rfl)
       try simp only [Act.put, List.setIfInBounds_toArray, List.set_cons_zero, List.set_cons_succ]
       refine wpAnyH_take (i := 5) (oi := ⟨some 200, _, _, _, _, _⟩) (v := ?_) rfl (by kernel_rfl) (by kernel_rfl) (by kernel_rfl) (fun _ _ _ h => h) (Or.inl ⟨by rfl, ?_⟩) (by assumption) ?_
       rotate_left
       · (intro w hSw; (try dsimp only at hSw); go_simp; first | done | with_reducible rfl)
       try simp only [Act.put, List.setIfInBounds_toArray, List.set_cons_zero, List.set_cons_succ]
       refine wpAnyH_take (i := 6) (oi := ⟨some 201, _, _, _, _, _⟩) (v := ?_) rfl (by kernel_rfl) (by kernel_rfl) (by kernel_rfl) (fun _ _ _ h => h) (Or.inl ⟨by rfl, ?_⟩) (by assumption) ?_
       rotate_left
       · (intro w hSw; (try dsimp only at hSw); go_simp; first | done | with_reducible rfl)
       try simp only [Act.put, List.setIfInBounds_toArray, List.set_cons_zero, List.set_cons_succ]
       refine wpAnyH_take (i := 7) (oi := ⟨some 202, _, _, _, _, _⟩) (v := ?_) rfl (by kernel_rfl) (by kernel_rfl) (by kernel_rfl) (fun _ _ _ h => h) (Or.inl ⟨by rfl, ?_⟩) (by assumption) ?_
       rotate_left
       · (intro w hSw; (try dsimp only at hSw); go_simp; first | done | with_reducible rfl)
       try simp only [Act.put, List.setIfInBounds_toArray, List.set_cons_zero, List.set_cons_succ]
       refine wpAnyH_take (i := 8) (oi := ⟨some 203, _, _, _, _, _⟩) (v := ?_) rfl (by kernel_rfl) (by kernel_rfl) (by kernel_rfl) (fun _ _ _ h => h) (Or.inl ⟨by rfl, ?_⟩) (by assumption) ?_
       rotate_left
       · (intro w hSw; (try dsimp only at hSw); go_simp; first | done | with_reducible rfl)
       try simp only [Act.put, List.setIfInBounds_toArray, List.set_cons_zero, List.set_cons_succ]
       refine wpAnyH_take (i := 9) (oi := ⟨some 204, _, _, _, _, _⟩) (v := ?_) rfl (by kernel_rfl) (by kernel_rfl) (by kernel_rfl) (fun _ _ _ h => h) (Or.inl ⟨by rfl, ?_⟩) (by assumption) ?_
       rotate_left
       · (intro w hSw; (try dsimp only at hSw); go_simp; first | done | with_reducible rfl)
       try simp only [Act.put, List.setIfInBounds_toArray, List.set_cons_zero, List.set_cons_succ]
       refine wpAnyH_take (i := 10) (oi := ⟨some 205, _, _, _, _, _⟩) (v := ?_) rfl (by kernel_rfl) (by kernel_rfl) (by kernel_rfl) (fun _ _ _ h => h) (Or.inl ⟨by rfl, ?_⟩) (by assumption) ?_
       rotate_left
       · (intro w hSw; (try dsimp only at hSw); go_simp; first | done | with_reducible rfl)
       try simp only [Act.put, List.setIfInBounds_toArray, List.set_cons_zero, List.set_cons_succ]
       refine wpAnyH_take (i := 11) (oi := ⟨some 206, _, _, _, _, _⟩) (v := ?_) rfl (by kernel_rfl) (by kernel_rfl) (by kernel_rfl) (fun _ _ _ h => h) (Or.inl ⟨by rfl, ?_⟩) (by assumption) ?_
       rotate_left
       · (intro w hSw; (try dsimp only at hSw); go_simp; first | done | with_reducible rfl)
       try simp only [Act.put, List.setIfInBounds_toArray, List.set_cons_zero, List.set_cons_succ]
       refine wpAnyH_take (i := 12) (oi := ⟨some 207, _, _, _, _, _⟩) (v := ?_) rfl (by kernel_rfl) (by kernel_rfl) (by kernel_rfl) (fun _ _ _ h => h) (Or.inl ⟨by rfl, ?_⟩) (by assumption) ?_
       rotate_left
       · (intro w hSw; (try dsimp only at hSw); go_simp; first | done | with_reducible rfl)
       try simp only [Act.put, List.setIfInBounds_toArray, List.set_cons_zero, List.set_cons_succ]
       refine wpAnyH_take (i := 13) (oi := ⟨some 208, _, _, _, _, _⟩) (v := ?_) rfl (by kernel_rfl) (by kernel_rfl) (by kernel_rfl) (fun _ _ _ h => h) (Or.inl ⟨by rfl, ?_⟩) (by assumption) ?_
       rotate_left
       · (intro w hSw; (try dsimp only at hSw); go_simp; first | done | with_reducible rfl)
       try simp only [Act.put, List.setIfInBounds_toArray, List.set_cons_zero, List.set_cons_succ]
       refine wpAnyH_take (i := 14) (oi := ⟨some 209, _, _, _, _, _⟩) (v := ?_) rfl (by kernel_rfl) (by kernel_rfl) (by kernel_rfl) (fun _ _ _ h => h) (Or.inl ⟨by rfl, ?_⟩) (by assumption) ?_
       rotate_left
       · (intro w hSw; (try dsimp only at hSw); go_simp; first | done | with_reducible rfl)
       try simp only [Act.put, List.setIfInBounds_toArray, List.set_cons_zero, List.set_cons_succ]
       refine wpAnyH_take (i := 15) (oi := ⟨some 210, _, _, _, _, _⟩) (v := ?_) rfl (by kernel_rfl) (by kernel_rfl) (by kernel_rfl) (fun _ _ _ h => h) (Or.inl ⟨by rfl, ?_⟩) (by assumption) ?_
       rotate_left
       · (intro w hSw; (try dsimp only at hSw); go_simp; first | done | with_reducible rfl)
       try simp only [Act.put, List.setIfInBounds_toArray, List.set_cons_zero, List.set_cons_succ]
       refine wpAnyH_take (i := 16) (oi := ⟨some 211, _, _, _, _, _⟩) (v := ?_) rfl (by kernel_rfl) (by kernel_rfl) (by kernel_rfl) (fun _ _ _ h => h) (Or.inl ⟨by rfl, ?_⟩) (by assumption) ?_
       rotate_left
       · (intro w hSw; (try dsimp only at hSw); go_simp; first | done | with_reducible rfl)
       try simp only [Act.put, List.setIfInBounds_toArray, List.set_cons_zero, List.set_cons_succ]
       refine wpAnyH_take (i := 17) (oi := ⟨some 212, _, _, _, _, _⟩) (v := ?_) rfl (by kernel_rfl) (by kernel_rfl) (by kernel_rfl) (fun _ _ _ h => h) (Or.inl ⟨by rfl, ?_⟩) (by assumption) ?_
       rotate_left
       · (intro w hSw; (try dsimp only at hSw); go_simp; first | done | with_reducible rfl)
       try simp only [Act.put, List.setIfInBounds_toArray, List.set_cons_zero, List.set_cons_succ]
       refine wpAnyH_take (i := 18) (oi := ⟨some 213, _, _, _, _, _⟩) (v := ?_) rfl (by kernel_rfl) (by kernel_rfl) (by kernel_rfl) (fun _ _ _ h => h) (Or.inl ⟨by rfl, ?_⟩) (by assumption) ?_
       rotate_left
       · (intro w hSw; (try dsimp only at hSw); go_simp; first | done | with_reducible rfl)
       try simp only [Act.put, List.setIfInBounds_toArray, List.set_cons_zero, List.set_cons_succ]
       refine wpAnyH_take (i := 19) (oi := ⟨some 10, _, _, _, _, _⟩) (v := ?_) rfl (by kernel_rfl) (by kernel_rfl) (by kernel_rfl) (fun _ _ _ h => h) (Or.inl ⟨by rfl, ?_⟩) (by assumption) ?_
       rotate_left
       · (intro w hSw; (try dsimp only at hSw); go_simp; first | done | with_reducible rfl)
       try simp only [Act.put, List.setIfInBounds_toArray, List.set_cons_zero, List.set_cons_succ]
       refine wpAnyH_done (by kernel_rfl) ?_ _
       go_wp2
       go_ret
       exact ⟨rfl, hfin.out.trans (hb18'.mono hsz.out)⟩
end Go.Proofs.YtjdjpafnakhpcaaDoor.U.sumsMoved
