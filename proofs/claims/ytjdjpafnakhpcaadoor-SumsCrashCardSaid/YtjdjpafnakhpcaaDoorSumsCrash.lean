/-
  SumsCrash is true: behind a crash each block is good, and has what it had at the last flush, or what was written since.
  Conditions: the package-level variables start as the program's text lays them.
-/
import Derived.Test.YtjdjpafnakhpcaaDoorWc
namespace Go.Proofs.YtjdjpafnakhpcaaDoor.U.sumsCrash
open Go.ChangeShapes Go.WideShapes Go.ChangeAt Go.RowKit

set_option maxRecDepth 100000 in
set_option maxHeartbeats 8000000 in
theorem walk {w : World} (A : Option Addr) (nn c : Nat) (f : Nat → Sh.Op6) (hl : Sh.Ops6 w A nn f) (stop : Int) (hs1 : -9223372036854775808 ≤ stop) (hs2 : stop ≤ 9223372036854775807) (B : Option Addr) (bn bc : Nat) (ks : List (List Int)) (hbn : bn ≤ 9223372036854775807) (hk : Sh.KeepIs w (Sh.Old w) B bn ks) (hT : Tabs w) :
    Calls Tryd.prog 6 #[.slice A nn c, .int .i64 stop, .slice B bn bc] w fun e w' => e = .returned (.bool true) ∧ Below w.heap.size w w' := by
  have hTB := hT.size
  have HST := Lib.hid (show ∀ (w1 : World) (p : Nat) (S : Sh.Sf) (F : Nat → Prop), Sh.Shelf w1 p S F → Calls Tryd.prog 27 #[.pointer (some ⟨p, 0, none⟩), .int .i64 stop] w1 fun e w' => e = .returned (.tuple #[]) ∧ Sh.Shelf w' p (S.doStop stop) F ∧ Sh.Only F w1 w' from fun w1 p S F h => Sh.stop_any w1 p stop hs1 hs2 h)
  clear hs1 hs2
  have hnn := hl.1
  have HL := Lib.hid hl
  have HK := Lib.hid hk
  clear hl hk
  go_enter Tryd.func6, Tryd.ntmps6
  go_wp2_with fail
  refine (Sh.new_ok 1 40 w (by decide) (by decide) (by decide) (by decide)).mono ?_
  rintro e w1 ⟨p, F1, rfl, hS, hF, hb⟩
  have a1 : Sh.At w.heap.size w w1 p (Sh.newSf 1 40) F1 := ⟨hS, hF, hb, hb.size⟩
  clear hS hF hb
  go_wp2_with fail
  refine (open_yes 0 a1.shelf (by decide)).mono ?_
  rintro e w2 ⟨rfl, hd, hb⟩
  have D2 := dv_open (a := w1.heap.size) a1 hd hb rfl
  have hc3 : Calm (Sh.newSf 1 40) 0 := calm_new (by decide)
  have HV3 := Lib.hid (show ∀ n, n < 40 → V (Sh.newSf 1 40) 0 n = Sh.noughts from fun n hn => V_new (by decide) hn)
  generalize w1.heap.size = a at *
  clear a1 hd hb
  have hL3 := new_small 1 40
  have hsec3 : (Sh.newSf 1 40).sectors = 40 := rfl
  have HJ3 := Lib.hid (Jn.new (n := 1) (d := 0) (by decide))
  have hZ3 : ∀ k ∈ (Sh.newSf 1 40).disks, k.waits.length ≤ 0 := by intro k hk; have hk : k ∈ List.replicate 1 (Sh.newDk 40) := hk; rw [(List.mem_replicate.1 hk).2]; exact Nat.le_refl 0
  generalize Sh.newSf 1 40 = S3 at *
  have Hsec3 := Lib.hid hsec3
  clear hsec3
  go_wp2_with fail
  refine (lives_true w2 (At.tabs D2.on hT hTB)).mono ?_
  rintro e w3 ⟨rfl, hb3⟩
  have D3 := D2.grown hb3
  clear D2 hb3
  have HCN := Lib.hid (show Calls Tryd.prog 28 #[.pointer (some ⟨a, 0, none⟩)] w3 fun e w8 => e = .returned (.int .i64 37) ∧ ∃ n, w8 = w3.drewN n from by
    have := count_of D3.dev D3.on.shelf (secM_of D3.on.shelf)
    rw [Hsec3.out] at this
    exact this)
  clear hc3 HV3 hL3
  have HZ3 := Lib.hid hZ3
  clear hZ3
  go_wp2_with fail
  refine (HST.out _ _ _ _ D3.on.shelf).mono ?_
  rintro e w4 ⟨rfl, hsh, hon⟩
  have D4 := D3.stays hsh hon
  have HJ4 := Lib.hid (HJ3.out.stop stop)
  have HC4 := Lib.hid (show Calls Tryd.prog 28 #[.pointer (some ⟨a, 0, none⟩)] w4 fun e w8 => e = .returned (.int .i64 37) ∧ ∃ n, w8 = w4.drewN n from by
    have := count_of D4.dev D4.on.shelf (secM_of D4.on.shelf)
    rw [HJ4.out.one.forty] at this
    exact this)
  have HZ4 := Lib.hid (show ∀ k ∈ (S3.doStop stop).disks, k.waits.length ≤ 0 from by
    have : (S3.doStop stop).disks = S3.disks := by unfold Sh.Sf.doStop; split <;> rfl
    rw [this]; exact HZ3.out)
  clear D3 HCN hsh hon HJ3 HZ3 Hsec3
  generalize S3.doStop stop = S4 at *
  go_wp2_with fail
  refine HC4.out.mono ?_
  rintro e w5 ⟨rfl, m5, rfl⟩
  have D5 := D4.grown (drawn (Below.refl _ w4) m5)
  clear D4 HC4
  generalize w4.drewN m5 = w5 at *
  obtain ⟨w6, hmk, hM6, hb6⟩ := make37 w5 (G := With F1 a) (fun _ => [Sh.noughts]) D5.on.size (with_lt D5)
  have hBag := Lib.hid (show Bag w w6 a p w5.heap.size (-1) S4 (fun j => j < 0) (fun _ => [Sh.noughts]) from ⟨F1, D5.grown hb6, by
    have e : (fun j => j < 0) = (fun _ : Nat => False) := by funext j; simp
    rw [e]; exact hM6⟩)
  clear hM6 hb6 D5
  have hq5 : w.heap.size ≤ w5.heap.size := by obtain ⟨F, D, g, off, c, M⟩ := hBag.out; exact M.low
  generalize w5.heap.size = q at *
  go_wp2_with fail
  clear hmk
  go_loopw [12] (fun s12 wr => ∃ k : Nat, k ≤ 37 ∧ s12 = .int .i64 k ∧ Hid (Bag w wr a p q (-1) S4 (fun j => j < k) (fun _ => [Sh.noughts]))) (fun i _ => 37 - (intOf i).toNat)
  case atStart => exact ⟨0, Nat.zero_le _, rfl, hBag⟩
  case round =>
    obtain ⟨k, hk, rfl, hBk⟩ := hrel
    clear hBag
    by_cases hlt : k < 37
    · obtain ⟨w7, hmk, ho7, hb7⟩ := make128 wr
      have HB7 := Lib.hid (hBk.out.grown hb7)
      have HF8 := Lib.hid (HB7.out.fill hlt 9)
      have h8 := (HB7.out.grown ((Below.refl _ w7).alloc (Nat.le_refl _) (.cells #[Sh.sv Sh.noughts] 9))).cell hlt
      obtain ⟨⟨v8, kc⟩, kf⟩ := h8
      clear hBk hb7
      generalize hsn : Sh.strL Sh.noughts = sn at *
      have t1 := Sh.conv_own (q := wr.heap.size) ho7 hsn w7 (Below.refl _ _)
      unfold Sh.sv at *
      rw [hsn] at HF8 kc kf
      have HSN := Lib.hid hsn
      clear hsn ho7
      go_wp2_with fail
      refine ⟨⟨k + 1, by omega, by go_num, HF8⟩, ?_⟩
      simp [intOf]
      omega
    · have hk37 : k = 37 := by omega
      have B2 := Lib.hid (show Bag2 w wr a p q 0 from ⟨-1, S4, _, by have := hBk.out; rw [hk37] at this; exact this, HJ4.out, HZ4.out, fun j _ => ⟨by simp, Nat.le_refl 1⟩⟩)
      clear hk37
      clear hBk HJ4 HZ4
      go_wp2_with fail
      go_loopw [13] (fun s13 wr => ∃ k : Nat, k ≤ nn ∧ k ≤ 500 ∧ s13 = .int .i64 k ∧ Hid (Bag2 w wr a p q k)) (fun i _ => 500 - (intOf i).toNat)
      case atStart => exact ⟨0, Nat.zero_le _, Nat.zero_le _, rfl, B2⟩
      case round =>
        obtain ⟨k, hk, hk2, rfl, hbag⟩ := hrel
        clear B2
        by_cases hlt : k < nn ∧ k < 500
        · obtain ⟨hlt, hlt2⟩ := hlt
          obtain ⟨b0, off0, rfl, hbl, hop⟩ := HL.out.2 (by omega)
          have hop := hop k hlt
          have hbel : Below w.heap.size w wr := by obtain ⟨o, S, may, ⟨F, D, M⟩, _⟩ := hbag.out; exact D.on.bel
          have d0 := (hbel.cell (p := ⟨b0, off0 + k * 5, none⟩) hbl).trans hop.c0
          have d1 := (hbel.cell (p := ⟨b0, off0 + k * 5 + 1, none⟩) hbl).trans hop.c1
          have d3 := (hbel.cell (p := ⟨b0, off0 + k * 5 + 3, none⟩) hbl).trans hop.c3
          have hxx := hop.b3
          clear hop hbel
          generalize (f k).x = xx at *
          generalize (f k).kind = kind at *
          generalize (f k).n = mm at *
          by_cases hk2' : kind = 2
          · subst hk2'
            by_cases hv : 0 ≤ mm ∧ mm < 37
            · obtain ⟨m', rfl⟩ : ∃ m' : Nat, mm = (m' : Int) := ⟨mm.toNat, by omega⟩
              have hm37 : m' < 37 := by omega
              have q1 : ((37 : Int) ≤ (m' : Int)) = False := by simp; omega
              have q2 : (m' : Int) < 37 := by omega
              clear hv
              obtain ⟨o, S, may, ⟨F, D, M⟩, J, Z, L⟩ := hbag.out
              have HD := Lib.hid D
              have HM := Lib.hid M
              have HJ := Lib.hid J
              have HZ := Lib.hid Z
              have HLn := Lib.hid L
              clear D M J Z L hbag
              go_wp2_with fail
              refine (Sh.sector_any wr xx hxx).mono ?_
              rintro e w10 ⟨rfl, ho10, hb10⟩
              have D10 := HD.out.grown hb10
              have y10 := sector_with HD.out ho10
              have HM10 := Lib.hid (HM.out.grown hb10)
              clear ho10 hb10 HD HM
              go_wp2_with fail
              refine (write_jn D10 hT hTB HJ.out m' hm37 (Sh.secOf xx) (Sh.secOf_sec hxx) y10 HZ.out (by omega)).mono ?_
              rintro e w11 ⟨⟨y, rfl⟩, o', S', F', D11, hmv, J11, Z11⟩
              have y11 := y10.moves hmv
              obtain ⟨g, off, cc, M11⟩ := HM10.out.moves hmv
              have HD11 := Lib.hid D11
              have HM11 := Lib.hid M11
              have HJ11 := Lib.hid J11
              have HZ11 := Lib.hid Z11
              have k1 := fun W' (hb : Below w11.heap.size w11 W') => (M11.grown hb).cells m' hm37
              have t2 := fun W hb => Sh.conv_grown (c := 128) y11 rfl W hb
              clear D10 y10 HJ HZ HM10 D11 hmv J11 Z11 M11
              go_wp2_with fail
              have kA := k1 w11 (Below.refl _ _)
              have kB := k1 (w11.alloc (.cells #[.string (Sh.strL (Sh.secOf xx))] 9)) ((Below.refl _ _).alloc (Nat.le_refl _) _)
              have D0 := Lib.hid (HD11.out.grown (w' := w11.drew.alloc (.cells #[Sh.sv (Sh.secOf xx)] 9)) ((Below.refl _ _).drew.alloc (Nat.le_refl _) _))
              have M0 := Lib.hid (HM11.out.grown (w' := w11.drew.alloc (.cells #[Sh.sv (Sh.secOf xx)] 9)) ((Below.refl _ _).drew.alloc (Nat.le_refl _) _))
              have X0 := Lib.hid (show (w11.drew.alloc (.cells #[Sh.sv (Sh.secOf xx)] 9)).cell? ⟨w11.heap.size, 0, none⟩ = some (Sh.sv (Sh.secOf xx)) from cell_of_row _ _ 0 _ _ _ (heap_alloc_new w11.drew _))
              have t3 := t2 w11.drew ((Below.refl _ _).drew)
              clear k1 t2
              have t2 := t3
              clear t3
              refine wp_region_held_drew (S := fun _ => True) (by kernel_rfl) trivial (fun hHeld => ?_)
              refine wpAnyH_take (i := 0) (oi := ⟨some 105, _, _, _, _, _⟩) (v := ?_) rfl (by kernel_rfl) (by kernel_rfl) (by kernel_rfl) (fun _ _ _ h => h) (Or.inl ⟨by rfl, ?_⟩) (by assumption) ?_
              rotate_left
              · (intro w hSw; (try dsimp only at hSw); go_simp; first | done | with_reducible rfl)
              try simp only [Act.put, List.setIfInBounds_toArray, List.set_cons_zero, List.set_cons_succ]
              refine wpAnyH_take (i := 1) (oi := ⟨some 106, _, _, _, _, _⟩) (v := ?_) rfl (by kernel_rfl) (by kernel_rfl) (by kernel_rfl) (fun _ _ _ h => h) (Or.inl ⟨by rfl, ?_⟩) (by assumption) ?_
              rotate_left
              · (intro w hSw; (try dsimp only at hSw); go_simp; first | done | with_reducible rfl)
              try simp only [Act.put, List.setIfInBounds_toArray, List.set_cons_zero, List.set_cons_succ]
              refine wpAnyH_take (i := 2) (oi := ⟨some 107, _, _, _, _, _⟩) (v := ?_) rfl (by kernel_rfl) (by kernel_rfl) (by kernel_rfl) (fun _ _ _ h => h) (Or.inl ⟨by rfl, ?_⟩) (by assumption) ?_
              rotate_left
              · (intro w hSw; (try dsimp only at hSw); go_simp; first | done | with_reducible rfl)
              try simp only [Act.put, List.setIfInBounds_toArray, List.set_cons_zero, List.set_cons_succ]
              refine wpAnyH_take (i := 3) (oi := ⟨some 108, _, _, _, _, _⟩) (v := ?_) rfl (by kernel_rfl) (by kernel_rfl) (by kernel_rfl) (fun _ _ _ h => h) (Or.inl ⟨by rfl, ?_⟩) (by assumption) ?_
              rotate_left
              · (intro w hSw; (try dsimp only at hSw); go_simp; first | done | with_reducible rfl)
              try simp only [Act.put, List.setIfInBounds_toArray, List.set_cons_zero, List.set_cons_succ]
              refine wpAnyH_take (i := 4) (oi := ⟨some 109, _, _, _, _, _⟩) (v := ?_) rfl (by kernel_rfl) (by kernel_rfl) (by kernel_rfl) (fun _ _ _ h => h) (Or.inl ⟨by rfl, ?_⟩) (by assumption) ?_
              rotate_left
              · (intro w hSw; (try dsimp only at hSw); go_simp; first | done | with_reducible rfl)
              try simp only [Act.put, List.setIfInBounds_toArray, List.set_cons_zero, List.set_cons_succ]
              refine wpAnyH_take (i := 6) (oi := ⟨some 111, _, _, _, _, _⟩) (v := ?_) rfl (by kernel_rfl) (by kernel_rfl) (by kernel_rfl) (fun _ _ _ h => h) (Or.inl ⟨by rfl, ?_⟩) (by assumption) ?_
              rotate_left
              · (intro w hSw; (try dsimp only at hSw); go_simp; first | done | with_reducible rfl)
              try simp only [Act.put, List.setIfInBounds_toArray, List.set_cons_zero, List.set_cons_succ]
              refine wpAnyH_ready (rs := [5, 7]) (by kernel_rfl) (by simp) ?_
              refine (AllReadyH.cons (o := ⟨some 110, _, _, _, _, _⟩) rfl (fun K hK => ?_) (AllReadyH.cons (o := ⟨some 112, _, _, _, _, _⟩) rfl (fun K hK => ?_) AllReadyH.nil))
              · go_simp
                refine hK.out _ _ trivial (fun _ => ?_)
                clear hK K
                try simp only [Act.put, List.setIfInBounds_toArray, List.set_cons_zero, List.set_cons_succ]
                refine wpAnyH_ready (rs := [7]) (by kernel_rfl) (by simp) ?_
                refine AllReadyH.cons (o := ⟨some 112, _, _, _, _, _⟩) rfl (fun K hK => ?_) AllReadyH.nil
                go_simp
                refine hK.out _ _ trivial (fun _ => ?_)
                clear hK K
                try simp only [Act.put, List.setIfInBounds_toArray, List.set_cons_zero, List.set_cons_succ]
                refine wpAnyH_ready (rs := [8]) (by kernel_rfl) (by simp) ?_
                refine AllReadyH.cons (o := ⟨some 113, _, _, _, _, _⟩) rfl (fun K hK => ?_) AllReadyH.nil
                go_simp
                refine hK.out _ _ trivial (fun _ => ?_)
                clear hK K
                try simp only [Act.put, List.setIfInBounds_toArray, List.set_cons_zero, List.set_cons_succ]
                refine wpAnyH_ready (rs := [9]) (by kernel_rfl) (by simp) ?_
                refine AllReadyH.cons (o := ⟨some 114, _, _, _, _, _⟩) rfl (fun K hK => ?_) AllReadyH.nil
                rw [if_pos (by rfl)]
                refine wp_append_mids (.tmp 110) (.tmp 113) rfl (g := g m') (off := off m') (n := (may m').length) (c := cc m') (cc := 1) (b := Sh.secOf xx) (l := may m') (ad := ⟨w11.heap.size, 0, none⟩) rfl rfl (M0.out.mid m' hm37) X0.out (by have := (HLn.out m' hm37).2; omega) (fun g' off' c' w12 hm12 hg12 ho12 => ?_)
                refine hK.out _ _ trivial (fun _ => ?_)
                clear hK K
                try simp only [Act.put, List.setIfInBounds_toArray, List.set_cons_zero, List.set_cons_succ]
                refine wpAnyH_take (i := 10) (oi := ⟨some 115, _, _, _, _, _⟩) (v := ?_) rfl (by kernel_rfl) (by kernel_rfl) (by kernel_rfl) (fun _ _ _ h => h) (Or.inl ⟨by rfl, ?_⟩) (by assumption) ?_
                rotate_left
                · (intro w hSw; (try dsimp only at hSw); go_simp; first | done | with_reducible rfl)
                try simp only [Act.put, List.setIfInBounds_toArray, List.set_cons_zero, List.set_cons_succ]
                have HBg := Lib.hid (Bag.append D0.out M0.out hm37 hg12 hm12 ho12)
                have kc := cell_at12 M0.out hm37 hg12
                clear hm12 hg12 ho12
                refine wpAnyH_ready (rs := [11]) (by kernel_rfl) (by simp) ?_
                refine AllReadyH.cons (o := ⟨none, _, _, _, _, _⟩) rfl (fun K hK => ?_) AllReadyH.nil
                go_simp
                refine hK.out _ _ trivial (fun _ => ?_)
                clear hK K
                try simp only [Act.put, List.setIfInBounds_toArray, List.set_cons_zero, List.set_cons_succ]
                refine wpAnyH_done (by kernel_rfl) ?_ _
                clear kc kA kB t2
                have B3 := Lib.hid (show Bag2 w (w12.setCell ⟨q, m', none⟩ (.slice (some ⟨g', off', none⟩) ((may m').length + 1) c')) a p q (k + 1) from ⟨o', S', _, HBg.out, HJ11.out, fun x hx => by have := HZ11.out x hx; omega, grow_len HLn.out⟩)
                clear HBg HJ11 HZ11 HLn D0 M0 X0 HD11 HM11
                go_wp2_with fail
                go_roundw
                case rel => exact ⟨k + 1, by omega, by omega, by go_num, B3⟩
                case measure => simp [intOf]; omega
              · go_simp
                refine hK.out _ _ trivial (fun _ => ?_)
                clear hK K
                try simp only [Act.put, List.setIfInBounds_toArray, List.set_cons_zero, List.set_cons_succ]
                refine wpAnyH_ready (rs := [5, 8]) (by kernel_rfl) (by simp) ?_
                refine (AllReadyH.cons (o := ⟨some 110, _, _, _, _, _⟩) rfl (fun K hK => ?_) (AllReadyH.cons (o := ⟨some 113, _, _, _, _, _⟩) rfl (fun K hK => ?_) AllReadyH.nil))
                · go_simp
                  refine hK.out _ _ trivial (fun _ => ?_)
                  clear hK K
                  try simp only [Act.put, List.setIfInBounds_toArray, List.set_cons_zero, List.set_cons_succ]
                  refine wpAnyH_ready (rs := [8]) (by kernel_rfl) (by simp) ?_
                  refine AllReadyH.cons (o := ⟨some 113, _, _, _, _, _⟩) rfl (fun K hK => ?_) AllReadyH.nil
                  go_simp
                  refine hK.out _ _ trivial (fun _ => ?_)
                  clear hK K
                  try simp only [Act.put, List.setIfInBounds_toArray, List.set_cons_zero, List.set_cons_succ]
                  refine wpAnyH_ready (rs := [9]) (by kernel_rfl) (by simp) ?_
                  refine AllReadyH.cons (o := ⟨some 114, _, _, _, _, _⟩) rfl (fun K hK => ?_) AllReadyH.nil
                  rw [if_pos (by rfl)]
                  refine wp_append_mids (.tmp 110) (.tmp 113) rfl (g := g m') (off := off m') (n := (may m').length) (c := cc m') (cc := 1) (b := Sh.secOf xx) (l := may m') (ad := ⟨w11.heap.size, 0, none⟩) rfl rfl (M0.out.mid m' hm37) X0.out (by have := (HLn.out m' hm37).2; omega) (fun g' off' c' w12 hm12 hg12 ho12 => ?_)
                  refine hK.out _ _ trivial (fun _ => ?_)
                  clear hK K
                  try simp only [Act.put, List.setIfInBounds_toArray, List.set_cons_zero, List.set_cons_succ]
                  refine wpAnyH_take (i := 10) (oi := ⟨some 115, _, _, _, _, _⟩) (v := ?_) rfl (by kernel_rfl) (by kernel_rfl) (by kernel_rfl) (fun _ _ _ h => h) (Or.inl ⟨by rfl, ?_⟩) (by assumption) ?_
                  rotate_left
                  · (intro w hSw; (try dsimp only at hSw); go_simp; first | done | with_reducible rfl)
                  try simp only [Act.put, List.setIfInBounds_toArray, List.set_cons_zero, List.set_cons_succ]
                  have HBg := Lib.hid (Bag.append D0.out M0.out hm37 hg12 hm12 ho12)
                  have kc := cell_at12 M0.out hm37 hg12
                  clear hm12 hg12 ho12
                  refine wpAnyH_ready (rs := [11]) (by kernel_rfl) (by simp) ?_
                  refine AllReadyH.cons (o := ⟨none, _, _, _, _, _⟩) rfl (fun K hK => ?_) AllReadyH.nil
                  go_simp
                  refine hK.out _ _ trivial (fun _ => ?_)
                  clear hK K
                  try simp only [Act.put, List.setIfInBounds_toArray, List.set_cons_zero, List.set_cons_succ]
                  refine wpAnyH_done (by kernel_rfl) ?_ _
                  clear kc kA kB t2
                  have B3 := Lib.hid (show Bag2 w (w12.setCell ⟨q, m', none⟩ (.slice (some ⟨g', off', none⟩) ((may m').length + 1) c')) a p q (k + 1) from ⟨o', S', _, HBg.out, HJ11.out, fun x hx => by have := HZ11.out x hx; omega, grow_len HLn.out⟩)
                  clear HBg HJ11 HZ11 HLn D0 M0 X0 HD11 HM11
                  go_wp2_with fail
                  go_roundw
                  case rel => exact ⟨k + 1, by omega, by omega, by go_num, B3⟩
                  case measure => simp [intOf]; omega
                · go_simp
                  refine hK.out _ _ trivial (fun _ => ?_)
                  clear hK K
                  try simp only [Act.put, List.setIfInBounds_toArray, List.set_cons_zero, List.set_cons_succ]
                  refine wpAnyH_ready (rs := [5]) (by kernel_rfl) (by simp) ?_
                  refine AllReadyH.cons (o := ⟨some 110, _, _, _, _, _⟩) rfl (fun K hK => ?_) AllReadyH.nil
                  go_simp
                  refine hK.out _ _ trivial (fun _ => ?_)
                  clear hK K
                  try simp only [Act.put, List.setIfInBounds_toArray, List.set_cons_zero, List.set_cons_succ]
                  refine wpAnyH_ready (rs := [9]) (by kernel_rfl) (by simp) ?_
                  refine AllReadyH.cons (o := ⟨some 114, _, _, _, _, _⟩) rfl (fun K hK => ?_) AllReadyH.nil
                  rw [if_pos (by rfl)]
                  refine wp_append_mids (.tmp 110) (.tmp 113) rfl (g := g m') (off := off m') (n := (may m').length) (c := cc m') (cc := 1) (b := Sh.secOf xx) (l := may m') (ad := ⟨w11.heap.size, 0, none⟩) rfl rfl (M0.out.mid m' hm37) X0.out (by have := (HLn.out m' hm37).2; omega) (fun g' off' c' w12 hm12 hg12 ho12 => ?_)
                  refine hK.out _ _ trivial (fun _ => ?_)
                  clear hK K
                  try simp only [Act.put, List.setIfInBounds_toArray, List.set_cons_zero, List.set_cons_succ]
                  refine wpAnyH_take (i := 10) (oi := ⟨some 115, _, _, _, _, _⟩) (v := ?_) rfl (by kernel_rfl) (by kernel_rfl) (by kernel_rfl) (fun _ _ _ h => h) (Or.inl ⟨by rfl, ?_⟩) (by assumption) ?_
                  rotate_left
                  · (intro w hSw; (try dsimp only at hSw); go_simp; first | done | with_reducible rfl)
                  try simp only [Act.put, List.setIfInBounds_toArray, List.set_cons_zero, List.set_cons_succ]
                  have HBg := Lib.hid (Bag.append D0.out M0.out hm37 hg12 hm12 ho12)
                  have kc := cell_at12 M0.out hm37 hg12
                  clear hm12 hg12 ho12
                  refine wpAnyH_ready (rs := [11]) (by kernel_rfl) (by simp) ?_
                  refine AllReadyH.cons (o := ⟨none, _, _, _, _, _⟩) rfl (fun K hK => ?_) AllReadyH.nil
                  go_simp
                  refine hK.out _ _ trivial (fun _ => ?_)
                  clear hK K
                  try simp only [Act.put, List.setIfInBounds_toArray, List.set_cons_zero, List.set_cons_succ]
                  refine wpAnyH_done (by kernel_rfl) ?_ _
                  clear kc kA kB t2
                  have B3 := Lib.hid (show Bag2 w (w12.setCell ⟨q, m', none⟩ (.slice (some ⟨g', off', none⟩) ((may m').length + 1) c')) a p q (k + 1) from ⟨o', S', _, HBg.out, HJ11.out, fun x hx => by have := HZ11.out x hx; omega, grow_len HLn.out⟩)
                  clear HBg HJ11 HZ11 HLn D0 M0 X0 HD11 HM11
                  go_wp2_with fail
                  go_roundw
                  case rel => exact ⟨k + 1, by omega, by omega, by go_num, B3⟩
                  case measure => simp [intOf]; omega
            · by_cases h0 : mm < 0
              · have q1 : decide (mm < 0) = true := decide_eq_true h0
                clear hv
                go_wp2_with fail
                refine ⟨⟨k + 1, by omega, by omega, by go_num, Lib.hid hbag.out.next⟩, ?_⟩
                simp [intOf]
                omega
              · have q1 : decide (mm < 0) = false := decide_eq_false h0
                have q2 : decide (mm ≥ 37) = true := decide_eq_true (by omega)
                clear hv
                go_wp2_with fail
                refine ⟨⟨k + 1, by omega, by omega, by go_num, Lib.hid hbag.out.next⟩, ?_⟩
                simp [intOf]
                omega
          · by_cases hk3 : kind = 3
            · subst hk3
              obtain ⟨o, S, may, ⟨F, D, M⟩, J, Z, L⟩ := hbag.out
              have HD := Lib.hid D
              have HM := Lib.hid M
              have HJ := Lib.hid J
              have HZ := Lib.hid Z
              have HLn := Lib.hid L
              clear D M J Z L hbag
              go_wp2_with fail
              refine (flush_jn HD.out HJ.out HZ.out (by omega)).mono ?_
              rintro e w11 ⟨y, rfl, hy, o', S', F', D11, hmv, J11, Z11⟩
              have HB11 := Lib.hid (show Bag w w11 a p q o' S' (fun j => j < 37) may from ⟨F', D11, HM.out.moves hmv⟩)
              have HJ11 := Lib.hid J11
              have HZ11 := Lib.hid Z11
              clear D11 hmv J11 Z11 HD HM HJ HZ
              rcases hy with rfl | rfl
              · have B0 := Lib.hid (show Bag w w11 a p q o' S' (fun j => j < 37) (trimTo may 0) from HB11.out)
                clear HB11
                go_wp2_with fail
                go_loopw [16] (fun s16 wr2 => ∃ j : Nat, j ≤ 37 ∧ s16 = .int .i64 j ∧ Hid (Bag w wr2 a p q o' S' (fun i => i < 37) (trimTo may j))) (fun i _ => 37 - (intOf i).toNat)
                case atStart => exact ⟨0, Nat.zero_le _, rfl, B0⟩
                case round =>
                  obtain ⟨j, hj, rfl, hBj⟩ := hrel
                  clear B0
                  by_cases hlj : j < 37
                  · obtain ⟨F3, D3, g, off, cc, M3⟩ := hBj.out
                    clear hBj
                    obtain ⟨q0, hq0⟩ : ∃ q0, (may j).length = q0 + 1 := ⟨(may j).length - 1, by have := (HLn.out j hlj).1; have h0 : (may j).length ≠ 0 := fun e => this (List.eq_nil_of_length_eq_zero e); omega⟩
                    have e0 : trimTo may j j = may j := by unfold trimTo; simp
                    have kA := M3.cells j hlj
                    have hqc := (M3.mid j hlj).le
                    have kf := M3.free j hlj
                    rw [e0, hq0] at kA hqc
                    have hs1 : (0 : Int) ≤ ((q0 + 1 : Nat) : Int) - 1 := by omega
                    have hq500 : q0 ≤ 600 := by have := (HLn.out j hlj).2; omega
                    have hB4 := Bag.trim D3 M3 hlj (by omega)
                    have hB5 := Bag.trim (D3.grown (w' := wr.drew) ((Below.refl _ _).drew)) (M3.grown (w' := wr.drew) ((Below.refl _ _).drew)) hlj (by omega)
                    rw [hq0] at hB4 hB5
                    simp only [Nat.add_sub_cancel] at hB4 hB5
                    have B4 := Lib.hid (hB4.grown ((Below.refl _ _).drew))
                    have B5 := Lib.hid hB5
                    clear hB4 hB5
                    have hwq : IntKind.i64.wrap (q0 : Int) = (q0 : Int) := IntWalk.i64_in _ ⟨by omega, by omega⟩
                    have hc1 : (q0 : Int) ≤ (q0 : Int) + 1 := by omega
                    have hcq : (cc j = q0) = False := by simp; omega
                    have q3 : (j : Int) < 37 := by omega
                    clear D3 M3 e0 hq0
                    generalize g j = gj at *
                    generalize off j = offj at *
                    generalize cc j = cj at *
                    go_wp2_with fail
                    refine wp_region_held_drew (S := fun _ => True) (by kernel_rfl) trivial (fun hHeld => ?_)
                    refine wpAnyH_take (i := 0) (oi := ⟨some 127, _, _, _, _, _⟩) (v := ?_) rfl (by kernel_rfl) (by kernel_rfl) (by kernel_rfl) (fun _ _ _ h => h) (Or.inl ⟨by rfl, ?_⟩) (by assumption) ?_
                    rotate_left
                    · (intro w hSw; (try dsimp only at hSw); go_simp; first | done | with_reducible rfl)
                    try simp only [Act.put, List.setIfInBounds_toArray, List.set_cons_zero, List.set_cons_succ]
                    refine wpAnyH_take (i := 1) (oi := ⟨some 128, _, _, _, _, _⟩) (v := ?_) rfl (by kernel_rfl) (by kernel_rfl) (by kernel_rfl) (fun _ _ _ h => h) (Or.inl ⟨by rfl, ?_⟩) (by assumption) ?_
                    rotate_left
                    · (intro w hSw; (try dsimp only at hSw); go_simp; first | done | with_reducible rfl)
                    try simp only [Act.put, List.setIfInBounds_toArray, List.set_cons_zero, List.set_cons_succ]
                    refine wpAnyH_take (i := 2) (oi := ⟨some 129, _, _, _, _, _⟩) (v := ?_) rfl (by kernel_rfl) (by kernel_rfl) (by kernel_rfl) (fun _ _ _ h => h) (Or.inl ⟨by rfl, ?_⟩) (by assumption) ?_
                    rotate_left
                    · (intro w hSw; (try dsimp only at hSw); go_simp; first | done | with_reducible rfl)
                    try simp only [Act.put, List.setIfInBounds_toArray, List.set_cons_zero, List.set_cons_succ]
                    refine wpAnyH_take (i := 3) (oi := ⟨some 130, _, _, _, _, _⟩) (v := ?_) rfl (by kernel_rfl) (by kernel_rfl) (by kernel_rfl) (fun _ _ _ h => h) (Or.inl ⟨by rfl, ?_⟩) (by assumption) ?_
                    rotate_left
                    · (intro w hSw; (try dsimp only at hSw); go_simp; first | done | with_reducible rfl)
                    try simp only [Act.put, List.setIfInBounds_toArray, List.set_cons_zero, List.set_cons_succ]
                    refine wpAnyH_take (i := 4) (oi := ⟨some 131, _, _, _, _, _⟩) (v := ?_) rfl (by kernel_rfl) (by kernel_rfl) (by kernel_rfl) (fun _ _ _ h => h) (Or.inl ⟨by rfl, ?_⟩) (by assumption) ?_
                    rotate_left
                    · (intro w hSw; (try dsimp only at hSw); go_simp; first | done | with_reducible rfl)
                    try simp only [Act.put, List.setIfInBounds_toArray, List.set_cons_zero, List.set_cons_succ]
                    refine wpAnyH_take (i := 6) (oi := ⟨some 133, _, _, _, _, _⟩) (v := ?_) rfl (by kernel_rfl) (by kernel_rfl) (by kernel_rfl) (fun _ _ _ h => h) (Or.inl ⟨by rfl, ?_⟩) (by assumption) ?_
                    rotate_left
                    · (intro w hSw; (try dsimp only at hSw); go_simp; first | done | with_reducible rfl)
                    try simp only [Act.put, List.setIfInBounds_toArray, List.set_cons_zero, List.set_cons_succ]
                    refine wpAnyH_take (i := 7) (oi := ⟨some 134, _, _, _, _, _⟩) (v := ?_) rfl (by kernel_rfl) (by kernel_rfl) (by kernel_rfl) (fun _ _ _ h => h) (Or.inl ⟨by rfl, ?_⟩) (by assumption) ?_
                    rotate_left
                    · (intro w hSw; (try dsimp only at hSw); go_simp; first | done | with_reducible rfl)
                    try simp only [Act.put, List.setIfInBounds_toArray, List.set_cons_zero, List.set_cons_succ]
                    refine wpAnyH_take (i := 8) (oi := ⟨some 135, _, _, _, _, _⟩) (v := ?_) rfl (by kernel_rfl) (by kernel_rfl) (by kernel_rfl) (fun _ _ _ h => h) (Or.inl ⟨by rfl, ?_⟩) (by assumption) ?_
                    rotate_left
                    · (intro w hSw; (try dsimp only at hSw); go_simp; first | done | with_reducible rfl)
                    try simp only [Act.put, List.setIfInBounds_toArray, List.set_cons_zero, List.set_cons_succ]
                    refine wpAnyH_ready (rs := [5, 9]) (by kernel_rfl) (by simp) ?_
                    refine (AllReadyH.cons (o := ⟨some 132, _, _, _, _, _⟩) rfl (fun K hK => ?_) (AllReadyH.cons (o := ⟨some 136, _, _, _, _, _⟩) rfl (fun K hK => ?_) AllReadyH.nil))
                    · go_simp
                      refine hK.out _ _ trivial (fun _ => ?_)
                      clear hK K
                      try simp only [Act.put, List.setIfInBounds_toArray, List.set_cons_zero, List.set_cons_succ]
                      refine wpAnyH_ready (rs := [9]) (by kernel_rfl) (by simp) ?_
                      refine AllReadyH.cons (o := ⟨some 136, _, _, _, _, _⟩) rfl (fun K hK => ?_) AllReadyH.nil
                      go_simp
                      refine hK.out _ _ trivial (fun _ => ?_)
                      clear hK K
                      try simp only [Act.put, List.setIfInBounds_toArray, List.set_cons_zero, List.set_cons_succ]
                      refine wpAnyH_take (i := 10) (oi := ⟨some 137, _, _, _, _, _⟩) (v := ?_) rfl (by kernel_rfl) (by kernel_rfl) (by kernel_rfl) (fun _ _ _ h => h) (Or.inl ⟨by rfl, ?_⟩) (by assumption) ?_
                      rotate_left
                      · (intro w hSw; (try dsimp only at hSw); go_simp; first | done | with_reducible rfl)
                      try simp only [Act.put, List.setIfInBounds_toArray, List.set_cons_zero, List.set_cons_succ]
                      refine wpAnyH_take (i := 11) (oi := ⟨some 138, _, _, _, _, _⟩) (v := ?_) rfl (by kernel_rfl) (by kernel_rfl) (by kernel_rfl) (fun _ _ _ h => h) (Or.inl ⟨by rfl, ?_⟩) (by assumption) ?_
                      rotate_left
                      · (intro w hSw; (try dsimp only at hSw); go_simp; first | done | with_reducible rfl)
                      try simp only [Act.put, List.setIfInBounds_toArray, List.set_cons_zero, List.set_cons_succ]
                      refine wpAnyH_take (i := 12) (oi := ⟨some 139, _, _, _, _, _⟩) (v := ?_) rfl (by kernel_rfl) (by kernel_rfl) (by kernel_rfl) (fun _ _ _ h => h) (Or.inl ⟨by rfl, ?_⟩) (by assumption) ?_
                      rotate_left
                      · (intro w hSw; (try dsimp only at hSw); go_simp; first | done | with_reducible rfl)
                      try simp only [Act.put, List.setIfInBounds_toArray, List.set_cons_zero, List.set_cons_succ]
                      refine wpAnyH_take (i := 13) (oi := ⟨some 140, _, _, _, _, _⟩) (v := ?_) rfl (by kernel_rfl) (by kernel_rfl) (by kernel_rfl) (fun _ _ _ h => h) (Or.inl ⟨by rfl, ?_⟩) (by assumption) ?_
                      rotate_left
                      · (intro w hSw; (try dsimp only at hSw); go_simp; first | done | with_reducible rfl)
                      try simp only [Act.put, List.setIfInBounds_toArray, List.set_cons_zero, List.set_cons_succ]
                      refine wpAnyH_ready (rs := [14]) (by kernel_rfl) (by simp) ?_
                      refine AllReadyH.cons (o := ⟨none, _, _, _, _, _⟩) rfl (fun K hK => ?_) AllReadyH.nil
                      go_simp
                      refine hK.out _ _ trivial (fun _ => ?_)
                      clear hK K
                      try simp only [Act.put, List.setIfInBounds_toArray, List.set_cons_zero, List.set_cons_succ]
                      refine wpAnyH_done (by kernel_rfl) ?_ _
                      go_wp2_with fail
                      refine ⟨⟨j + 1, by omega, by go_num, by first | exact B4 | exact B5⟩, ?_⟩
                      simp [intOf]
                      omega
                    · go_simp
                      refine hK.out _ _ trivial (fun _ => ?_)
                      clear hK K
                      try simp only [Act.put, List.setIfInBounds_toArray, List.set_cons_zero, List.set_cons_succ]
                      refine wpAnyH_take (i := 10) (oi := ⟨some 137, _, _, _, _, _⟩) (v := ?_) rfl (by kernel_rfl) (by kernel_rfl) (by kernel_rfl) (fun _ _ _ h => h) (Or.inl ⟨by rfl, ?_⟩) (by assumption) ?_
                      rotate_left
                      · (intro w hSw; (try dsimp only at hSw); go_simp; first | done | with_reducible rfl)
                      try simp only [Act.put, List.setIfInBounds_toArray, List.set_cons_zero, List.set_cons_succ]
                      refine wpAnyH_take (i := 11) (oi := ⟨some 138, _, _, _, _, _⟩) (v := ?_) rfl (by kernel_rfl) (by kernel_rfl) (by kernel_rfl) (fun _ _ _ h => h) (Or.inl ⟨by rfl, ?_⟩) (by assumption) ?_
                      rotate_left
                      · (intro w hSw; (try dsimp only at hSw); go_simp; first | done | with_reducible rfl)
                      try simp only [Act.put, List.setIfInBounds_toArray, List.set_cons_zero, List.set_cons_succ]
                      refine wpAnyH_ready (rs := [5]) (by kernel_rfl) (by simp) ?_
                      refine AllReadyH.cons (o := ⟨some 132, _, _, _, _, _⟩) rfl (fun K hK => ?_) AllReadyH.nil
                      go_simp
                      refine hK.out _ _ trivial (fun _ => ?_)
                      clear hK K
                      try simp only [Act.put, List.setIfInBounds_toArray, List.set_cons_zero, List.set_cons_succ]
                      refine wpAnyH_take (i := 12) (oi := ⟨some 139, _, _, _, _, _⟩) (v := ?_) rfl (by kernel_rfl) (by kernel_rfl) (by kernel_rfl) (fun _ _ _ h => h) (Or.inl ⟨by rfl, ?_⟩) (by assumption) ?_
                      rotate_left
                      · (intro w hSw; (try dsimp only at hSw); go_simp; first | done | with_reducible rfl)
                      try simp only [Act.put, List.setIfInBounds_toArray, List.set_cons_zero, List.set_cons_succ]
                      refine wpAnyH_take (i := 13) (oi := ⟨some 140, _, _, _, _, _⟩) (v := ?_) rfl (by kernel_rfl) (by kernel_rfl) (by kernel_rfl) (fun _ _ _ h => h) (Or.inl ⟨by rfl, ?_⟩) (by assumption) ?_
                      rotate_left
                      · (intro w hSw; (try dsimp only at hSw); go_simp; first | done | with_reducible rfl)
                      try simp only [Act.put, List.setIfInBounds_toArray, List.set_cons_zero, List.set_cons_succ]
                      refine wpAnyH_ready (rs := [14]) (by kernel_rfl) (by simp) ?_
                      refine AllReadyH.cons (o := ⟨none, _, _, _, _, _⟩) rfl (fun K hK => ?_) AllReadyH.nil
                      go_simp
                      refine hK.out _ _ trivial (fun _ => ?_)
                      clear hK K
                      try simp only [Act.put, List.setIfInBounds_toArray, List.set_cons_zero, List.set_cons_succ]
                      refine wpAnyH_done (by kernel_rfl) ?_ _
                      go_wp2_with fail
                      refine ⟨⟨j + 1, by omega, by go_num, by first | exact B4 | exact B5⟩, ?_⟩
                      simp [intOf]
                      omega
                  · have hB37 := hBj.out
                    have hj37 : j = 37 := by omega
                    rw [hj37] at hB37
                    have B3 := Lib.hid (show Bag2 w wr a p q (k + 1) from ⟨o', S', _, hB37.congr trim37, HJ11.out, fun x hx => by have := HZ11.out x hx; omega, trim_len HLn.out⟩)
                    clear hB37 hj37
                    go_wp2_with fail
                    refine ⟨⟨k + 1, by omega, by omega, by go_num, B3⟩, ?_⟩
                    simp [intOf]
                    omega
              · have B3 := Lib.hid (show Bag2 w w11 a p q (k + 1) from ⟨o', S', _, HB11.out, by have := HJ11.out; simpa using this, fun x hx => by have := HZ11.out x hx; omega, fun j hj => ⟨(HLn.out j hj).1, by have := (HLn.out j hj).2; omega⟩⟩)
                clear HB11 HJ11 HZ11 HLn
                go_wp2_with fail
                refine ⟨⟨k + 1, by omega, by omega, by go_num, B3⟩, ?_⟩
                simp [intOf]
                omega
            · have hq2 : (kind == 2) = false := by rw [beq_eq_false_iff_ne]; exact hk2'
              have hq3 : (kind == 3) = false := by rw [beq_eq_false_iff_ne]; exact hk3
              clear hk2' hk3
              go_wp2_with fail
              refine ⟨⟨k + 1, by omega, by omega, by go_num, Lib.hid hbag.out.next⟩, ?_⟩
              simp [intOf]
              omega
        · by_cases h1 : k < nn
          · have h2 : 500 ≤ k := by omega
            have hqe : decide ((k : Int) < 500) = false := by simp; omega
            clear hlt
            obtain ⟨o, S, may, ⟨F, D, M⟩, J, Z, L⟩ := hbag.out
            have HJc := Lib.hid (J.crash ks)
            have hZ1 : ∀ x ∈ S.disks, x.waits.length < 1099511627776 := fun x hx => by have := Z x hx; omega
            have hd0 : 0 < (S.crash ks).disks.length := by rw [Sh.crash_length]; exact J.one.lt
            have HD := Lib.hid D
            have HM := Lib.hid M
            have HLn := Lib.hid L
            clear D M J Z L hbag
            go_wp2_with fail
            refine (Sh.crash_of rfl HD.out.on B bn bc HK.out hbn hZ1).mono ?_
            rintro e w7 ⟨rfl, hlf⟩
            obtain ⟨F7, D7, hmv⟩ := HD.out.goes hlf
            have HM7 := Lib.hid (HM.out.moves hmv)
            have HD7 := Lib.hid D7
            clear hZ1 hlf hmv D7 HD HM
            generalize S.crash ks = S7 at *
            go_wp2_with fail
            refine (open_yes 0 HD7.out.on.shelf hd0).mono ?_
            rintro e w8 ⟨rfl, hd, hb⟩
            have D8 := dv_open (a := w7.heap.size) HD7.out.on hd hb rfl
            have M8 : May w8 w.heap.size q (With F7 w7.heap.size) (fun j => j < 37) may := HM7.out.opened hb (Nat.le_refl _)
            have B8 := Lib.hid (show Bag4 w w8 w7.heap.size p q may from ⟨S7, F7, D8, M8, HJc.out⟩)
            clear D8 M8 HJc HD7 HM7 hd hb hd0
            generalize w7.heap.size = a8 at *
            go_wp2_with fail
            go_loopw [19] (fun s19 wr => ∃ j : Nat, j ≤ 37 ∧ s19 = .int .i64 j ∧ Hid (Bag4 w wr a8 p q may)) (fun i _ => 37 - (intOf i).toNat)
            case atStart => exact ⟨0, Nat.zero_le _, rfl, B8⟩
            case round =>
              obtain ⟨j, hj, rfl, hB⟩ := hrel
              clear B8
              by_cases hlj : j < 37
              · obtain ⟨S9, F9, D9, M9, f1, f2, f3⟩ := hB.out
                obtain ⟨hg, hv⟩ := f3 j hlj
                have HM9 := Lib.hid M9
                have HF9 := Lib.hid (show Fine S9 may from ⟨f1, f2, f3⟩)
                clear hB f3 M9
                go_wp2_with fail
                refine (read_calm D9 hT hTB f1 j (by rw [f2]; exact hlj) hg).mono ?_
                rintro e w10 ⟨A10, c10, rfl, y10, D10, o10⟩
                have y10' := beside_with D9 y10
                have HB10 := Lib.hid (show Bag4 w w10 a8 p q may from ⟨_, F9, D10, HM9.out.moves (moves_only o10), HF9.out.looked⟩)
                obtain ⟨g, off, cc, M10⟩ := HM9.out.moves (moves_only o10)
                have hlen := (HLn.out j hlj).2
                have q3 : (j : Int) < 37 := by omega
                have k1 := fun W' (hb : Below w10.heap.size w10 W') => (M10.grown hb).cells j hlj
                have HK2 := Lib.hid (fun i (hi : i < (may j).length) W' (hb : Below w10.heap.size w10 W') => ((M10.grown hb).mid j hlj).at_ i hi)
                clear D9 y10 D10 o10 HM9 HF9 f1 f2 hg M10
                generalize V S9 0 (dataOf j) = v at *
                generalize hsv : Sh.strL v = sv at *
                have t1 := fun W hb => Sh.conv_grown (c := c10) y10' hsv W hb
                have HV := Lib.hid (show ∃ i, i < (may j).length ∧ (Sh.strL ((may j).getD i [])).toList = sv.toList from by
                  obtain ⟨i, hi, e⟩ := List.mem_iff_getElem.1 hv
                  exact ⟨i, hi, by rw [← hsv, ← e]; simp [List.getD, hi]⟩)
                clear hv hsv y10'
                generalize may j = l at *
                generalize g j = gj at *
                generalize off j = offj at *
                generalize cc j = cj at *
                go_wp2_with fail
                go_loopw [22, 23] (fun s22 s23 wr2 => ∃ (i : Nat) (b : Bool), i ≤ l.length ∧ s22 = .bool b ∧ s23 = .int .i64 i ∧ Hid (Below w10.heap.size w10 wr2 ∧ (b = true ∨ ∀ x, x < i → (Sh.strL (l.getD x [])).toList ≠ sv.toList))) (fun _ i _ => l.length - (intOf i).toNat)
                case atStart => exact ⟨0, false, Nat.zero_le _, rfl, rfl, Lib.hid ⟨Below.refl _ _, .inr fun x hx => absurd hx (by omega)⟩⟩
                case round =>
                  obtain ⟨i, b, hi, rfl, rfl, hbw⟩ := hrel
                  have hbel := hbw.out.1
                  have kA := k1 wr hbel
                  by_cases hli : i < l.length
                  · have q4 : (i : Int) < (l.length : Int) := by omega
                    have m1 := fun W' (hb : Below wr.heap.size wr W') => HK2.out i hli W' (Sh.below_on hbel hb)
                    have k2 := fun W' (hb : Below wr.heap.size wr W') => k1 W' (Sh.below_on hbel hb)
                    have t2 := fun W' (hb : Below wr.heap.size wr W') => t1 W' (Sh.below_on hbel hb)
                    have hbd := Lib.hid (show Below w10.heap.size w10 wr.drew from Sh.below_on hbel ((Below.refl _ _).drew))
                    have hno := Lib.hid hbw.out.2
                    have HD := Lib.hid (show ∀ y, Sh.strL (l.getD i []) = y → Sh.strL (l.getD i []) = y from fun _ h => h)
                    unfold Sh.sv at m1
                    clear hbw hbel k1 t1
                    generalize hyy : Sh.strL (l.getD i []) = sy at *
                    have HYY := Lib.hid hyy
                    clear hyy HD
                    obtain ⟨qq, hqq⟩ : ∃ qq, (sv.toList == sy.toList) = qq := ⟨_, rfl⟩
                    have HQ := Lib.hid hqq
                    have l18 : l.length ≤ 9223372036854775807 := by omega
                    cases b with
                    | true =>
                      go_wp2_with fail
                      refine wp_region_held_drew (S := fun W' => Below wr.heap.size wr W') (by kernel_rfl) ((Below.refl _ _).drew) (fun hHeld => ?_)
                      refine wpAnyH_take (i := 0) (oi := ⟨some 178, _, _, _, _, _⟩) (v := ?_) rfl (by kernel_rfl) (by kernel_rfl) (by kernel_rfl) (fun _ _ _ h => h) (Or.inl ⟨by rfl, ?_⟩) (by assumption) ?_
                      rotate_left
                      · (intro w hSw; (try dsimp only at hSw); go_simp; first | done | with_reducible rfl)
                      try simp only [Act.put, List.setIfInBounds_toArray, List.set_cons_zero, List.set_cons_succ]
                      refine wpAnyH_take (i := 1) (oi := ⟨some 179, _, _, _, _, _⟩) (v := ?_) rfl (by kernel_rfl) (by kernel_rfl) (by kernel_rfl) (fun _ _ _ h => h) (Or.inl ⟨by rfl, ?_⟩) (by assumption) ?_
                      rotate_left
                      · (intro w hSw; (try dsimp only at hSw); go_simp; first | done | with_reducible rfl)
                      try simp only [Act.put, List.setIfInBounds_toArray, List.set_cons_zero, List.set_cons_succ]
                      refine wpAnyH_take (i := 2) (oi := ⟨some 180, _, _, _, _, _⟩) (v := undef) rfl (by kernel_rfl) (by kernel_rfl) (by kernel_rfl) (fun _ _ _ h => h) (Or.inr ⟨by rfl, rfl⟩) (by assumption) ?_
                      try simp only [Act.put, List.setIfInBounds_toArray, List.set_cons_zero, List.set_cons_succ]
                      refine wpAnyH_take (i := 3) (oi := ⟨some 181, _, _, _, _, _⟩) (v := undef) rfl (by kernel_rfl) (by kernel_rfl) (by kernel_rfl) (fun _ _ _ h => h) (Or.inr ⟨by rfl, rfl⟩) (by assumption) ?_
                      try simp only [Act.put, List.setIfInBounds_toArray, List.set_cons_zero, List.set_cons_succ]
                      refine wpAnyH_take (i := 4) (oi := ⟨some 182, _, _, _, _, _⟩) (v := undef) rfl (by kernel_rfl) (by kernel_rfl) (by kernel_rfl) (fun _ _ _ h => h) (Or.inr ⟨by rfl, rfl⟩) (by assumption) ?_
                      try simp only [Act.put, List.setIfInBounds_toArray, List.set_cons_zero, List.set_cons_succ]
                      refine wpAnyH_take (i := 5) (oi := ⟨some 183, _, _, _, _, _⟩) (v := undef) rfl (by kernel_rfl) (by kernel_rfl) (by kernel_rfl) (fun _ _ _ h => h) (Or.inr ⟨by rfl, rfl⟩) (by assumption) ?_
                      try simp only [Act.put, List.setIfInBounds_toArray, List.set_cons_zero, List.set_cons_succ]
                      refine wpAnyH_take (i := 6) (oi := ⟨some 184, _, _, _, _, _⟩) (v := undef) rfl (by kernel_rfl) (by kernel_rfl) (by kernel_rfl) (fun _ _ _ h => h) (Or.inr ⟨by rfl, rfl⟩) (by assumption) ?_
                      try simp only [Act.put, List.setIfInBounds_toArray, List.set_cons_zero, List.set_cons_succ]
                      refine wpAnyH_take (i := 7) (oi := ⟨some 185, _, _, _, _, _⟩) (v := undef) rfl (by kernel_rfl) (by kernel_rfl) (by kernel_rfl) (fun _ _ _ h => h) (Or.inr ⟨by rfl, rfl⟩) (by assumption) ?_
                      try simp only [Act.put, List.setIfInBounds_toArray, List.set_cons_zero, List.set_cons_succ]
                      refine wpAnyH_take (i := 8) (oi := ⟨some 186, _, _, _, _, _⟩) (v := undef) rfl (by kernel_rfl) (by kernel_rfl) (by kernel_rfl) (fun _ _ _ h => h) (Or.inr ⟨by rfl, rfl⟩) (by assumption) ?_
                      try simp only [Act.put, List.setIfInBounds_toArray, List.set_cons_zero, List.set_cons_succ]
                      refine wpAnyH_take (i := 9) (oi := ⟨some 187, _, _, _, _, _⟩) (v := undef) rfl (by kernel_rfl) (by kernel_rfl) (by kernel_rfl) (fun _ _ _ h => h) (Or.inr ⟨by rfl, rfl⟩) (by assumption) ?_
                      try simp only [Act.put, List.setIfInBounds_toArray, List.set_cons_zero, List.set_cons_succ]
                      refine wpAnyH_take (i := 10) (oi := ⟨some 188, _, _, _, _, _⟩) (v := undef) rfl (by kernel_rfl) (by kernel_rfl) (by kernel_rfl) (fun _ _ _ h => h) (Or.inr ⟨by rfl, rfl⟩) (by assumption) ?_
                      try simp only [Act.put, List.setIfInBounds_toArray, List.set_cons_zero, List.set_cons_succ]
                      refine wpAnyH_take (i := 11) (oi := ⟨some 189, _, _, _, _, _⟩) (v := undef) rfl (by kernel_rfl) (by kernel_rfl) (by kernel_rfl) (fun _ _ _ h => h) (Or.inr ⟨by rfl, rfl⟩) (by assumption) ?_
                      try simp only [Act.put, List.setIfInBounds_toArray, List.set_cons_zero, List.set_cons_succ]
                      refine wpAnyH_take (i := 12) (oi := ⟨some 190, _, _, _, _, _⟩) (v := ?_) rfl (by kernel_rfl) (by kernel_rfl) (by kernel_rfl) (fun _ _ _ h => h) (Or.inl ⟨by rfl, ?_⟩) (by assumption) ?_
                      rotate_left
                      · (intro w hSw; (try dsimp only at hSw); go_simp; first | done | with_reducible rfl)
                      try simp only [Act.put, List.setIfInBounds_toArray, List.set_cons_zero, List.set_cons_succ]
                      refine wpAnyH_take (i := 13) (oi := ⟨some 22, _, _, _, _, _⟩) (v := ?_) rfl (by kernel_rfl) (by kernel_rfl) (by kernel_rfl) (fun _ _ _ h => h) (Or.inl ⟨by rfl, ?_⟩) (by assumption) ?_
                      rotate_left
                      · (intro w hSw; (try dsimp only at hSw); go_simp; first | done | with_reducible rfl)
                      try simp only [Act.put, List.setIfInBounds_toArray, List.set_cons_zero, List.set_cons_succ]
                      refine wpAnyH_done (by kernel_rfl) ?_ _
                      go_wp2_with fail
                      refine ⟨⟨i + 1, true, by omega, rfl, by go_num, Lib.hid ⟨hbd.out, .inl rfl⟩⟩, ?_⟩
                      simp [intOf]
                      omega
                    | false =>
                      go_wp2_with fail
                      refine wp_region_held_drew (S := fun W' => Below wr.heap.size wr W') (by kernel_rfl) ((Below.refl _ _).drew) (fun hHeld => ?_)
                      refine wpAnyH_take (i := 0) (oi := ⟨some 178, _, _, _, _, _⟩) (v := ?_) rfl (by kernel_rfl) (by kernel_rfl) (by kernel_rfl) (fun _ _ _ h => h) (Or.inl ⟨by rfl, ?_⟩) (by assumption) ?_
                      rotate_left
                      · (intro w hSw; (try dsimp only at hSw); go_simp; first | done | with_reducible rfl)
                      try simp only [Act.put, List.setIfInBounds_toArray, List.set_cons_zero, List.set_cons_succ]
                      refine wpAnyH_take (i := 1) (oi := ⟨some 179, _, _, _, _, _⟩) (v := ?_) rfl (by kernel_rfl) (by kernel_rfl) (by kernel_rfl) (fun _ _ _ h => h) (Or.inl ⟨by rfl, ?_⟩) (by assumption) ?_
                      rotate_left
                      · (intro w hSw; (try dsimp only at hSw); go_simp; first | done | with_reducible rfl)
                      try simp only [Act.put, List.setIfInBounds_toArray, List.set_cons_zero, List.set_cons_succ]
                      refine wpAnyH_take (i := 2) (oi := ⟨some 180, _, _, _, _, _⟩) (v := ?_) rfl (by kernel_rfl) (by kernel_rfl) (by kernel_rfl) (fun _ _ _ h => h) (Or.inl ⟨by rfl, ?_⟩) (by assumption) ?_
                      rotate_left
                      · (intro w hSw; (try dsimp only at hSw); go_simp; first | done | with_reducible rfl)
                      try simp only [Act.put, List.setIfInBounds_toArray, List.set_cons_zero, List.set_cons_succ]
                      refine wpAnyH_take (i := 3) (oi := ⟨some 181, _, _, _, _, _⟩) (v := ?_) rfl (by kernel_rfl) (by kernel_rfl) (by kernel_rfl) (fun _ _ _ h => h) (Or.inl ⟨by rfl, ?_⟩) (by assumption) ?_
                      rotate_left
                      · (intro w hSw; (try dsimp only at hSw); go_simp; first | done | with_reducible rfl)
                      try simp only [Act.put, List.setIfInBounds_toArray, List.set_cons_zero, List.set_cons_succ]
                      refine wpAnyH_take (i := 4) (oi := ⟨some 182, _, _, _, _, _⟩) (v := ?_) rfl (by kernel_rfl) (by kernel_rfl) (by kernel_rfl) (fun _ _ _ h => h) (Or.inl ⟨by rfl, ?_⟩) (by assumption) ?_
                      rotate_left
                      · (intro w hSw; (try dsimp only at hSw); go_simp; first | done | with_reducible rfl)
                      try simp only [Act.put, List.setIfInBounds_toArray, List.set_cons_zero, List.set_cons_succ]
                      refine wpAnyH_take (i := 5) (oi := ⟨some 183, _, _, _, _, _⟩) (v := ?_) rfl (by kernel_rfl) (by kernel_rfl) (by kernel_rfl) (fun _ _ _ h => h) (Or.inl ⟨by rfl, ?_⟩) (by assumption) ?_
                      rotate_left
                      · (intro w hSw; (try dsimp only at hSw); go_simp; first | done | with_reducible rfl)
                      try simp only [Act.put, List.setIfInBounds_toArray, List.set_cons_zero, List.set_cons_succ]
                      refine wpAnyH_take (i := 6) (oi := ⟨some 184, _, _, _, _, _⟩) (v := ?_) rfl (by kernel_rfl) (by kernel_rfl) (by kernel_rfl) (fun _ _ _ h => h) (Or.inl ⟨by rfl, ?_⟩) (by assumption) ?_
                      rotate_left
                      · (intro w hSw; (try dsimp only at hSw); go_simp; first | done | with_reducible rfl)
                      try simp only [Act.put, List.setIfInBounds_toArray, List.set_cons_zero, List.set_cons_succ]
                      refine wpAnyH_take (i := 7) (oi := ⟨some 185, _, _, _, _, _⟩) (v := ?_) rfl (by kernel_rfl) (by kernel_rfl) (by kernel_rfl) (fun _ _ _ h => h) (Or.inl ⟨by rfl, ?_⟩) (by assumption) ?_
                      rotate_left
                      · (intro w hSw; (try dsimp only at hSw); go_simp; first | done | with_reducible rfl)
                      try simp only [Act.put, List.setIfInBounds_toArray, List.set_cons_zero, List.set_cons_succ]
                      refine wpAnyH_take (i := 8) (oi := ⟨some 186, _, _, _, _, _⟩) (v := ?_) rfl (by kernel_rfl) (by kernel_rfl) (by kernel_rfl) (fun _ _ _ h => h) (Or.inl ⟨by rfl, ?_⟩) (by assumption) ?_
                      rotate_left
                      · (intro w hSw; (try dsimp only at hSw); go_simp; first | done | with_reducible rfl)
                      try simp only [Act.put, List.setIfInBounds_toArray, List.set_cons_zero, List.set_cons_succ]
                      refine wpAnyH_take (i := 9) (oi := ⟨some 187, _, _, _, _, _⟩) (v := ?_) rfl (by kernel_rfl) (by kernel_rfl) (by kernel_rfl) (fun _ _ _ h => h) (Or.inl ⟨by rfl, ?_⟩) (by assumption) ?_
                      rotate_left
                      · (intro w hSw; (try dsimp only at hSw); go_simp; first | done | with_reducible rfl)
                      try simp only [Act.put, List.setIfInBounds_toArray, List.set_cons_zero, List.set_cons_succ]
                      refine wpAnyH_take (i := 10) (oi := ⟨some 188, _, _, _, _, _⟩) (v := ?_) rfl (by kernel_rfl) (by kernel_rfl) (by kernel_rfl) (fun _ _ _ h => h) (Or.inl ⟨by rfl, ?_⟩) (by assumption) ?_
                      rotate_left
                      · (intro w hSw; (try dsimp only at hSw); go_simp; first | done | with_reducible rfl)
                      try simp only [Act.put, List.setIfInBounds_toArray, List.set_cons_zero, List.set_cons_succ]
                      refine wpAnyH_take (i := 11) (oi := ⟨some 189, _, _, _, _, _⟩) (v := ?_) rfl (by kernel_rfl) (by kernel_rfl) (by kernel_rfl) (fun _ _ _ h => h) (Or.inl ⟨by rfl, ?_⟩) (by assumption) ?_
                      rotate_left
                      · (intro w hSw; (try dsimp only at hSw); go_simp; first | done | with_reducible rfl)
                      try simp only [Act.put, List.setIfInBounds_toArray, List.set_cons_zero, List.set_cons_succ]
                      refine wpAnyH_take (i := 12) (oi := ⟨some 190, _, _, _, _, _⟩) (v := ?_) rfl (by kernel_rfl) (by kernel_rfl) (by kernel_rfl) (fun _ _ _ h => h) (Or.inl ⟨by rfl, ?_⟩) (by assumption) ?_
                      rotate_left
                      · (intro w hSw; (try dsimp only at hSw); go_simp; first | done | with_reducible rfl)
                      try simp only [Act.put, List.setIfInBounds_toArray, List.set_cons_zero, List.set_cons_succ]
                      refine wpAnyH_take (i := 13) (oi := ⟨some 22, _, _, _, _, _⟩) (v := ?_) rfl (by kernel_rfl) (by kernel_rfl) (by kernel_rfl) (fun _ _ _ h => h) (Or.inl ⟨by rfl, ?_⟩) (by assumption) ?_
                      rotate_left
                      · (intro w hSw; (try dsimp only at hSw); go_simp; first | done | with_reducible rfl)
                      try simp only [Act.put, List.setIfInBounds_toArray, List.set_cons_zero, List.set_cons_succ]
                      refine wpAnyH_done (by kernel_rfl) ?_ _
                      have hnx := Lib.hid (show qq = true ∨ ∀ x, x < i + 1 → (Sh.strL (l.getD x [])).toList ≠ sv.toList from by
                        cases qq with
                        | true => exact .inl rfl
                        | false =>
                          refine .inr fun x hx => ?_
                          by_cases e : x = i
                          · subst e
                            rw [HYY.out]
                            have := HQ.out
                            rw [beq_eq_false_iff_ne] at this
                            exact fun h => this h.symm
                          · rcases hno.out with h | h
                            · cases h
                            · exact h x (by omega))
                      clear HQ hqq hno HYY
                      go_wp2_with fail
                      refine ⟨⟨i + 1, qq, by omega, rfl, by go_num, Lib.hid ⟨hbd.out, hnx.out⟩⟩, ?_⟩
                      simp [intOf]
                      omega
                  · have hil : i = l.length := by omega
                    have hb : b = true := by
                      rcases hbw.out.2 with h | h
                      · exact h
                      · obtain ⟨x, hx, e⟩ := HV.out
                        exact absurd e (h x (by omega))
                    have B11 := Lib.hid (HB10.out.grown hbel)
                    clear hil hbw HB10
                    subst hb
                    go_wp2_with fail
                    refine ⟨⟨j + 1, by omega, by go_num, B11⟩, ?_⟩
                    simp [intOf]
                    omega
              · have hbe : Below w.heap.size w wr := by obtain ⟨S9, F9, D9, _⟩ := hB.out; exact D9.on.bel
                clear hB
                go_wp2_with fail
                go_ret
                exact ⟨rfl, hbe⟩
          · have hqe : decide ((k : Int) < (nn : Int)) = false := by simp; omega
            clear hlt
            obtain ⟨o, S, may, ⟨F, D, M⟩, J, Z, L⟩ := hbag.out
            have HJc := Lib.hid (J.crash ks)
            have hZ1 : ∀ x ∈ S.disks, x.waits.length < 1099511627776 := fun x hx => by have := Z x hx; omega
            have hd0 : 0 < (S.crash ks).disks.length := by rw [Sh.crash_length]; exact J.one.lt
            have HD := Lib.hid D
            have HM := Lib.hid M
            have HLn := Lib.hid L
            clear D M J Z L hbag
            go_wp2_with fail
            refine (Sh.crash_of rfl HD.out.on B bn bc HK.out hbn hZ1).mono ?_
            rintro e w7 ⟨rfl, hlf⟩
            obtain ⟨F7, D7, hmv⟩ := HD.out.goes hlf
            have HM7 := Lib.hid (HM.out.moves hmv)
            have HD7 := Lib.hid D7
            clear hZ1 hlf hmv D7 HD HM
            generalize S.crash ks = S7 at *
            go_wp2_with fail
            refine (open_yes 0 HD7.out.on.shelf hd0).mono ?_
            rintro e w8 ⟨rfl, hd, hb⟩
            have D8 := dv_open (a := w7.heap.size) HD7.out.on hd hb rfl
            have M8 : May w8 w.heap.size q (With F7 w7.heap.size) (fun j => j < 37) may := HM7.out.opened hb (Nat.le_refl _)
            have B8 := Lib.hid (show Bag4 w w8 w7.heap.size p q may from ⟨S7, F7, D8, M8, HJc.out⟩)
            clear D8 M8 HJc HD7 HM7 hd hb hd0
            generalize w7.heap.size = a8 at *
            go_wp2_with fail
            go_loopw [19] (fun s19 wr => ∃ j : Nat, j ≤ 37 ∧ s19 = .int .i64 j ∧ Hid (Bag4 w wr a8 p q may)) (fun i _ => 37 - (intOf i).toNat)
            case atStart => exact ⟨0, Nat.zero_le _, rfl, B8⟩
            case round =>
              obtain ⟨j, hj, rfl, hB⟩ := hrel
              clear B8
              by_cases hlj : j < 37
              · obtain ⟨S9, F9, D9, M9, f1, f2, f3⟩ := hB.out
                obtain ⟨hg, hv⟩ := f3 j hlj
                have HM9 := Lib.hid M9
                have HF9 := Lib.hid (show Fine S9 may from ⟨f1, f2, f3⟩)
                clear hB f3 M9
                go_wp2_with fail
                refine (read_calm D9 hT hTB f1 j (by rw [f2]; exact hlj) hg).mono ?_
                rintro e w10 ⟨A10, c10, rfl, y10, D10, o10⟩
                have y10' := beside_with D9 y10
                have HB10 := Lib.hid (show Bag4 w w10 a8 p q may from ⟨_, F9, D10, HM9.out.moves (moves_only o10), HF9.out.looked⟩)
                obtain ⟨g, off, cc, M10⟩ := HM9.out.moves (moves_only o10)
                have hlen := (HLn.out j hlj).2
                have q3 : (j : Int) < 37 := by omega
                have k1 := fun W' (hb : Below w10.heap.size w10 W') => (M10.grown hb).cells j hlj
                have HK2 := Lib.hid (fun i (hi : i < (may j).length) W' (hb : Below w10.heap.size w10 W') => ((M10.grown hb).mid j hlj).at_ i hi)
                clear D9 y10 D10 o10 HM9 HF9 f1 f2 hg M10
                generalize V S9 0 (dataOf j) = v at *
                generalize hsv : Sh.strL v = sv at *
                have t1 := fun W hb => Sh.conv_grown (c := c10) y10' hsv W hb
                have HV := Lib.hid (show ∃ i, i < (may j).length ∧ (Sh.strL ((may j).getD i [])).toList = sv.toList from by
                  obtain ⟨i, hi, e⟩ := List.mem_iff_getElem.1 hv
                  exact ⟨i, hi, by rw [← hsv, ← e]; simp [List.getD, hi]⟩)
                clear hv hsv y10'
                generalize may j = l at *
                generalize g j = gj at *
                generalize off j = offj at *
                generalize cc j = cj at *
                go_wp2_with fail
                go_loopw [22, 23] (fun s22 s23 wr2 => ∃ (i : Nat) (b : Bool), i ≤ l.length ∧ s22 = .bool b ∧ s23 = .int .i64 i ∧ Hid (Below w10.heap.size w10 wr2 ∧ (b = true ∨ ∀ x, x < i → (Sh.strL (l.getD x [])).toList ≠ sv.toList))) (fun _ i _ => l.length - (intOf i).toNat)
                case atStart => exact ⟨0, false, Nat.zero_le _, rfl, rfl, Lib.hid ⟨Below.refl _ _, .inr fun x hx => absurd hx (by omega)⟩⟩
                case round =>
                  obtain ⟨i, b, hi, rfl, rfl, hbw⟩ := hrel
                  have hbel := hbw.out.1
                  have kA := k1 wr hbel
                  by_cases hli : i < l.length
                  · have q4 : (i : Int) < (l.length : Int) := by omega
                    have m1 := fun W' (hb : Below wr.heap.size wr W') => HK2.out i hli W' (Sh.below_on hbel hb)
                    have k2 := fun W' (hb : Below wr.heap.size wr W') => k1 W' (Sh.below_on hbel hb)
                    have t2 := fun W' (hb : Below wr.heap.size wr W') => t1 W' (Sh.below_on hbel hb)
                    have hbd := Lib.hid (show Below w10.heap.size w10 wr.drew from Sh.below_on hbel ((Below.refl _ _).drew))
                    have hno := Lib.hid hbw.out.2
                    have HD := Lib.hid (show ∀ y, Sh.strL (l.getD i []) = y → Sh.strL (l.getD i []) = y from fun _ h => h)
                    unfold Sh.sv at m1
                    clear hbw hbel k1 t1
                    generalize hyy : Sh.strL (l.getD i []) = sy at *
                    have HYY := Lib.hid hyy
                    clear hyy HD
                    obtain ⟨qq, hqq⟩ : ∃ qq, (sv.toList == sy.toList) = qq := ⟨_, rfl⟩
                    have HQ := Lib.hid hqq
                    have l18 : l.length ≤ 9223372036854775807 := by omega
                    cases b with
                    | true =>
                      go_wp2_with fail
                      refine wp_region_held_drew (S := fun W' => Below wr.heap.size wr W') (by kernel_rfl) ((Below.refl _ _).drew) (fun hHeld => ?_)
                      refine wpAnyH_take (i := 0) (oi := ⟨some 178, _, _, _, _, _⟩) (v := ?_) rfl (by kernel_rfl) (by kernel_rfl) (by kernel_rfl) (fun _ _ _ h => h) (Or.inl ⟨by rfl, ?_⟩) (by assumption) ?_
                      rotate_left
                      · (intro w hSw; (try dsimp only at hSw); go_simp; first | done | with_reducible rfl)
                      try simp only [Act.put, List.setIfInBounds_toArray, List.set_cons_zero, List.set_cons_succ]
                      refine wpAnyH_take (i := 1) (oi := ⟨some 179, _, _, _, _, _⟩) (v := ?_) rfl (by kernel_rfl) (by kernel_rfl) (by kernel_rfl) (fun _ _ _ h => h) (Or.inl ⟨by rfl, ?_⟩) (by assumption) ?_
                      rotate_left
                      · (intro w hSw; (try dsimp only at hSw); go_simp; first | done | with_reducible rfl)
                      try simp only [Act.put, List.setIfInBounds_toArray, List.set_cons_zero, List.set_cons_succ]
                      refine wpAnyH_take (i := 2) (oi := ⟨some 180, _, _, _, _, _⟩) (v := undef) rfl (by kernel_rfl) (by kernel_rfl) (by kernel_rfl) (fun _ _ _ h => h) (Or.inr ⟨by rfl, rfl⟩) (by assumption) ?_
                      try simp only [Act.put, List.setIfInBounds_toArray, List.set_cons_zero, List.set_cons_succ]
                      refine wpAnyH_take (i := 3) (oi := ⟨some 181, _, _, _, _, _⟩) (v := undef) rfl (by kernel_rfl) (by kernel_rfl) (by kernel_rfl) (fun _ _ _ h => h) (Or.inr ⟨by rfl, rfl⟩) (by assumption) ?_
                      try simp only [Act.put, List.setIfInBounds_toArray, List.set_cons_zero, List.set_cons_succ]
                      refine wpAnyH_take (i := 4) (oi := ⟨some 182, _, _, _, _, _⟩) (v := undef) rfl (by kernel_rfl) (by kernel_rfl) (by kernel_rfl) (fun _ _ _ h => h) (Or.inr ⟨by rfl, rfl⟩) (by assumption) ?_
                      try simp only [Act.put, List.setIfInBounds_toArray, List.set_cons_zero, List.set_cons_succ]
                      refine wpAnyH_take (i := 5) (oi := ⟨some 183, _, _, _, _, _⟩) (v := undef) rfl (by kernel_rfl) (by kernel_rfl) (by kernel_rfl) (fun _ _ _ h => h) (Or.inr ⟨by rfl, rfl⟩) (by assumption) ?_
                      try simp only [Act.put, List.setIfInBounds_toArray, List.set_cons_zero, List.set_cons_succ]
                      refine wpAnyH_take (i := 6) (oi := ⟨some 184, _, _, _, _, _⟩) (v := undef) rfl (by kernel_rfl) (by kernel_rfl) (by kernel_rfl) (fun _ _ _ h => h) (Or.inr ⟨by rfl, rfl⟩) (by assumption) ?_
                      try simp only [Act.put, List.setIfInBounds_toArray, List.set_cons_zero, List.set_cons_succ]
                      refine wpAnyH_take (i := 7) (oi := ⟨some 185, _, _, _, _, _⟩) (v := undef) rfl (by kernel_rfl) (by kernel_rfl) (by kernel_rfl) (fun _ _ _ h => h) (Or.inr ⟨by rfl, rfl⟩) (by assumption) ?_
                      try simp only [Act.put, List.setIfInBounds_toArray, List.set_cons_zero, List.set_cons_succ]
                      refine wpAnyH_take (i := 8) (oi := ⟨some 186, _, _, _, _, _⟩) (v := undef) rfl (by kernel_rfl) (by kernel_rfl) (by kernel_rfl) (fun _ _ _ h => h) (Or.inr ⟨by rfl, rfl⟩) (by assumption) ?_
                      try simp only [Act.put, List.setIfInBounds_toArray, List.set_cons_zero, List.set_cons_succ]
                      refine wpAnyH_take (i := 9) (oi := ⟨some 187, _, _, _, _, _⟩) (v := undef) rfl (by kernel_rfl) (by kernel_rfl) (by kernel_rfl) (fun _ _ _ h => h) (Or.inr ⟨by rfl, rfl⟩) (by assumption) ?_
                      try simp only [Act.put, List.setIfInBounds_toArray, List.set_cons_zero, List.set_cons_succ]
                      refine wpAnyH_take (i := 10) (oi := ⟨some 188, _, _, _, _, _⟩) (v := undef) rfl (by kernel_rfl) (by kernel_rfl) (by kernel_rfl) (fun _ _ _ h => h) (Or.inr ⟨by rfl, rfl⟩) (by assumption) ?_
                      try simp only [Act.put, List.setIfInBounds_toArray, List.set_cons_zero, List.set_cons_succ]
                      refine wpAnyH_take (i := 11) (oi := ⟨some 189, _, _, _, _, _⟩) (v := undef) rfl (by kernel_rfl) (by kernel_rfl) (by kernel_rfl) (fun _ _ _ h => h) (Or.inr ⟨by rfl, rfl⟩) (by assumption) ?_
                      try simp only [Act.put, List.setIfInBounds_toArray, List.set_cons_zero, List.set_cons_succ]
                      refine wpAnyH_take (i := 12) (oi := ⟨some 190, _, _, _, _, _⟩) (v := ?_) rfl (by kernel_rfl) (by kernel_rfl) (by kernel_rfl) (fun _ _ _ h => h) (Or.inl ⟨by rfl, ?_⟩) (by assumption) ?_
                      rotate_left
                      · (intro w hSw; (try dsimp only at hSw); go_simp; first | done | with_reducible rfl)
                      try simp only [Act.put, List.setIfInBounds_toArray, List.set_cons_zero, List.set_cons_succ]
                      refine wpAnyH_take (i := 13) (oi := ⟨some 22, _, _, _, _, _⟩) (v := ?_) rfl (by kernel_rfl) (by kernel_rfl) (by kernel_rfl) (fun _ _ _ h => h) (Or.inl ⟨by rfl, ?_⟩) (by assumption) ?_
                      rotate_left
                      · (intro w hSw; (try dsimp only at hSw); go_simp; first | done | with_reducible rfl)
                      try simp only [Act.put, List.setIfInBounds_toArray, List.set_cons_zero, List.set_cons_succ]
                      refine wpAnyH_done (by kernel_rfl) ?_ _
                      go_wp2_with fail
                      refine ⟨⟨i + 1, true, by omega, rfl, by go_num, Lib.hid ⟨hbd.out, .inl rfl⟩⟩, ?_⟩
                      simp [intOf]
                      omega
                    | false =>
                      go_wp2_with fail
                      refine wp_region_held_drew (S := fun W' => Below wr.heap.size wr W') (by kernel_rfl) ((Below.refl _ _).drew) (fun hHeld => ?_)
                      refine wpAnyH_take (i := 0) (oi := ⟨some 178, _, _, _, _, _⟩) (v := ?_) rfl (by kernel_rfl) (by kernel_rfl) (by kernel_rfl) (fun _ _ _ h => h) (Or.inl ⟨by rfl, ?_⟩) (by assumption) ?_
                      rotate_left
                      · (intro w hSw; (try dsimp only at hSw); go_simp; first | done | with_reducible rfl)
                      try simp only [Act.put, List.setIfInBounds_toArray, List.set_cons_zero, List.set_cons_succ]
                      refine wpAnyH_take (i := 1) (oi := ⟨some 179, _, _, _, _, _⟩) (v := ?_) rfl (by kernel_rfl) (by kernel_rfl) (by kernel_rfl) (fun _ _ _ h => h) (Or.inl ⟨by rfl, ?_⟩) (by assumption) ?_
                      rotate_left
                      · (intro w hSw; (try dsimp only at hSw); go_simp; first | done | with_reducible rfl)
                      try simp only [Act.put, List.setIfInBounds_toArray, List.set_cons_zero, List.set_cons_succ]
                      refine wpAnyH_take (i := 2) (oi := ⟨some 180, _, _, _, _, _⟩) (v := ?_) rfl (by kernel_rfl) (by kernel_rfl) (by kernel_rfl) (fun _ _ _ h => h) (Or.inl ⟨by rfl, ?_⟩) (by assumption) ?_
                      rotate_left
                      · (intro w hSw; (try dsimp only at hSw); go_simp; first | done | with_reducible rfl)
                      try simp only [Act.put, List.setIfInBounds_toArray, List.set_cons_zero, List.set_cons_succ]
                      refine wpAnyH_take (i := 3) (oi := ⟨some 181, _, _, _, _, _⟩) (v := ?_) rfl (by kernel_rfl) (by kernel_rfl) (by kernel_rfl) (fun _ _ _ h => h) (Or.inl ⟨by rfl, ?_⟩) (by assumption) ?_
                      rotate_left
                      · (intro w hSw; (try dsimp only at hSw); go_simp; first | done | with_reducible rfl)
                      try simp only [Act.put, List.setIfInBounds_toArray, List.set_cons_zero, List.set_cons_succ]
                      refine wpAnyH_take (i := 4) (oi := ⟨some 182, _, _, _, _, _⟩) (v := ?_) rfl (by kernel_rfl) (by kernel_rfl) (by kernel_rfl) (fun _ _ _ h => h) (Or.inl ⟨by rfl, ?_⟩) (by assumption) ?_
                      rotate_left
                      · (intro w hSw; (try dsimp only at hSw); go_simp; first | done | with_reducible rfl)
                      try simp only [Act.put, List.setIfInBounds_toArray, List.set_cons_zero, List.set_cons_succ]
                      refine wpAnyH_take (i := 5) (oi := ⟨some 183, _, _, _, _, _⟩) (v := ?_) rfl (by kernel_rfl) (by kernel_rfl) (by kernel_rfl) (fun _ _ _ h => h) (Or.inl ⟨by rfl, ?_⟩) (by assumption) ?_
                      rotate_left
                      · (intro w hSw; (try dsimp only at hSw); go_simp; first | done | with_reducible rfl)
                      try simp only [Act.put, List.setIfInBounds_toArray, List.set_cons_zero, List.set_cons_succ]
                      refine wpAnyH_take (i := 6) (oi := ⟨some 184, _, _, _, _, _⟩) (v := ?_) rfl (by kernel_rfl) (by kernel_rfl) (by kernel_rfl) (fun _ _ _ h => h) (Or.inl ⟨by rfl, ?_⟩) (by assumption) ?_
                      rotate_left
                      · (intro w hSw; (try dsimp only at hSw); go_simp; first | done | with_reducible rfl)
                      try simp only [Act.put, List.setIfInBounds_toArray, List.set_cons_zero, List.set_cons_succ]
                      refine wpAnyH_take (i := 7) (oi := ⟨some 185, _, _, _, _, _⟩) (v := ?_) rfl (by kernel_rfl) (by kernel_rfl) (by kernel_rfl) (fun _ _ _ h => h) (Or.inl ⟨by rfl, ?_⟩) (by assumption) ?_
                      rotate_left
                      · (intro w hSw; (try dsimp only at hSw); go_simp; first | done | with_reducible rfl)
                      try simp only [Act.put, List.setIfInBounds_toArray, List.set_cons_zero, List.set_cons_succ]
                      refine wpAnyH_take (i := 8) (oi := ⟨some 186, _, _, _, _, _⟩) (v := ?_) rfl (by kernel_rfl) (by kernel_rfl) (by kernel_rfl) (fun _ _ _ h => h) (Or.inl ⟨by rfl, ?_⟩) (by assumption) ?_
                      rotate_left
                      · (intro w hSw; (try dsimp only at hSw); go_simp; first | done | with_reducible rfl)
                      try simp only [Act.put, List.setIfInBounds_toArray, List.set_cons_zero, List.set_cons_succ]
                      refine wpAnyH_take (i := 9) (oi := ⟨some 187, _, _, _, _, _⟩) (v := ?_) rfl (by kernel_rfl) (by kernel_rfl) (by kernel_rfl) (fun _ _ _ h => h) (Or.inl ⟨by rfl, ?_⟩) (by assumption) ?_
                      rotate_left
                      · (intro w hSw; (try dsimp only at hSw); go_simp; first | done | with_reducible rfl)
                      try simp only [Act.put, List.setIfInBounds_toArray, List.set_cons_zero, List.set_cons_succ]
                      refine wpAnyH_take (i := 10) (oi := ⟨some 188, _, _, _, _, _⟩) (v := ?_) rfl (by kernel_rfl) (by kernel_rfl) (by kernel_rfl) (fun _ _ _ h => h) (Or.inl ⟨by rfl, ?_⟩) (by assumption) ?_
                      rotate_left
                      · (intro w hSw; (try dsimp only at hSw); go_simp; first | done | with_reducible rfl)
                      try simp only [Act.put, List.setIfInBounds_toArray, List.set_cons_zero, List.set_cons_succ]
                      refine wpAnyH_take (i := 11) (oi := ⟨some 189, _, _, _, _, _⟩) (v := ?_) rfl (by kernel_rfl) (by kernel_rfl) (by kernel_rfl) (fun _ _ _ h => h) (Or.inl ⟨by rfl, ?_⟩) (by assumption) ?_
                      rotate_left
                      · (intro w hSw; (try dsimp only at hSw); go_simp; first | done | with_reducible rfl)
                      try simp only [Act.put, List.setIfInBounds_toArray, List.set_cons_zero, List.set_cons_succ]
                      refine wpAnyH_take (i := 12) (oi := ⟨some 190, _, _, _, _, _⟩) (v := ?_) rfl (by kernel_rfl) (by kernel_rfl) (by kernel_rfl) (fun _ _ _ h => h) (Or.inl ⟨by rfl, ?_⟩) (by assumption) ?_
                      rotate_left
                      · (intro w hSw; (try dsimp only at hSw); go_simp; first | done | with_reducible rfl)
                      try simp only [Act.put, List.setIfInBounds_toArray, List.set_cons_zero, List.set_cons_succ]
                      refine wpAnyH_take (i := 13) (oi := ⟨some 22, _, _, _, _, _⟩) (v := ?_) rfl (by kernel_rfl) (by kernel_rfl) (by kernel_rfl) (fun _ _ _ h => h) (Or.inl ⟨by rfl, ?_⟩) (by assumption) ?_
                      rotate_left
                      · (intro w hSw; (try dsimp only at hSw); go_simp; first | done | with_reducible rfl)
                      try simp only [Act.put, List.setIfInBounds_toArray, List.set_cons_zero, List.set_cons_succ]
                      refine wpAnyH_done (by kernel_rfl) ?_ _
                      have hnx := Lib.hid (show qq = true ∨ ∀ x, x < i + 1 → (Sh.strL (l.getD x [])).toList ≠ sv.toList from by
                        cases qq with
                        | true => exact .inl rfl
                        | false =>
                          refine .inr fun x hx => ?_
                          by_cases e : x = i
                          · subst e
                            rw [HYY.out]
                            have := HQ.out
                            rw [beq_eq_false_iff_ne] at this
                            exact fun h => this h.symm
                          · rcases hno.out with h | h
                            · cases h
                            · exact h x (by omega))
                      clear HQ hqq hno HYY
                      go_wp2_with fail
                      refine ⟨⟨i + 1, qq, by omega, rfl, by go_num, Lib.hid ⟨hbd.out, hnx.out⟩⟩, ?_⟩
                      simp [intOf]
                      omega
                  · have hil : i = l.length := by omega
                    have hb : b = true := by
                      rcases hbw.out.2 with h | h
                      · exact h
                      · obtain ⟨x, hx, e⟩ := HV.out
                        exact absurd e (h x (by omega))
                    have B11 := Lib.hid (HB10.out.grown hbel)
                    clear hil hbw HB10
                    subst hb
                    go_wp2_with fail
                    refine ⟨⟨j + 1, by omega, by go_num, B11⟩, ?_⟩
                    simp [intOf]
                    omega
              · have hbe : Below w.heap.size w wr := by obtain ⟨S9, F9, D9, _⟩ := hB.out; exact D9.on.bel
                clear hB
                go_wp2_with fail
                go_ret
                exact ⟨rfl, hbe⟩
set_option maxRecDepth 100000 in
/-- WHAT THE WALK GIVES, FOR EVERY ARGUMENT AND EVERY WORLD THAT HOLDS THE TABLES. -/
theorem contract (H : Type) (enc : TypeId × Value → H) (W : World) (base : Nat) (args : Array Value) (ds gs : List (DataW H)) (before : List MemPlace)
    (hval : ∀ (j : Nat) t v, Tryd.f6.params[j]? = some t → args[j]? = some v → Value.okWide Tryd.prog W .any base t v)
    (hW : DataW.Whole enc Tryd.prog Tryd.f6.params.toList Rows.sumsCrashSpec.vars false W args.toList ds gs before)
    (hsz : (DataW.weightsEach Tryd.prog (Tryd.f6.params.toList ++ (OpenSpec.ofChange Rows.sumsCrashSpec).bare.plain.varTypes Tryd.prog) (ds ++ gs)).all (· ≤ reachBytes) = true) (hL : laidMetH Tryd.prog laidBoth W) :
    Calls Tryd.prog 6 args W fun e W' => ∃ v, e = .returned v ∧ Rows.sumsCrashSpec.post enc Tryd.prog Tryd.f6 false true false false W args v W' := by
  have hW' := hW
  obtain ⟨p, q, hA0, hV, rfl, hfz, hnd⟩ := hW
  have hA : DataW.TrodAll enc Tryd.prog W 0 (fun _ => true) true Tryd.f6.params.toList args.toList ds p := hA0
  have hsz2 : (DataW.weightsEach Tryd.prog (Tryd.f6.params.toList ++ []) (ds ++ gs)).all (· ≤ reachBytes) = true := hsz
  rw [Tryd.params6] at hA hval hsz2
  obtain ⟨v0, vs0, d0, ds0, p0, q0, hargs, rfl, rfl, h0, r0⟩ := trodAll_cons hA
  obtain ⟨v1, vs1, d1, ds1, p1, q1, rfl, rfl, rfl, h1, r1⟩ := trodAll_cons r0
  obtain ⟨v2, vs2, d2, ds2, p2, q2, rfl, rfl, rfl, h2, r2⟩ := trodAll_cons r1
  obtain ⟨rfl, rfl, rfl⟩ := trodAll_nil r2
  obtain rfl : args = #[v0, v1, v2] := by cases args; simp_all
  obtain ⟨rfl, rfl⟩ := trodVars_none hV
  obtain ⟨A0, n0, c0, rfl⟩ := okWide_slice Tryd.underlying32 (hval 0 32 v0 rfl rfl)
  have k0 := h0
  have lt0 : ∀ x ∈ p0, x.block < W.heap.size := by obtain ⟨m, hm⟩ := k0; exact DataW.trod_lt m _ _ _ hm
  obtain ⟨f0, hl0⟩ : ∃ f, Sh.Ops6 W A0 n0 f := by obtain ⟨fuel, hf⟩ := h0; exact Sh.ops_in (by simpa [Value.cells] using hf)
  obtain ⟨a1, rfl, rfl, rfl, w1⟩ := open_int Tryd.underlying3 (hval 1 3 v1 rfl rfl) h1
  have bd1 := bounds_i64 w1
  obtain ⟨A2, n2, c2, rfl⟩ := okWide_slice Tryd.underlying33 (hval 2 33 v2 rfl rfl)
  have k2 := h2
  have lt2 : ∀ x ∈ p2, x.block < W.heap.size := by obtain ⟨m, hm⟩ := k2; exact DataW.trod_lt m _ _ _ hm
  obtain ⟨ks2, nb2, hk2⟩ : ∃ ks : List (List Int), n2 ≤ 9223372036854775807 ∧ KeepIs W (Old W) A2 n2 ks := by obtain ⟨fuel, hf⟩ := h2; exact keep_in (by simpa [Value.cells] using hf)
  have hT := tabs_of_laid hL
  refine (walk A0 n0 c0 f0 hl0 a1 bd1.1 bd1.2 A2 n2 c2 ks2 nb2 hk2 hT).mono fun e W' ⟨he, bel⟩ => ?_
  subst he
  exact ⟨_, rfl, _, _, _, [], _, [], hW', trodAll_mk1 (shut_bool Tryd.underlying4 _), (trodAll_cons_mk (Below.trod laidOut (by kernel_rfl) (of_decide_eq_true (by kernel_rfl)) k0 bel lt0) (trodAll_cons_mk (shut_int Tryd.underlying3 w1) (trodAll_cons_mk (Below.trod laidOut (by kernel_rfl) (of_decide_eq_true (by kernel_rfl)) k2 bel lt2) trodAll_mk0))), rfl, bel.frame _, fun h => by cases h⟩

theorem laid_met (os : Os) : laidMetH Tryd.prog laidBoth ((laidWorld os).forCall (fun _ _ => 0) ⟨#[], #[.slice none 0 0, .int .i64 0, .slice none 0 0], []⟩).memory :=
  laidMetH_of_parts3 (fuel := 8) (laidMet_of_run' 8 (by kernel_rfl) (by kernel_rfl)) (by kernel_rfl) (by kernel_rfl)
theorem reads (os : Os) {H : Type} (enc : TypeId × Value → H) : ∃ places, DataW.whole enc Tryd.prog ((laidWorld os).forCall (fun _ _ => 0) ⟨#[], #[.slice none 0 0, .int .i64 0, .slice none 0 0], []⟩).memory Tryd.f6.params.toList Rows.sumsCrashSpec.vars false (#[.slice none 0 0, .int .i64 0, .slice none 0 0] : Array Value).toList 8 = some ([.nil, .lit (.int .i64 0), .nil], [], places) :=
  ⟨[], by kernel_rfl⟩
set_option maxRecDepth 100000 in
theorem lifted (os : Os) (started : os.Started) (H : Type) (enc : TypeId × Value → H) (F : Stop.Interp) :
    ReturnsInHanded {} Tryd.checked os 6 .any ((OpenSpec.ofChange Rows.sumsCrashSpec).preRow enc Tryd.prog Tryd.f6 Rows.sumsCrashRow.domain false Rows.sumsCrashRow.laid) (((OpenSpec.ofChange Rows.sumsCrashSpec).at F).post enc Tryd.prog Tryd.f6 false true false false) := by
  obtain ⟨places, hx⟩ := reads os enc
  refine returnsInHanded_of_row (C := Tryd.checked) (s := (OpenSpec.ofChange Rows.sumsCrashSpec)) own started (by kernel_rfl) Tryd.func6
    (witness_row_at (enc := enc) (C := Tryd.checked) false (laidWorld os) #[.slice none 0 0, .int .i64 0, .slice none 0 0] rfl (by kernel_rfl) (by kernel_rfl) (by kernel_rfl)
      (OpenSpec.preRow_of_cond 8 hx (by kernel_rfl) (fun k hk => by cases hk) (by kernel_rfl) (laid_met os))) ?_
  intro W base args ds gs before hval hW _ hcond hsz hL _ _
  exact contract H enc W base args ds gs before hval hW hsz hL
theorem said : Rows.SumsCrashSaid :=
  OpenClaim.holds_of_cond 6 Tryd.f6 rfl rfl rfl rfl rfl rfl rfl ⟨rfl, rfl, rfl, rfl, rfl⟩ rfl rfl rfl rfl rfl (by kernel_rfl) Tryd.func6 (by kernel_rfl)
    (of_decide_eq_true (by kernel_rfl)) (by unfold Func.isWrapper; first | (rw [if_pos (by decide +kernel)]; kernel_rfl) | (rw [if_neg (by decide +kernel)]; exact ⟨rfl, rfl⟩))
    (fun os started H enc _ F => by rw [OpenClaim.pre_eq_preRow]; exact lifted os started H enc F)
theorem plain (f : FuncId) (fn : Func) (hf : Tryd.pinned.checked.prog.funcNamed "ashlar/ashlarlaw06.SumsCrash" = some f) (hfn : Tryd.pinned.checked.prog.funcs[f]? = some fn) :
    false = Tryd.pinned.checked.prog.looks [] ∧ ∀ (j : Nat) t, fn.params[j]? = some t → Tryd.pinned.checked.prog.wantsStandIn t = false := by
  obtain rfl : f = 6 := Option.some.inj ((show Tryd.prog.funcNamed "ashlar/ashlarlaw06.SumsCrash" = some 6 by kernel_rfl).symm.trans hf) |>.symm
  obtain rfl : fn = Tryd.f6 := (Option.some.inj (Tryd.func6.symm.trans hfn)).symm
  refine ⟨by kernel_rfl, fun j t ht => ?_⟩
  rw [Tryd.params6] at ht
  have hm : t ∈ [32, 3, 33] := by simpa using Array.mem_of_getElem? ht
  have hall : ([32, 3, 33].all fun u => !Tryd.prog.wantsStandIn u) = true := by kernel_rfl
  exact (show Tryd.prog.wantsStandIn t = false by simpa using List.all_eq_true.1 hall t hm)

/-- ████ THE CARD ████ -/
theorem card : Rows.SumsCrashCardSaid :=
  Claim7.holds_tied_plain_at .later [] _ _ _ _ said (fun _ h => by cases h) (by kernel_rfl) (fun _ h => by cases h) sumsCrash_row_tie rfl ⟨rfl, rfl⟩ (by kernel_rfl) rfl plain (by kernel_rfl)
end Go.Proofs.YtjdjpafnakhpcaaDoor.U.sumsCrash
