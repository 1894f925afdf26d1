/-
  SumsMend is true: a bad block that is written anew is good, and has what was written, also behind a crash.
  Conditions: the package-level variables start as the program's text lays them.
-/
import Derived.Test.YtjdjpafnakhpcaaDoorUs
import Derived.Deep.RegionHeld3
namespace Go.Proofs.YtjdjpafnakhpcaaDoor.U.sumsMend
open Go.ChangeShapes Go.WideShapes Go.ChangeAt Go.RowKit

set_option maxRecDepth 100000 in
set_option maxHeartbeats 4000000 in
theorem low {w : World} (b i : Int) (hbi : b < 0 ∨ (0 ≤ b ∧ 37 ≤ b) ∨ (0 ≤ b ∧ b < 37 ∧ i < 0) ∨ (0 ≤ b ∧ b < 37 ∧ 0 ≤ i ∧ 127 < i)) (x y : Nat) (A : Option Addr) (n c : Nat) (hT : Tabs w) :
    Calls Tryd.prog 9 #[.int .i64 b, .int .i64 i, .int .u8 x, .int .u8 y, .slice A n c] w fun e w' => e = .returned (.bool true) ∧ Below w.heap.size w w' := by
  have hTB := hT.size
  rcases hbi with h1 | ⟨h1, h2⟩ | ⟨h1, h2, h3⟩ | ⟨h1, h2, h3, h4⟩
  · have q0 : decide (b < 0) = true := decide_eq_true h1
    go_enter Tryd.func9, Tryd.ntmps9
    go_wp2_with fail
    refine (Sh.new_ok 1 40 w (by decide) (by decide) (by decide) (by decide)).mono ?_
    rintro e w1 ⟨p, F1, rfl, hS, hF, hb⟩
    have a1 : Sh.At w.heap.size w w1 p (Sh.newSf 1 40) F1 := ⟨hS, hF, hb, hb.size⟩
    clear hS hF hb
    go_wp2_with fail
    refine (open_yes 0 a1.shelf (by decide)).mono ?_
    rintro e w2 ⟨rfl, hd, hb⟩
    have D2 := dv_open (a := w1.heap.size) a1 hd hb rfl
    have hc3 : Calm (Sh.newSf 1 40) 0 := calm_new (by decide)
    have HV3 := Lib.hid (show ∀ n, n < 40 → V (Sh.newSf 1 40) 0 n = Sh.noughts from fun n hn => V_new (by decide) hn)
    generalize w1.heap.size = a at *
    clear a1 hd hb
    have hL3 := new_small 1 40
    have hsec3 : (Sh.newSf 1 40).sectors = 40 := rfl
    generalize Sh.newSf 1 40 = S3 at *
    have Hsec3 := Lib.hid hsec3
    clear hsec3
    go_wp2_with fail
    refine (lives_true w2 (At.tabs D2.on hT hTB)).mono ?_
    rintro e w3 ⟨rfl, hb3⟩
    have D3 := D2.grown hb3
    clear D2 hb3
    have HCN := Lib.hid (show Calls Tryd.prog 28 #[.pointer (some ⟨a, 0, none⟩)] w3 fun e w8 => e = .returned (.int .i64 37) ∧ ∃ n, w8 = w3.drewN n from by
      have := count_of D3.dev D3.on.shelf (secM_of D3.on.shelf)
      rw [Hsec3.out] at this
      exact this)
    have hfin := Lib.hid (show Below w.heap.size w w3 from D3.on.bel)
    clear D3 hc3 hL3
    go_wp2_with fail
    go_ret
    exact ⟨rfl, hfin.out⟩
  · have q0 : decide (b < 0) = false := decide_eq_false (by omega)
    have q1 : decide (b ≥ 37) = true := decide_eq_true h2
    go_enter Tryd.func9, Tryd.ntmps9
    go_wp2_with fail
    refine (Sh.new_ok 1 40 w (by decide) (by decide) (by decide) (by decide)).mono ?_
    rintro e w1 ⟨p, F1, rfl, hS, hF, hb⟩
    have a1 : Sh.At w.heap.size w w1 p (Sh.newSf 1 40) F1 := ⟨hS, hF, hb, hb.size⟩
    clear hS hF hb
    go_wp2_with fail
    refine (open_yes 0 a1.shelf (by decide)).mono ?_
    rintro e w2 ⟨rfl, hd, hb⟩
    have D2 := dv_open (a := w1.heap.size) a1 hd hb rfl
    have hc3 : Calm (Sh.newSf 1 40) 0 := calm_new (by decide)
    have HV3 := Lib.hid (show ∀ n, n < 40 → V (Sh.newSf 1 40) 0 n = Sh.noughts from fun n hn => V_new (by decide) hn)
    generalize w1.heap.size = a at *
    clear a1 hd hb
    have hL3 := new_small 1 40
    have hsec3 : (Sh.newSf 1 40).sectors = 40 := rfl
    generalize Sh.newSf 1 40 = S3 at *
    have Hsec3 := Lib.hid hsec3
    clear hsec3
    go_wp2_with fail
    refine (lives_true w2 (At.tabs D2.on hT hTB)).mono ?_
    rintro e w3 ⟨rfl, hb3⟩
    have D3 := D2.grown hb3
    clear D2 hb3
    have HCN := Lib.hid (show Calls Tryd.prog 28 #[.pointer (some ⟨a, 0, none⟩)] w3 fun e w8 => e = .returned (.int .i64 37) ∧ ∃ n, w8 = w3.drewN n from by
      have := count_of D3.dev D3.on.shelf (secM_of D3.on.shelf)
      rw [Hsec3.out] at this
      exact this)
    have hfin := Lib.hid (show Below w.heap.size w w3 from D3.on.bel)
    clear D3 hc3 hL3
    go_wp2_with (go_at_call 28; refine HCN.out.mono ?_; rintro e w8 ⟨rfl, m, rfl⟩)
    go_ret
    exact ⟨rfl, drawn hfin.out m⟩
  · have q0 : decide (b < 0) = false := decide_eq_false (by omega)
    have q1 : decide (b ≥ 37) = false := decide_eq_false (by omega)
    have q2 : decide (i < 0) = true := decide_eq_true h3
    go_enter Tryd.func9, Tryd.ntmps9
    go_wp2_with fail
    refine (Sh.new_ok 1 40 w (by decide) (by decide) (by decide) (by decide)).mono ?_
    rintro e w1 ⟨p, F1, rfl, hS, hF, hb⟩
    have a1 : Sh.At w.heap.size w w1 p (Sh.newSf 1 40) F1 := ⟨hS, hF, hb, hb.size⟩
    clear hS hF hb
    go_wp2_with fail
    refine (open_yes 0 a1.shelf (by decide)).mono ?_
    rintro e w2 ⟨rfl, hd, hb⟩
    have D2 := dv_open (a := w1.heap.size) a1 hd hb rfl
    have hc3 : Calm (Sh.newSf 1 40) 0 := calm_new (by decide)
    have HV3 := Lib.hid (show ∀ n, n < 40 → V (Sh.newSf 1 40) 0 n = Sh.noughts from fun n hn => V_new (by decide) hn)
    generalize w1.heap.size = a at *
    clear a1 hd hb
    have hL3 := new_small 1 40
    have hsec3 : (Sh.newSf 1 40).sectors = 40 := rfl
    generalize Sh.newSf 1 40 = S3 at *
    have Hsec3 := Lib.hid hsec3
    clear hsec3
    go_wp2_with fail
    refine (lives_true w2 (At.tabs D2.on hT hTB)).mono ?_
    rintro e w3 ⟨rfl, hb3⟩
    have D3 := D2.grown hb3
    clear D2 hb3
    have HCN := Lib.hid (show Calls Tryd.prog 28 #[.pointer (some ⟨a, 0, none⟩)] w3 fun e w8 => e = .returned (.int .i64 37) ∧ ∃ n, w8 = w3.drewN n from by
      have := count_of D3.dev D3.on.shelf (secM_of D3.on.shelf)
      rw [Hsec3.out] at this
      exact this)
    have hfin := Lib.hid (show Below w.heap.size w w3 from D3.on.bel)
    clear D3 hc3 hL3
    go_wp2_with (go_at_call 28; refine HCN.out.mono ?_; rintro e w8 ⟨rfl, m, rfl⟩)
    go_ret
    exact ⟨rfl, drawn hfin.out m⟩
  · have q0 : decide (b < 0) = false := decide_eq_false (by omega)
    have q1 : decide (b ≥ 37) = false := decide_eq_false (by omega)
    have q2 : decide (i < 0) = false := decide_eq_false (by omega)
    have q3 : decide (i > 127) = true := decide_eq_true h4
    go_enter Tryd.func9, Tryd.ntmps9
    go_wp2_with fail
    refine (Sh.new_ok 1 40 w (by decide) (by decide) (by decide) (by decide)).mono ?_
    rintro e w1 ⟨p, F1, rfl, hS, hF, hb⟩
    have a1 : Sh.At w.heap.size w w1 p (Sh.newSf 1 40) F1 := ⟨hS, hF, hb, hb.size⟩
    clear hS hF hb
    go_wp2_with fail
    refine (open_yes 0 a1.shelf (by decide)).mono ?_
    rintro e w2 ⟨rfl, hd, hb⟩
    have D2 := dv_open (a := w1.heap.size) a1 hd hb rfl
    have hc3 : Calm (Sh.newSf 1 40) 0 := calm_new (by decide)
    have HV3 := Lib.hid (show ∀ n, n < 40 → V (Sh.newSf 1 40) 0 n = Sh.noughts from fun n hn => V_new (by decide) hn)
    generalize w1.heap.size = a at *
    clear a1 hd hb
    have hL3 := new_small 1 40
    have hsec3 : (Sh.newSf 1 40).sectors = 40 := rfl
    generalize Sh.newSf 1 40 = S3 at *
    have Hsec3 := Lib.hid hsec3
    clear hsec3
    go_wp2_with fail
    refine (lives_true w2 (At.tabs D2.on hT hTB)).mono ?_
    rintro e w3 ⟨rfl, hb3⟩
    have D3 := D2.grown hb3
    clear D2 hb3
    have HCN := Lib.hid (show Calls Tryd.prog 28 #[.pointer (some ⟨a, 0, none⟩)] w3 fun e w8 => e = .returned (.int .i64 37) ∧ ∃ n, w8 = w3.drewN n from by
      have := count_of D3.dev D3.on.shelf (secM_of D3.on.shelf)
      rw [Hsec3.out] at this
      exact this)
    have hfin := Lib.hid (show Below w.heap.size w w3 from D3.on.bel)
    clear D3 hc3 hL3
    go_wp2_with (go_at_call 28; refine HCN.out.mono ?_; rintro e w8 ⟨rfl, m, rfl⟩)
    go_ret
    exact ⟨rfl, drawn hfin.out m⟩
set_option maxRecDepth 100000 in
set_option maxHeartbeats 8000000 in
theorem mid {w : World} (k i : Nat) (hkb : k < 37) (hi : i < 128) (x : Nat) (hx : x < 256) (y : Nat) (hy : y < 256) (A : Option Addr) (n c : Nat) (ks : List (List Int)) (hn : n ≤ 9223372036854775807) (hks : KeepIs w (Old w) A n ks) (hT : Tabs w) :
    Calls Tryd.prog 9 #[.int .i64 k, .int .i64 i, .int .u8 x, .int .u8 y, .slice A n c] w fun e w' => e = .returned (.bool true) ∧ Below w.heap.size w w' := by
  have hTB := hT.size
  have HK := Lib.hid hks
  have q1 : ((37 : Int) ≤ (k : Int)) = False := by simp; omega
  have q2 : ((127 : Int) < (i : Int)) = False := by simp; omega
  have hkb' : k < blk 40 := hkb
  obtain ⟨hkd, hksm, hkne⟩ := sum_of_lt (n := 40) hkb'
  clear hks
  go_enter Tryd.func9, Tryd.ntmps9
  go_wp2_with fail
  refine (Sh.new_ok 1 40 w (by decide) (by decide) (by decide) (by decide)).mono ?_
  rintro e w1 ⟨p, F1, rfl, hS, hF, hb⟩
  have a1 : Sh.At w.heap.size w w1 p (Sh.newSf 1 40) F1 := ⟨hS, hF, hb, hb.size⟩
  clear hS hF hb
  go_wp2_with fail
  refine (open_yes 0 a1.shelf (by decide)).mono ?_
  rintro e w2 ⟨rfl, hd, hb⟩
  have D2 := dv_open (a := w1.heap.size) a1 hd hb rfl
  have hc3 : Calm (Sh.newSf 1 40) 0 := calm_new (by decide)
  have HV3 := Lib.hid (show ∀ n, n < 40 → V (Sh.newSf 1 40) 0 n = Sh.noughts from fun n hn => V_new (by decide) hn)
  generalize w1.heap.size = a at *
  clear a1 hd hb
  have hL3 := new_small 1 40
  have hsec3 : (Sh.newSf 1 40).sectors = 40 := rfl
  generalize Sh.newSf 1 40 = S3 at *
  have Hsec3 := Lib.hid hsec3
  clear hsec3
  go_wp2_with fail
  refine (lives_true w2 (At.tabs D2.on hT hTB)).mono ?_
  rintro e w3 ⟨rfl, hb3⟩
  have D3 := D2.grown hb3
  clear D2 hb3
  have HCN := Lib.hid (show Calls Tryd.prog 28 #[.pointer (some ⟨a, 0, none⟩)] w3 fun e w8 => e = .returned (.int .i64 37) ∧ ∃ n, w8 = w3.drewN n from by
    have := count_of D3.dev D3.on.shelf (secM_of D3.on.shelf)
    rw [Hsec3.out] at this
    exact this)
  have hs3 : S3.sectors = 40 := Hsec3.out
  have hk3 : k < blk S3.sectors := by rw [hs3]; exact hkb
  go_wp2_with fail
  refine HCN.out.mono ?_
  rintro e w3d ⟨rfl, m3, rfl⟩
  have D4 := D3.grown (drawn (Below.refl _ w3) m3)
  have hc4 := hc3
  have hL4 := hL3
  have hs4 := hs3
  have hk4 := hk3
  clear D3 HCN hc3 hL3 hk3
  generalize w3.drewN m3 = w4 at *
  go_wp2_with fail
  refine (place_yes k (by omega) w4).mono ?_
  rintro e w' ⟨rfl, rfl⟩
  go_wp2_with fail
  refine (Sh.sector_any w4 3 (by decide)).mono ?_
  rintro e w4a ⟨rfl, ho, hb⟩
  have D4a := D4.grown hb
  have y4 := sector_with D4 ho
  clear D4 ho hb
  go_wp2_with fail
  refine (write_calm D4a hT hTB hc4 k hk4 (Sh.secOf 3) (Sh.secOf_sec (by decide)) y4 hL4).mono ?_
  rintro e w5 ⟨rfl, S5, hP5, F5, D5, _⟩
  have hc5 := hP5.over.calm
  have hL5 := hP5.small hL4
  have hs5 : S5.sectors = 40 := by rw [hP5.over.sectors]; exact hs4
  have hk5 : k < blk S5.sectors := by rw [hs5]; exact hkb
  clear D4a y4
  go_wp2_with fail
  refine (flush_calm D5 hc5 (fun k hk => by have := hL5 k hk; omega)).mono ?_
  rintro e w6 ⟨rfl, F6, D6, _⟩
  have hc6 := hc5.fl
  have hw6 := hc5.waits_fl
  have hV6 := Lib.hid (fun m (hm : m < 40) => hc5.V_fl m (by rw [hs5]; exact hm))
  have hs6 : (Fl S5 0).sectors = 40 := by rw [fl_sectors]; exact hs5
  have hL6 : ∀ k ∈ (Fl S5 0).disks, k.waits.length + 3 < 1099511627776 := by
    intro x hx
    have := fl_waits (m := 1099511627773) (fun k hk => by have := hL5 k hk; omega) x hx
    omega
  generalize Fl S5 0 = S6 at *
  have hk6 : k < blk S6.sectors := by rw [hs6]; exact hkb
  clear D5
  go_wp2_with fail
  refine (Sh.corrupt_done w6 p 0 (dataOf k) i x hx D6.on.shelf hc6.lt (by rw [hs6]; exact hkd) hi (by rw [hw6]; rfl)).mono ?_
  rintro e w7 ⟨rfl, hl7⟩
  obtain ⟨F7, D7, _⟩ := D6.goes hl7
  obtain ⟨hO7, hV7, hw7⟩ := turn_calm hc6 hw6 (dataOf k) i x (by rw [hs6]; exact hkd)
  have hc7 := hO7.calm
  have hs7 : (S6.doCorrupt 0 (dataOf k) i x).sectors = 40 := hs6
  have hk7 : k < blk (S6.doCorrupt 0 (dataOf k) i x).sectors := by rw [hs7]; exact hkb
  have hL7 : ∀ z ∈ (S6.doCorrupt 0 (dataOf k) i x).disks, z.waits.length + 3 < 1099511627776 := by
    intro z hz
    have := hO7.waits (m := 1099511627773) (by rw [hw7]; decide) (fun k hk => by have := hL6 k hk; omega) z hz
    omega
  have hsec7 := V_sec D7.on.shelf hc7.lt (n := sumOf k) (by rw [hs7]; exact hksm)
  generalize S6.doCorrupt 0 (dataOf k) i x = S7 at *
  clear D6 hl7 hO7 hV7 hV6 hw7 hw6 hP5 hc6 hc5 hL6 hL5
  go_wp2_with fail
  refine (Sh.sector_any w7 y hy).mono ?_
  rintro e w7a ⟨rfl, ho, hb⟩
  have D7a := D7.grown hb
  have y7 := sector_with D7 ho
  clear D7 ho hb
  go_wp2_with fail
  refine (write_calm D7a hT hTB hc7 k hk7 (Sh.secOf y) (Sh.secOf_sec hy) y7 hL7).mono ?_
  rintro e w8 ⟨rfl, S8, hP8, F8, D8, _⟩
  have hc8 := hP8.over.calm
  have hL8 := hP8.small hL7
  have hs8 : S8.sectors = 40 := by rw [hP8.over.sectors]; exact hs7
  have hk8 : k < blk S8.sectors := by rw [hs8]; exact hkb
  clear D7a y7
  have hg8 := hP8.good hsec7.1 (Sh.secOf_sec hy).2
  have hd8 := hP8.data
  go_wp2_with fail
  refine (flush_calm D8 hc8 (fun k hk => by have := hL8 k hk; omega)).mono ?_
  rintro e w9 ⟨rfl, F9, D9, _⟩
  have hc9 := hc8.fl
  have hw9 := hc8.waits_fl
  have hV9 := Lib.hid (fun m (hm : m < 40) => hc8.V_fl m (by rw [hs8]; exact hm))
  have hs9 : (Fl S8 0).sectors = 40 := by rw [fl_sectors]; exact hs8
  have hL9 : ∀ k ∈ (Fl S8 0).disks, k.waits.length + 3 < 1099511627776 := by
    intro x hx
    have := fl_waits (m := 1099511627773) (fun k hk => by have := hL8 k hk; omega) x hx
    omega
  generalize Fl S8 0 = S9 at *
  have hk9 : k < blk S9.sectors := by rw [hs9]; exact hkb
  clear D8
  have hg9 : goodAt S9 0 k = true := by rw [good_same (hV9.out _ hksm) (hV9.out _ hkd)]; exact hg8
  have hd9 : V S9 0 (dataOf k) = Sh.secOf y := by rw [hV9.out _ hkd]; exact hd8
  clear hP8 hg8 hd8 hV9 hc8 hL8 hsec7 hc7 hL7
  go_wp2_with fail
  refine (Sh.crash_of (W := w) (B := w.heap.size) rfl D9.on A n c HK.out hn (fun k hk => by have := hL9 k hk; omega)).mono ?_
  rintro e w10 ⟨rfl, hl10⟩
  obtain ⟨F10, D10, _⟩ := D9.goes hl10
  have hc10 := crash_calm ks hc9.lt hc9.alive hc9.len
  have hV10 := fun m => crash_V ks hc9.lt hw9 m
  have hs10 : (S9.crash ks).sectors = 40 := hs9
  have hlen10 : 0 < (S9.crash ks).disks.length := by rw [Sh.crash_length]; exact hc9.lt
  have hg10 : goodAt (S9.crash ks) 0 k = true := by rw [good_same (hV10 _) (hV10 _)]; exact hg9
  have hd10 : V (S9.crash ks) 0 (dataOf k) = Sh.secOf y := by rw [hV10]; exact hd9
  generalize S9.crash ks = S10 at *
  clear hV10 D9 hl10 hc9 hg9 hd9 hL9 hw9
  go_wp2_with fail
  refine (open_yes 0 D10.on.shelf hlen10).mono ?_
  rintro e w11 ⟨rfl, hd, hb⟩
  have D11 := dv_open (a := w10.heap.size) D10.on hd hb rfl
  have hk11 : k < blk S10.sectors := by rw [hs10]; exact hkb
  clear D10 hd hb
  go_wp2_with fail
  refine (read_calm D11 hT hTB hc10 k hk11 hg10).mono ?_
  rintro e w12 ⟨A12, c12, rfl, y12, D12, _⟩
  rw [hd10] at y12
  have z12 := beside_with D11 y12
  have hfin := Lib.hid D12.on.bel
  have hsz := Lib.hid D12.on.size
  clear D11 y12 D12 hg10 hd10 hc10 hk11
  generalize hsb : Sh.strL (Sh.secOf y) = sb at *
  have HSB := Lib.hid hsb
  have t1 := fun W (hb : Below w12.heap.size w12 W) => Sh.conv_grown (c := c12) z12 HSB.out W hb
  clear z12 hsb
  go_wp2_with fail
  refine wp_region_held_drew (S := fun W' => Below w12.heap.size w12 W') (by kernel_rfl) ((Below.refl _ _).drew) (fun hHeld => ?_)
  refine wpAnyH_take (i := 0) (oi := ⟨some 116, _, _, _, _, _⟩) (v := ?_) rfl (by kernel_rfl) (by kernel_rfl) (by kernel_rfl) (fun _ _ _ h => h) (Or.inl ⟨by rfl, ?_⟩) (by assumption) ?_
  rotate_left
  · (intro w hSw; (try dsimp only at hSw); go_simp; first | done | with_reducible rfl)
  try simp only [Act.put, List.setIfInBounds_toArray, List.set_cons_zero, List.set_cons_succ]
  refine wpAnyH_take (i := 1) (oi := ⟨some 117, _, _, _, _, _⟩) (v := ?_) rfl (by kernel_rfl) (by kernel_rfl) (by kernel_rfl) (fun _ _ _ h => h) (Or.inl ⟨by rfl, ?_⟩) (by assumption) ?_
  rotate_left
  · (intro w hSw; (try dsimp only at hSw); go_simp; first | done | with_reducible rfl)
  try simp only [Act.put, List.setIfInBounds_toArray, List.set_cons_zero, List.set_cons_succ]
  refine wpAnyH_take (i := 2) (oi := ⟨some 118, _, _, _, _, _⟩) (v := ?_) rfl (by kernel_rfl) (by kernel_rfl) (by kernel_rfl) (fun _ _ _ h => h) (Or.inl ⟨by rfl, ?_⟩) (by assumption) ?_
  rotate_left
  · (intro w hSw; (try dsimp only at hSw); go_simp; first | done | with_reducible rfl)
  try simp only [Act.put, List.setIfInBounds_toArray, List.set_cons_zero, List.set_cons_succ]
  refine wpAnyH_take (i := 3) (oi := ⟨some 119, _, _, _, _, _⟩) (v := ?_) rfl (by kernel_rfl) (by kernel_rfl) (by kernel_rfl) (fun _ _ _ h => h) (Or.inl ⟨by rfl, ?_⟩) (by assumption) ?_
  rotate_left
  · (intro w hSw; (try dsimp only at hSw); go_simp; first | done | with_reducible rfl)
  try simp only [Act.put, List.setIfInBounds_toArray, List.set_cons_zero, List.set_cons_succ]
  refine wpAnyH_take (i := 4) (oi := ⟨some 120, _, _, _, _, _⟩) (v := ?_) rfl (by kernel_rfl) (by kernel_rfl) (by kernel_rfl) (fun _ _ _ h => h) (Or.inl ⟨by rfl, ?_⟩) (by assumption) ?_
  rotate_left
  · (intro w hSw; (try dsimp only at hSw); go_simp; first | done | with_reducible rfl)
  try simp only [Act.put, List.setIfInBounds_toArray, List.set_cons_zero, List.set_cons_succ]
  refine wpAnyH_take (i := 5) (oi := ⟨some 121, _, _, _, _, _⟩) (v := ?_) rfl (by kernel_rfl) (by kernel_rfl) (by kernel_rfl) (fun _ _ _ h => h) (Or.inl ⟨by rfl, ?_⟩) (by assumption) ?_
  rotate_left
  · (intro w hSw; (try dsimp only at hSw); go_simp; first | done | with_reducible rfl)
  try simp only [Act.put, List.setIfInBounds_toArray, List.set_cons_zero, List.set_cons_succ]
  have hb9p := hHeld
  refine wpAnyH_ready (rs := [6]) (by kernel_rfl) (by simp) ?_
  refine AllReadyH.cons (o := ⟨some 122, _, _, _, _, _⟩) rfl (fun K hK => ?_) AllReadyH.nil
  go_simp
  refine (Sh.sector_any _ y hy).mono ?_
  rintro e w13 ⟨rfl, ho13, hb13⟩
  refine hK.out _ _ (hHeld.trans (hb13.mono hHeld.size)) (fun hHeld => ?_)
  clear hK K
  try simp only [Act.put, List.setIfInBounds_toArray, List.set_cons_zero, List.set_cons_succ]
  have hb13' : Below w12.heap.size w12 w13 := hHeld
  clear hHeld t1 hb9p
  refine Sh.wpAnyH_mono (S' := fun W' => Below w13.heap.size w13 W') (fun W' h => hb13'.trans (h.mono hb13'.size)) _ _ _ _ ?_
  have hHeld : Below w13.heap.size w13 w13 := Below.refl _ _
  have t2 := Sh.conv_own (q := w12.heap.size) ho13 HSB.out
  refine wpAnyH_take (i := 7) (oi := ⟨some 123, _, _, _, _, _⟩) (v := ?_) rfl (by kernel_rfl) (by kernel_rfl) (by kernel_rfl) (fun _ _ _ h => h) (Or.inl ⟨by rfl, ?_⟩) (by assumption) ?_
  rotate_left
  · (intro w hSw; (try dsimp only at hSw); go_simp; first | done | with_reducible rfl)
  try simp only [Act.put, List.setIfInBounds_toArray, List.set_cons_zero, List.set_cons_succ]
  refine wpAnyH_take (i := 8) (oi := ⟨some 124, _, _, _, _, _⟩) (v := ?_) rfl (by kernel_rfl) (by kernel_rfl) (by kernel_rfl) (fun _ _ _ h => h) (Or.inl ⟨by rfl, ?_⟩) (by assumption) ?_
  rotate_left
  · (intro w hSw; (try dsimp only at hSw); go_simp; first | done | with_reducible rfl)
  try simp only [Act.put, List.setIfInBounds_toArray, List.set_cons_zero, List.set_cons_succ]
  refine wpAnyH_take (i := 9) (oi := ⟨some 125, _, _, _, _, _⟩) (v := ?_) rfl (by kernel_rfl) (by kernel_rfl) (by kernel_rfl) (fun _ _ _ h => h) (Or.inl ⟨by rfl, ?_⟩) (by assumption) ?_
  rotate_left
  · (intro w hSw; (try dsimp only at hSw); go_simp; first | done | with_reducible rfl)
  try simp only [Act.put, List.setIfInBounds_toArray, List.set_cons_zero, List.set_cons_succ]
  refine wpAnyH_take (i := 10) (oi := ⟨some 10, _, _, _, _, _⟩) (v := ?_) rfl (by kernel_rfl) (by kernel_rfl) (by kernel_rfl) (fun _ _ _ h => h) (Or.inl ⟨by rfl, ?_⟩) (by assumption) ?_
  rotate_left
  · (intro w hSw; (try dsimp only at hSw); go_simp; first | done | with_reducible rfl)
  try simp only [Act.put, List.setIfInBounds_toArray, List.set_cons_zero, List.set_cons_succ]
  refine wpAnyH_done (by kernel_rfl) ?_ _
  go_wp2
  go_ret
  exact ⟨rfl, hfin.out.trans (hb13'.mono hsz.out)⟩
theorem walk {w : World} (b : Int) (_hb1 : -9223372036854775808 ≤ b) (_hb2 : b ≤ 9223372036854775807) (i : Int) (_hi1 : -9223372036854775808 ≤ i) (_hi2 : i ≤ 9223372036854775807) (x : Nat) (hx : x < 256) (y : Nat) (hy : y < 256) (A : Option Addr) (n c : Nat) (ks : List (List Int)) (hn : n ≤ 9223372036854775807) (hks : KeepIs w (Old w) A n ks) (hT : Tabs w) :
    Calls Tryd.prog 9 #[.int .i64 b, .int .i64 i, .int .u8 x, .int .u8 y, .slice A n c] w fun e w' => e = .returned (.bool true) ∧ Below w.heap.size w w' := by
  by_cases h : 0 ≤ b ∧ b < 37 ∧ 0 ≤ i ∧ i < 128
  · obtain ⟨k, rfl⟩ : ∃ k : Nat, b = (k : Int) := ⟨b.toNat, by omega⟩
    obtain ⟨j, rfl⟩ : ∃ j : Nat, i = (j : Int) := ⟨i.toNat, by omega⟩
    exact mid k j (by omega) (by omega) x hx y hy A n c ks hn hks hT
  · exact low b i (by omega) x y A n c hT
set_option maxRecDepth 100000 in
/-- WHAT THE WALK GIVES, FOR EVERY ARGUMENT AND EVERY WORLD THAT HOLDS THE TABLES. -/
theorem contract (H : Type) (enc : TypeId × Value → H) (W : World) (base : Nat) (args : Array Value) (ds gs : List (DataW H)) (before : List MemPlace)
    (hval : ∀ (j : Nat) t v, Tryd.f9.params[j]? = some t → args[j]? = some v → Value.okWide Tryd.prog W .any base t v)
    (hW : DataW.Whole enc Tryd.prog Tryd.f9.params.toList Rows.sumsMendSpec.vars false W args.toList ds gs before)
    (hsz : (DataW.weightsEach Tryd.prog (Tryd.f9.params.toList ++ (OpenSpec.ofChange Rows.sumsMendSpec).bare.plain.varTypes Tryd.prog) (ds ++ gs)).all (· ≤ reachBytes) = true) (hL : laidMetH Tryd.prog laidBoth W) :
    Calls Tryd.prog 9 args W fun e W' => ∃ v, e = .returned v ∧ Rows.sumsMendSpec.post enc Tryd.prog Tryd.f9 false true false false W args v W' := by
  have hW' := hW
  obtain ⟨p, q, hA0, hV, rfl, hfz, hnd⟩ := hW
  have hA : DataW.TrodAll enc Tryd.prog W 0 (fun _ => true) true Tryd.f9.params.toList args.toList ds p := hA0
  have hsz2 : (DataW.weightsEach Tryd.prog (Tryd.f9.params.toList ++ []) (ds ++ gs)).all (· ≤ reachBytes) = true := hsz
  rw [Tryd.params9] at hA hval hsz2
  obtain ⟨v0, vs0, d0, ds0, p0, q0, hargs, rfl, rfl, h0, r0⟩ := trodAll_cons hA
  obtain ⟨v1, vs1, d1, ds1, p1, q1, rfl, rfl, rfl, h1, r1⟩ := trodAll_cons r0
  obtain ⟨v2, vs2, d2, ds2, p2, q2, rfl, rfl, rfl, h2, r2⟩ := trodAll_cons r1
  obtain ⟨v3, vs3, d3, ds3, p3, q3, rfl, rfl, rfl, h3, r3⟩ := trodAll_cons r2
  obtain ⟨v4, vs4, d4, ds4, p4, q4, rfl, rfl, rfl, h4, r4⟩ := trodAll_cons r3
  obtain ⟨rfl, rfl, rfl⟩ := trodAll_nil r4
  obtain rfl : args = #[v0, v1, v2, v3, v4] := by cases args; simp_all
  obtain ⟨rfl, rfl⟩ := trodVars_none hV
  obtain ⟨a0, rfl, rfl, rfl, w0⟩ := open_int Tryd.underlying3 (hval 0 3 v0 rfl rfl) h0
  have bd0 := bounds_i64 w0
  obtain ⟨a1, rfl, rfl, rfl, w1⟩ := open_int Tryd.underlying3 (hval 1 3 v1 rfl rfl) h1
  have bd1 := bounds_i64 w1
  obtain ⟨a2, rfl, rfl, rfl, w2⟩ := open_int Tryd.underlying5 (hval 2 5 v2 rfl rfl) h2
  have bd2 := bounds_u8 w2
  obtain ⟨m2, hm2⟩ : ∃ m : Nat, a2 = (m : Int) := ⟨a2.toNat, by omega⟩
  obtain ⟨a3, rfl, rfl, rfl, w3⟩ := open_int Tryd.underlying5 (hval 3 5 v3 rfl rfl) h3
  have bd3 := bounds_u8 w3
  obtain ⟨m3, hm3⟩ : ∃ m : Nat, a3 = (m : Int) := ⟨a3.toNat, by omega⟩
  obtain ⟨A4, n4, c4, rfl⟩ := okWide_slice Tryd.underlying33 (hval 4 33 v4 rfl rfl)
  have k4 := h4
  have lt4 : ∀ x ∈ p4, x.block < W.heap.size := by obtain ⟨m, hm⟩ := k4; exact DataW.trod_lt m _ _ _ hm
  obtain ⟨ks4, nb4, hk4⟩ : ∃ ks : List (List Int), n4 ≤ 9223372036854775807 ∧ KeepIs W (Old W) A4 n4 ks := by obtain ⟨fuel, hf⟩ := h4; exact keep_in (by simpa [Value.cells] using hf)
  have hT := tabs_of_laid hL
  subst hm2
  subst hm3
  refine (walk a0 bd0.1 bd0.2 a1 bd1.1 bd1.2 m2 (by omega) m3 (by omega) A4 n4 c4 ks4 nb4 hk4 hT).mono fun e W' ⟨he, bel⟩ => ?_
  subst he
  exact ⟨_, rfl, _, _, _, [], _, [], hW', trodAll_mk1 (shut_bool Tryd.underlying4 _), (trodAll_cons_mk (shut_int Tryd.underlying3 w0) (trodAll_cons_mk (shut_int Tryd.underlying3 w1) (trodAll_cons_mk (shut_int Tryd.underlying5 w2) (trodAll_cons_mk (shut_int Tryd.underlying5 w3) (trodAll_cons_mk (Below.trod laidOut (by kernel_rfl) (of_decide_eq_true (by kernel_rfl)) k4 bel lt4) trodAll_mk0))))), rfl, bel.frame _, fun h => by cases h⟩

theorem laid_met (os : Os) : laidMetH Tryd.prog laidBoth ((laidWorld os).forCall (fun _ _ => 0) ⟨#[], #[.int .i64 0, .int .i64 0, .int .u8 0, .int .u8 0, .slice none 0 0], []⟩).memory :=
  laidMetH_of_parts3 (fuel := 8) (laidMet_of_run' 8 (by kernel_rfl) (by kernel_rfl)) (by kernel_rfl) (by kernel_rfl)
theorem reads (os : Os) {H : Type} (enc : TypeId × Value → H) : ∃ places, DataW.whole enc Tryd.prog ((laidWorld os).forCall (fun _ _ => 0) ⟨#[], #[.int .i64 0, .int .i64 0, .int .u8 0, .int .u8 0, .slice none 0 0], []⟩).memory Tryd.f9.params.toList Rows.sumsMendSpec.vars false (#[.int .i64 0, .int .i64 0, .int .u8 0, .int .u8 0, .slice none 0 0] : Array Value).toList 8 = some ([.lit (.int .i64 0), .lit (.int .i64 0), .lit (.int .u8 0), .lit (.int .u8 0), .nil], [], places) :=
  ⟨[], by kernel_rfl⟩
set_option maxRecDepth 100000 in
theorem lifted (os : Os) (started : os.Started) (H : Type) (enc : TypeId × Value → H) (F : Stop.Interp) :
    ReturnsInHanded {} Tryd.checked os 9 .any ((OpenSpec.ofChange Rows.sumsMendSpec).preRow enc Tryd.prog Tryd.f9 Rows.sumsMendRow.domain false Rows.sumsMendRow.laid) (((OpenSpec.ofChange Rows.sumsMendSpec).at F).post enc Tryd.prog Tryd.f9 false true false false) := by
  obtain ⟨places, hx⟩ := reads os enc
  refine returnsInHanded_of_row (C := Tryd.checked) (s := (OpenSpec.ofChange Rows.sumsMendSpec)) own started (by kernel_rfl) Tryd.func9
    (witness_row_at (enc := enc) (C := Tryd.checked) false (laidWorld os) #[.int .i64 0, .int .i64 0, .int .u8 0, .int .u8 0, .slice none 0 0] rfl (by kernel_rfl) (by kernel_rfl) (by kernel_rfl)
      (OpenSpec.preRow_of_cond 8 hx (by kernel_rfl) (fun k hk => by cases hk) (by kernel_rfl) (laid_met os))) ?_
  intro W base args ds gs before hval hW _ hcond hsz hL _ _
  exact contract H enc W base args ds gs before hval hW hsz hL
theorem said : Rows.SumsMendSaid :=
  OpenClaim.holds_of_cond 9 Tryd.f9 rfl rfl rfl rfl rfl rfl rfl ⟨rfl, rfl, rfl, rfl, rfl⟩ rfl rfl rfl rfl rfl (by kernel_rfl) Tryd.func9 (by kernel_rfl)
    (of_decide_eq_true (by kernel_rfl)) (by unfold Func.isWrapper; first | (rw [if_pos (by decide +kernel)]; kernel_rfl) | (rw [if_neg (by decide +kernel)]; exact ⟨rfl, rfl⟩))
    (fun os started H enc _ F => by rw [OpenClaim.pre_eq_preRow]; exact lifted os started H enc F)
theorem plain (f : FuncId) (fn : Func) (hf : Tryd.pinned.checked.prog.funcNamed "ashlar/ashlarlaw06.SumsMend" = some f) (hfn : Tryd.pinned.checked.prog.funcs[f]? = some fn) :
    false = Tryd.pinned.checked.prog.looks [] ∧ ∀ (j : Nat) t, fn.params[j]? = some t → Tryd.pinned.checked.prog.wantsStandIn t = false := by
  obtain rfl : f = 9 := Option.some.inj ((show Tryd.prog.funcNamed "ashlar/ashlarlaw06.SumsMend" = some 9 by kernel_rfl).symm.trans hf) |>.symm
  obtain rfl : fn = Tryd.f9 := (Option.some.inj (Tryd.func9.symm.trans hfn)).symm
  refine ⟨by kernel_rfl, fun j t ht => ?_⟩
  rw [Tryd.params9] at ht
  have hm : t ∈ [3, 3, 5, 5, 33] := by simpa using Array.mem_of_getElem? ht
  have hall : ([3, 3, 5, 5, 33].all fun u => !Tryd.prog.wantsStandIn u) = true := by kernel_rfl
  exact (show Tryd.prog.wantsStandIn t = false by simpa using List.all_eq_true.1 hall t hm)

/-- ████ THE CARD ████ -/
theorem card : Rows.SumsMendCardSaid :=
  Claim7.holds_tied_plain_at .later [] _ _ _ _ said (fun _ h => by cases h) (by kernel_rfl) (fun _ h => by cases h) sumsMend_row_tie rfl ⟨rfl, rfl⟩ (by kernel_rfl) rfl plain (by kernel_rfl)
end Go.Proofs.YtjdjpafnakhpcaaDoor.U.sumsMend
