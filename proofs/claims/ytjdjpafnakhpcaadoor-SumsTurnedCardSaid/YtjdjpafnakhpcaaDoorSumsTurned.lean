/-
  SumsTurned is true: a block of which one byte was turned is bad, unless the sum of what it has then stands there.
  Conditions: the package-level variables start as the program's text lays them.
-/
import Derived.Test.YtjdjpafnakhpcaaDoorUv
import Derived.Deep.RegionHeld3
namespace Go.Proofs.YtjdjpafnakhpcaaDoor.U.sumsTurned
open Go.ChangeShapes Go.WideShapes Go.ChangeAt Go.RowKit

theorem bts_set' (l : List Nat) (i v : Nat) : bts (l.set i v) = (bts l).set i (.int .u8 (v : Int)) := by simp [bts, List.map_set]
theorem secOf_len' (z : Nat) : (Sh.secOf z).length = 128 := Sh.secOf_len z
theorem own_cell {w : World} {B g n : Nat} {l : List Nat} (h : w.ownsRow B 5 1 (.slice (some ⟨g, 0, none⟩) n n) n (bts l)) (i : Nat) (hi : i < n) (hl : l.length = n) : w.cell? ⟨g, i, none⟩ = some (.int .u8 ((l.getD i 0 : Nat) : Int)) ∧ w.frozen? ⟨g, i, none⟩ = false := by
  refine ⟨Sh.cell_at h (bts_get l i (by omega)), ?_⟩
  rcases h.2 with ⟨_, h0⟩ | ⟨g', cap, cur, e, _, hh, _⟩
  · omega
  · injection e with e _ _
    injection e with e
    injection e with e _ _
    subst e
    exact frozen_of_row _ _ _ _ _ hh
set_option maxRecDepth 100000 in
set_option maxHeartbeats 4000000 in
theorem low {w : World} (b i : Int) (hbi : b < 0 ∨ (0 ≤ b ∧ 37 ≤ b) ∨ (0 ≤ b ∧ b < 37 ∧ i < 0) ∨ (0 ≤ b ∧ b < 37 ∧ 0 ≤ i ∧ 127 < i)) (y z : Nat) (hy : y < 256) (x : Nat) (hT : Tabs w) :
    Calls Tryd.prog 7 #[.int .i64 b, .int .u8 y, .int .u8 z, .int .i64 i, .int .u8 x] w fun e w' => e = .returned (.bool true) ∧ Below w.heap.size w w' := by
  have hTB := hT.size
  rcases hbi with h1 | ⟨h1, h2⟩ | ⟨h1, h2, h3⟩ | ⟨h1, h2, h3, h4⟩
  · have q0 : decide (b < 0) = true := decide_eq_true h1
    go_enter Tryd.func7, Tryd.ntmps7
    go_wp2_with fail
    refine (Sh.new_ok 3 40 w (by decide) (by decide) (by decide) (by decide)).mono ?_
    rintro e w1 ⟨p, F1, rfl, hS, hF, hb⟩
    have a1 : Sh.At w.heap.size w w1 p (Sh.newSf 3 40) F1 := ⟨hS, hF, hb, hb.size⟩
    clear hS hF hb
    go_wp2_with fail
    refine (open_yes 2 a1.shelf (by decide)).mono ?_
    rintro e w2 ⟨rfl, hd, hb⟩
    have D2 := dv_open (a := w1.heap.size) a1 hd hb rfl
    have hc3 : Calm (Sh.newSf 3 40) 2 := calm_new (by decide)
    have HV3 := Lib.hid (show ∀ n, n < 40 → V (Sh.newSf 3 40) 2 n = Sh.noughts from fun n hn => V_new (by decide) hn)
    generalize w1.heap.size = a at *
    clear a1 hd hb
    have hL3 := new_small 3 40
    have hsec3 : (Sh.newSf 3 40).sectors = 40 := rfl
    generalize Sh.newSf 3 40 = S3 at *
    have Hsec3 := Lib.hid hsec3
    clear hsec3
    go_wp2_with fail
    refine (lives_true w2 (At.tabs D2.on hT hTB)).mono ?_
    rintro e w3 ⟨rfl, hb3⟩
    have D3 := D2.grown hb3
    clear D2 hb3
    have HCN := Lib.hid (show Calls Tryd.prog 28 #[.pointer (some ⟨a, 0, none⟩)] w3 fun e w8 => e = .returned (.int .i64 37) ∧ ∃ n, w8 = w3.drewN n from by
      have := count_of D3.dev D3.on.shelf (secM_of D3.on.shelf)
      rw [Hsec3.out] at this
      exact this)
    go_wp2_with fail
    refine (Sh.sector_any _ y hy).mono ?_
    rintro e w4 ⟨rfl, ho, hb⟩
    have D4 := D3.grown hb
    clear ho hb
    go_wp2_with fail
    refine (write_no D4 b (by rw [Hsec3.out]; first | exact .inl h1 | exact .inr ⟨h1, h2⟩) _ _).mono ?_
    rintro e w5 ⟨rfl, hb5⟩
    have hfin := Lib.hid (D4.on.bel.trans (hb5.mono D4.on.size))
    clear D4 hb5 hc3 hL3
    go_wp2_with fail
    go_ret
    exact ⟨rfl, hfin.out⟩
  · have q0 : decide (b < 0) = false := decide_eq_false (by omega)
    have q1 : decide (b ≥ 37) = true := decide_eq_true h2
    go_enter Tryd.func7, Tryd.ntmps7
    go_wp2_with fail
    refine (Sh.new_ok 3 40 w (by decide) (by decide) (by decide) (by decide)).mono ?_
    rintro e w1 ⟨p, F1, rfl, hS, hF, hb⟩
    have a1 : Sh.At w.heap.size w w1 p (Sh.newSf 3 40) F1 := ⟨hS, hF, hb, hb.size⟩
    clear hS hF hb
    go_wp2_with fail
    refine (open_yes 2 a1.shelf (by decide)).mono ?_
    rintro e w2 ⟨rfl, hd, hb⟩
    have D2 := dv_open (a := w1.heap.size) a1 hd hb rfl
    have hc3 : Calm (Sh.newSf 3 40) 2 := calm_new (by decide)
    have HV3 := Lib.hid (show ∀ n, n < 40 → V (Sh.newSf 3 40) 2 n = Sh.noughts from fun n hn => V_new (by decide) hn)
    generalize w1.heap.size = a at *
    clear a1 hd hb
    have hL3 := new_small 3 40
    have hsec3 : (Sh.newSf 3 40).sectors = 40 := rfl
    generalize Sh.newSf 3 40 = S3 at *
    have Hsec3 := Lib.hid hsec3
    clear hsec3
    go_wp2_with fail
    refine (lives_true w2 (At.tabs D2.on hT hTB)).mono ?_
    rintro e w3 ⟨rfl, hb3⟩
    have D3 := D2.grown hb3
    clear D2 hb3
    have HCN := Lib.hid (show Calls Tryd.prog 28 #[.pointer (some ⟨a, 0, none⟩)] w3 fun e w8 => e = .returned (.int .i64 37) ∧ ∃ n, w8 = w3.drewN n from by
      have := count_of D3.dev D3.on.shelf (secM_of D3.on.shelf)
      rw [Hsec3.out] at this
      exact this)
    go_wp2_with fail
    refine HCN.out.mono ?_
    rintro e w3d ⟨rfl, m3, rfl⟩
    have D3d := D3.grown (drawn (Below.refl _ w3) m3)
    clear D3 HCN
    generalize w3.drewN m3 = w3d at *
    go_wp2_with fail
    refine (Sh.sector_any _ y hy).mono ?_
    rintro e w4 ⟨rfl, ho, hb⟩
    have D4 := D3d.grown hb
    clear ho hb
    go_wp2_with fail
    refine (write_no D4 b (by rw [Hsec3.out]; first | exact .inl h1 | exact .inr ⟨h1, h2⟩) _ _).mono ?_
    rintro e w5 ⟨rfl, hb5⟩
    have hfin := Lib.hid (D4.on.bel.trans (hb5.mono D4.on.size))
    clear D4 hb5 hc3 hL3
    go_wp2_with fail
    go_ret
    exact ⟨rfl, hfin.out⟩
  · obtain ⟨k, rfl⟩ : ∃ k : Nat, b = (k : Int) := ⟨b.toNat, by omega⟩
    have q1 : ((37 : Int) ≤ (k : Int)) = False := by simp; omega
    have q2 : decide (i < 0) = true := decide_eq_true h3
    go_enter Tryd.func7, Tryd.ntmps7
    go_wp2_with fail
    refine (Sh.new_ok 3 40 w (by decide) (by decide) (by decide) (by decide)).mono ?_
    rintro e w1 ⟨p, F1, rfl, hS, hF, hb⟩
    have a1 : Sh.At w.heap.size w w1 p (Sh.newSf 3 40) F1 := ⟨hS, hF, hb, hb.size⟩
    clear hS hF hb
    go_wp2_with fail
    refine (open_yes 2 a1.shelf (by decide)).mono ?_
    rintro e w2 ⟨rfl, hd, hb⟩
    have D2 := dv_open (a := w1.heap.size) a1 hd hb rfl
    have hc3 : Calm (Sh.newSf 3 40) 2 := calm_new (by decide)
    have HV3 := Lib.hid (show ∀ n, n < 40 → V (Sh.newSf 3 40) 2 n = Sh.noughts from fun n hn => V_new (by decide) hn)
    generalize w1.heap.size = a at *
    clear a1 hd hb
    have hL3 := new_small 3 40
    have hsec3 : (Sh.newSf 3 40).sectors = 40 := rfl
    generalize Sh.newSf 3 40 = S3 at *
    have Hsec3 := Lib.hid hsec3
    clear hsec3
    go_wp2_with fail
    refine (lives_true w2 (At.tabs D2.on hT hTB)).mono ?_
    rintro e w3 ⟨rfl, hb3⟩
    have D3 := D2.grown hb3
    clear D2 hb3
    have HCN := Lib.hid (show Calls Tryd.prog 28 #[.pointer (some ⟨a, 0, none⟩)] w3 fun e w8 => e = .returned (.int .i64 37) ∧ ∃ n, w8 = w3.drewN n from by
      have := count_of D3.dev D3.on.shelf (secM_of D3.on.shelf)
      rw [Hsec3.out] at this
      exact this)
    go_wp2_with fail
    refine HCN.out.mono ?_
    rintro e w3d ⟨rfl, m3, rfl⟩
    have D3d := D3.grown (drawn (Below.refl _ w3) m3)
    clear D3 HCN
    generalize w3.drewN m3 = w3d at *
    have hs3 : S3.sectors = 40 := Hsec3.out
    have hkb : k < 37 := by omega
    have hk3 : k < blk S3.sectors := by rw [hs3]; exact hkb
    go_wp2_with fail
    refine (Sh.sector_any w3d y hy).mono ?_
    rintro e w3a ⟨rfl, ho, hb⟩
    have D3a := D3d.grown hb
    have y3 := sector_with D3d ho
    clear D3d ho hb
    go_wp2_with fail
    refine (write_calm D3a hT hTB hc3 k hk3 (Sh.secOf y) (Sh.secOf_sec hy) y3 hL3).mono ?_
    rintro e w5 ⟨rfl, S5, hP5, F5, D5, _⟩
    have hc5 := hP5.over.calm
    have hL5 := hP5.small hL3
    have hs5 : S5.sectors = 40 := by rw [hP5.over.sectors]; exact hs3
    have hk5 : k < blk S5.sectors := by rw [hs5]; exact hkb
    clear D3a y3
    have hfin := Lib.hid (show Below w.heap.size w w5 from D5.on.bel)
    clear D5 hc3 hL3 hP5 hc5 hL5
    go_wp2_with fail
    go_ret
    exact ⟨rfl, hfin.out⟩
  · obtain ⟨k, rfl⟩ : ∃ k : Nat, b = (k : Int) := ⟨b.toNat, by omega⟩
    have q1 : ((37 : Int) ≤ (k : Int)) = False := by simp; omega
    have q2 : decide (i < 0) = false := decide_eq_false (by omega)
    have q3 : decide (i > 127) = true := decide_eq_true h4
    go_enter Tryd.func7, Tryd.ntmps7
    go_wp2_with fail
    refine (Sh.new_ok 3 40 w (by decide) (by decide) (by decide) (by decide)).mono ?_
    rintro e w1 ⟨p, F1, rfl, hS, hF, hb⟩
    have a1 : Sh.At w.heap.size w w1 p (Sh.newSf 3 40) F1 := ⟨hS, hF, hb, hb.size⟩
    clear hS hF hb
    go_wp2_with fail
    refine (open_yes 2 a1.shelf (by decide)).mono ?_
    rintro e w2 ⟨rfl, hd, hb⟩
    have D2 := dv_open (a := w1.heap.size) a1 hd hb rfl
    have hc3 : Calm (Sh.newSf 3 40) 2 := calm_new (by decide)
    have HV3 := Lib.hid (show ∀ n, n < 40 → V (Sh.newSf 3 40) 2 n = Sh.noughts from fun n hn => V_new (by decide) hn)
    generalize w1.heap.size = a at *
    clear a1 hd hb
    have hL3 := new_small 3 40
    have hsec3 : (Sh.newSf 3 40).sectors = 40 := rfl
    generalize Sh.newSf 3 40 = S3 at *
    have Hsec3 := Lib.hid hsec3
    clear hsec3
    go_wp2_with fail
    refine (lives_true w2 (At.tabs D2.on hT hTB)).mono ?_
    rintro e w3 ⟨rfl, hb3⟩
    have D3 := D2.grown hb3
    clear D2 hb3
    have HCN := Lib.hid (show Calls Tryd.prog 28 #[.pointer (some ⟨a, 0, none⟩)] w3 fun e w8 => e = .returned (.int .i64 37) ∧ ∃ n, w8 = w3.drewN n from by
      have := count_of D3.dev D3.on.shelf (secM_of D3.on.shelf)
      rw [Hsec3.out] at this
      exact this)
    go_wp2_with fail
    refine HCN.out.mono ?_
    rintro e w3d ⟨rfl, m3, rfl⟩
    have D3d := D3.grown (drawn (Below.refl _ w3) m3)
    clear D3 HCN
    generalize w3.drewN m3 = w3d at *
    have hs3 : S3.sectors = 40 := Hsec3.out
    have hkb : k < 37 := by omega
    have hk3 : k < blk S3.sectors := by rw [hs3]; exact hkb
    go_wp2_with fail
    refine (Sh.sector_any w3d y hy).mono ?_
    rintro e w3a ⟨rfl, ho, hb⟩
    have D3a := D3d.grown hb
    have y3 := sector_with D3d ho
    clear D3d ho hb
    go_wp2_with fail
    refine (write_calm D3a hT hTB hc3 k hk3 (Sh.secOf y) (Sh.secOf_sec hy) y3 hL3).mono ?_
    rintro e w5 ⟨rfl, S5, hP5, F5, D5, _⟩
    have hc5 := hP5.over.calm
    have hL5 := hP5.small hL3
    have hs5 : S5.sectors = 40 := by rw [hP5.over.sectors]; exact hs3
    have hk5 : k < blk S5.sectors := by rw [hs5]; exact hkb
    clear D3a y3
    have hfin := Lib.hid (show Below w.heap.size w w5 from D5.on.bel)
    clear D5 hc3 hL3 hP5 hc5 hL5
    go_wp2_with fail
    go_ret
    exact ⟨rfl, hfin.out⟩
set_option maxRecDepth 100000 in
set_option maxHeartbeats 8000000 in
theorem mid {w : World} (k i : Nat) (hkb : k < 37) (hi : i < 128) (y z : Nat) (hy : y < 256) (hz : z < 256) (x : Nat) (hx : x < 256) (hT : Tabs w) :
    Calls Tryd.prog 7 #[.int .i64 k, .int .u8 y, .int .u8 z, .int .i64 i, .int .u8 x] w fun e w' => e = .returned (.bool true) ∧ Below w.heap.size w w' := by
  have hTB := hT.size
  have q1 : ((37 : Int) ≤ (k : Int)) = False := by simp; omega
  have q2 : ((127 : Int) < (i : Int)) = False := by simp; omega
  have hkb' : k < blk 40 := hkb
  obtain ⟨hkd, hksm, hkne⟩ := sum_of_lt (n := 40) hkb'
  go_enter Tryd.func7, Tryd.ntmps7
  go_wp2_with fail
  refine (Sh.new_ok 3 40 w (by decide) (by decide) (by decide) (by decide)).mono ?_
  rintro e w1 ⟨p, F1, rfl, hS, hF, hb⟩
  have a1 : Sh.At w.heap.size w w1 p (Sh.newSf 3 40) F1 := ⟨hS, hF, hb, hb.size⟩
  clear hS hF hb
  go_wp2_with fail
  refine (open_yes 2 a1.shelf (by decide)).mono ?_
  rintro e w2 ⟨rfl, hd, hb⟩
  have D2 := dv_open (a := w1.heap.size) a1 hd hb rfl
  have hc3 : Calm (Sh.newSf 3 40) 2 := calm_new (by decide)
  have HV3 := Lib.hid (show ∀ n, n < 40 → V (Sh.newSf 3 40) 2 n = Sh.noughts from fun n hn => V_new (by decide) hn)
  generalize w1.heap.size = a at *
  clear a1 hd hb
  have hL3 := new_small 3 40
  have hsec3 : (Sh.newSf 3 40).sectors = 40 := rfl
  generalize Sh.newSf 3 40 = S3 at *
  have Hsec3 := Lib.hid hsec3
  clear hsec3
  go_wp2_with fail
  refine (lives_true w2 (At.tabs D2.on hT hTB)).mono ?_
  rintro e w3 ⟨rfl, hb3⟩
  have D3 := D2.grown hb3
  clear D2 hb3
  have HCN := Lib.hid (show Calls Tryd.prog 28 #[.pointer (some ⟨a, 0, none⟩)] w3 fun e w8 => e = .returned (.int .i64 37) ∧ ∃ n, w8 = w3.drewN n from by
    have := count_of D3.dev D3.on.shelf (secM_of D3.on.shelf)
    rw [Hsec3.out] at this
    exact this)
  have hs3 : S3.sectors = 40 := Hsec3.out
  have hk3 : k < blk S3.sectors := by rw [hs3]; exact hkb
  go_wp2_with fail
  refine HCN.out.mono ?_
  rintro e w3d ⟨rfl, m3, rfl⟩
  have D3d := D3.grown (drawn (Below.refl _ w3) m3)
  clear D3 HCN
  generalize w3.drewN m3 = w3d at *
  have D4 := D3d
  have hc4 := hc3
  have hL4 := hL3
  have hs4 := hs3
  have hk4 := hk3
  clear D3d hc3 hL3 hk3
  go_wp2_with fail
  refine (Sh.sector_any w3d y hy).mono ?_
  rintro e w4a ⟨rfl, ho, hb⟩
  have D4a := D4.grown hb
  have y4 := sector_with D4 ho
  clear D4 ho hb
  go_wp2_with fail
  refine (write_calm D4a hT hTB hc4 k hk4 (Sh.secOf y) (Sh.secOf_sec hy) y4 hL4).mono ?_
  rintro e w5 ⟨rfl, S5, hP5, F5, D5, _⟩
  have hc5 := hP5.over.calm
  have hL5 := hP5.small hL4
  have hs5 : S5.sectors = 40 := by rw [hP5.over.sectors]; exact hs4
  have hk5 : k < blk S5.sectors := by rw [hs5]; exact hkb
  clear D4a y4
  go_wp2_with fail
  refine (Sh.sector_any w5 z hz).mono ?_
  rintro e w5a ⟨rfl, ho, hb⟩
  have D5a := D5.grown hb
  have y5 := sector_with D5 ho
  clear D5 ho hb
  go_wp2_with fail
  refine (write_calm D5a hT hTB hc5 k hk5 (Sh.secOf z) (Sh.secOf_sec hz) y5 hL5).mono ?_
  rintro e w6 ⟨rfl, S6, hP6, F6, D6, _⟩
  have hc6 := hP6.over.calm
  have hL6 := hP6.small hL5
  have hs6 : S6.sectors = 40 := by rw [hP6.over.sectors]; exact hs5
  have hk6 : k < blk S6.sectors := by rw [hs6]; exact hkb
  clear D5a y5
  have hl5 := (V_sec D6.on.shelf hc6.lt (n := sumOf k) (by rw [hs6]; exact hksm)).1
  go_wp2_with fail
  refine (flush_calm D6 hc6 (fun k hk => by have := hL6 k hk; omega)).mono ?_
  rintro e w7 ⟨rfl, F7, D7, _⟩
  have hc7 := hc6.fl
  have hw7 := hc6.waits_fl
  have hV7 := Lib.hid (fun m (hm : m < 40) => hc6.V_fl m (by rw [hs6]; exact hm))
  have hs7 : (Fl S6 2).sectors = 40 := by rw [fl_sectors]; exact hs6
  have hL7 : ∀ k ∈ (Fl S6 2).disks, k.waits.length + 3 < 1099511627776 := by
    intro x hx
    have := fl_waits (m := 1099511627773) (fun k hk => by have := hL6 k hk; omega) x hx
    omega
  generalize Fl S6 2 = S7 at *
  have hk7 : k < blk S7.sectors := by rw [hs7]; exact hkb
  clear D6
  have hd7 : V S7 2 (dataOf k) = Sh.secOf z := by rw [hV7.out _ hkd]; exact hP6.data
  go_wp2_with fail
  refine (place_yes k (by omega) w7).mono ?_
  rintro e w' ⟨rfl, rfl⟩
  go_wp2_with fail
  refine (Sh.corrupt_done w7 p 2 (dataOf k) i x hx D7.on.shelf hc7.lt (by rw [hs7]; exact hkd) hi (by rw [hw7]; rfl)).mono ?_
  rintro e w8 ⟨rfl, hl8⟩
  obtain ⟨F8, D8, _⟩ := D7.goes hl8
  obtain ⟨hO8, hV8, hw8⟩ := turn_calm hc7 hw7 (dataOf k) i x (by rw [hs7]; exact hkd)
  have hc8 := hO8.calm
  have hs8 : (S7.doCorrupt 2 (dataOf k) i x).sectors = 40 := hs7
  have hk8 : k < blk (S7.doCorrupt 2 (dataOf k) i x).sectors := by rw [hs8]; exact hkb
  have hL8 : ∀ z ∈ (S7.doCorrupt 2 (dataOf k) i x).disks, z.waits.length + 3 < 1099511627776 := by
    intro z hz
    have := hO8.waits (m := 1099511627773) (by rw [hw8]; decide) (fun k hk => by have := hL7 k hk; omega) z hz
    omega
  have hsec8 := V_sec D8.on.shelf hc8.lt (n := sumOf k) (by rw [hs8]; exact hksm)
  rw [hd7] at hV8
  generalize S7.doCorrupt 2 (dataOf k) i x = S8 at *
  clear D7 hl8 hO8 hV7 hw8 hw7 hP5 hP6 hc6 hc5 hL6 hL5 hd7 hc7 hL7 hl5
  go_wp2_with fail
  refine (Sh.sector_any w8 z hz).mono ?_
  rintro e w9 ⟨rfl, ho9, hb9⟩
  have D9 := D8.grown hb9
  have hst := ho9.stored i (.int .u8 (((Sh.secOf z).getD i 0 ^^^ x : Nat) : Int))
  have hrow9 : (w9.setCell ⟨w8.heap.size, i, none⟩ (.int .u8 (((Sh.secOf z).getD i 0 ^^^ x : Nat) : Int))).ownsRow w8.heap.size 5 1 (.slice (some ⟨w8.heap.size, 0, none⟩) 128 128) 128 (bts (Sh.turnB (Sh.secOf z) i x)) := by
    have := hst.1
    unfold Sh.turnB
    rw [bts_set']
    exact this
  have hyb : (Sh.secOf z).getD i 0 < 256 := (Sh.secOf_sec hz).2.get i
  have hxor : bits .xor .u8 (((Sh.secOf z).getD i 0 : Nat) : Int) (x : Int) = (((Sh.secOf z).getD i 0 ^^^ x : Nat) : Int) := u8_xor_nat _ x hyb hx
  obtain ⟨kc, kf⟩ := own_cell ho9 i hi (secOf_len' z)
  have D10 := Lib.hid (dv_over D9 (Sh.Only.setCell (F := fun b => b = w8.heap.size) (p := ⟨w8.heap.size, i, none⟩) (Sh.Only.refl _ w9) (.inl (show w8.heap.size = w8.heap.size from rfl)) (.int .u8 (((Sh.secOf z).getD i 0 ^^^ x : Nat) : Int))) (fun e => Nat.lt_irrefl _ (with_lt D8 _ e)) D8.on.size)
  have T10 := Lib.hid (show Sh.Reads _ _ (some ⟨w8.heap.size, 0, none⟩) 128 (bts (Sh.turnB (Sh.secOf z) i x)) from Sh.Reads.of_own hrow9)
  have htl := Lib.hid (Sh.turnB_sec (i := i) (Sh.secOf_sec hz) hx)
  have HN10 := Lib.hid (show ¬ With F8 a w8.heap.size from fun e => Nat.lt_irrefl _ (with_lt D8 _ e))
  have hil : decide (i < 128) = true := decide_eq_true hi
  clear ho9 hb9 hst hrow9 hyb D9 D8
  generalize hyy : (Sh.secOf z).getD i 0 = yy at *
  generalize htt : Sh.turnB (Sh.secOf z) i x = tt at *
  clear hyy htt
  go_wp2_with fail
  generalize w9.setCell ⟨w8.heap.size, i, none⟩ (.int .u8 ((yy ^^^ x : Nat) : Int)) = w10 at *
  clear kc kf hxor
  refine (place_yes k (by omega) w10).mono ?_
  rintro e w' ⟨rfl, rfl⟩
  go_wp2_with fail
  refine (Sh.read_done w10 p 2 (sumOf k) D10.out.on.shelf hc8.lt (by rw [hs8]; exact hksm) hc8.why).mono ?_
  rintro e w11 ⟨A11, c11, rfl, y11, s11, o11⟩
  have D11 := D10.out.stays s11 o11
  have z11 := Sh.beside_read D10.out.on.shelf y11
  have T11 := (show Sh.Beside w10 F8 (some ⟨w8.heap.size, 0, none⟩) tt from ⟨T10.out, fun a ha e => by injection ha with ha; subst ha; exact HN10.out (.inl e)⟩).only o11
  have z11' : Sh.Beside w11 F8 A11 (V S8 2 (sumOf k)) := z11
  have hg : goodL 2 k (V S8 2 (sumOf k)) tt = goodAt S8 2 k := by unfold goodAt; rw [hV8]
  have hc11 : Calm S8.doRead 2 := ⟨hc8.lt, hc8.on, hc8.left, hc8.alive, hc8.len⟩
  have hL11 : ∀ z ∈ S8.doRead.disks, z.waits.length + 3 < 1099511627776 := hL8
  have hs11 : S8.doRead.sectors = 40 := hs8
  have hk11 : k < blk S8.doRead.sectors := hk8
  have hV11 : ∀ n, V S8.doRead 2 n = V S8 2 n := fun _ => rfl
  have hg11 : goodAt S8.doRead 2 k = goodAt S8 2 k := rfl
  clear y11 s11 o11 z11 D10 hc8 hL8 hk8
  have t1 := Sh.conv_grown (c := c11) z11' rfl w11 (Below.refl _ _)
  have t2 := Sh.conv_grown (c := 128) T11 rfl w11 (Below.refl _ _)
  have HGood := Lib.hid (fun w => refGood_any 2 k (by omega) (V S8 2 (sumOf k)) tt hsec8 htl.out w)
  rw [hg] at HGood
  have HV8 := Lib.hid hV8
  have HT11 := Lib.hid T11
  have Hg11 := Lib.hid hg11
  clear hg hg11 hV8 T11 z11' hV11 T10 hsec8
  generalize hgb : goodAt S8 2 k = gb at *
  have Hgb := Lib.hid hgb
  clear hgb
  go_wp2_with fail
  refine (HGood.out _).mono ?_
  rintro e w12 ⟨rfl, hb12⟩
  have D12 := D11.grown hb12
  have T12 := Lib.hid (HT11.out.grown hb12)
  clear D11 t1 t2 HT11
  cases gb
  · have hbad : goodAt S8.doRead 2 k = false := by rw [Hg11.out]
    go_wp2_with fail
    refine (read_bad D12 hT hTB hc11 k hk11 hbad).mono ?_
    rintro e w13 ⟨rfl, D13, _⟩
    have hc13 := hc11.looked 2
    have hL13 : ∀ z ∈ (Looked S8.doRead 2).disks, z.waits.length + 3 < 1099511627776 := by rw [looked_disks]; exact hL11
    have hs13 : (Looked S8.doRead 2).sectors = 40 := by rw [looked_sectors]; exact hs11
    have hk13 : k < blk (Looked S8.doRead 2).sectors := by rw [looked_sectors]; exact hk11
    have hsec13 := V_sec D13.on.shelf hc13.lt (n := sumOf k) (by rw [hs13]; exact hksm)
    clear D12 hbad
    generalize Looked S8.doRead 2 = S13 at *
    go_wp2_with fail
    refine (Sh.sector_any w13 y hy).mono ?_
    rintro e w13a ⟨rfl, ho, hb⟩
    have D13a := D13.grown hb
    have y13 := sector_with D13 ho
    clear D13 ho hb
    go_wp2_with fail
    refine (write_calm D13a hT hTB hc13 k hk13 (Sh.secOf y) (Sh.secOf_sec hy) y13 hL13).mono ?_
    rintro e w14 ⟨rfl, S14, hP14, F14, D14, _⟩
    have hc14 := hP14.over.calm
    have hL14 := hP14.small hL13
    have hs14 : S14.sectors = 40 := by rw [hP14.over.sectors]; exact hs13
    have hk14 : k < blk S14.sectors := by rw [hs14]; exact hkb
    clear D13a y13
    have hg14 := hP14.good hsec13.1 (Sh.secOf_sec hy).2
    have hd14 := hP14.data
    clear hP14 hL13 hc13 hsec13
    go_wp2_with fail
    refine (read_calm D14 hT hTB hc14 k hk14 hg14).mono ?_
    rintro e w15 ⟨A15, c15, rfl, y15, D15, _⟩
    rw [hd14] at y15
    have z15 := beside_with D14 y15
    have hfin := Lib.hid D15.on.bel
    have hsz := Lib.hid D15.on.size
    clear D14 y15 D15 hg14 hd14 hc14 hk14
    generalize hsb : Sh.strL (Sh.secOf y) = sb at *
    have HSB := Lib.hid hsb
    have t1 := fun W (hb : Below w15.heap.size w15 W) => Sh.conv_grown (c := c15) z15 HSB.out W hb
    clear z15 hsb
    go_wp2_with fail
    refine wp_region_held_drew (S := fun W' => Below w15.heap.size w15 W') (by kernel_rfl) ((Below.refl _ _).drew) (fun hHeld => ?_)
    refine wpAnyH_take (i := 0) (oi := ⟨some 175, _, _, _, _, _⟩) (v := ?_) rfl (by kernel_rfl) (by kernel_rfl) (by kernel_rfl) (fun _ _ _ h => h) (Or.inl ⟨by rfl, ?_⟩) (by assumption) ?_
    rotate_left
    · (intro w hSw; (try dsimp only at hSw); go_simp; first | done | with_reducible rfl)
    try simp only [Act.put, List.setIfInBounds_toArray, List.set_cons_zero, List.set_cons_succ]
    refine wpAnyH_take (i := 1) (oi := ⟨some 176, _, _, _, _, _⟩) (v := ?_) rfl (by kernel_rfl) (by kernel_rfl) (by kernel_rfl) (fun _ _ _ h => h) (Or.inl ⟨by rfl, ?_⟩) (by assumption) ?_
    rotate_left
    · (intro w hSw; (try dsimp only at hSw); go_simp; first | done | with_reducible rfl)
    try simp only [Act.put, List.setIfInBounds_toArray, List.set_cons_zero, List.set_cons_succ]
    refine wpAnyH_take (i := 2) (oi := ⟨some 177, _, _, _, _, _⟩) (v := ?_) rfl (by kernel_rfl) (by kernel_rfl) (by kernel_rfl) (fun _ _ _ h => h) (Or.inl ⟨by rfl, ?_⟩) (by assumption) ?_
    rotate_left
    · (intro w hSw; (try dsimp only at hSw); go_simp; first | done | with_reducible rfl)
    try simp only [Act.put, List.setIfInBounds_toArray, List.set_cons_zero, List.set_cons_succ]
    refine wpAnyH_take (i := 3) (oi := ⟨some 178, _, _, _, _, _⟩) (v := ?_) rfl (by kernel_rfl) (by kernel_rfl) (by kernel_rfl) (fun _ _ _ h => h) (Or.inl ⟨by rfl, ?_⟩) (by assumption) ?_
    rotate_left
    · (intro w hSw; (try dsimp only at hSw); go_simp; first | done | with_reducible rfl)
    try simp only [Act.put, List.setIfInBounds_toArray, List.set_cons_zero, List.set_cons_succ]
    refine wpAnyH_take (i := 4) (oi := ⟨some 179, _, _, _, _, _⟩) (v := ?_) rfl (by kernel_rfl) (by kernel_rfl) (by kernel_rfl) (fun _ _ _ h => h) (Or.inl ⟨by rfl, ?_⟩) (by assumption) ?_
    rotate_left
    · (intro w hSw; (try dsimp only at hSw); go_simp; first | done | with_reducible rfl)
    try simp only [Act.put, List.setIfInBounds_toArray, List.set_cons_zero, List.set_cons_succ]
    refine wpAnyH_take (i := 5) (oi := ⟨some 180, _, _, _, _, _⟩) (v := ?_) rfl (by kernel_rfl) (by kernel_rfl) (by kernel_rfl) (fun _ _ _ h => h) (Or.inl ⟨by rfl, ?_⟩) (by assumption) ?_
    rotate_left
    · (intro w hSw; (try dsimp only at hSw); go_simp; first | done | with_reducible rfl)
    try simp only [Act.put, List.setIfInBounds_toArray, List.set_cons_zero, List.set_cons_succ]
    refine wpAnyH_take (i := 6) (oi := ⟨some 181, _, _, _, _, _⟩) (v := ?_) rfl (by kernel_rfl) (by kernel_rfl) (by kernel_rfl) (fun _ _ _ h => h) (Or.inl ⟨by rfl, ?_⟩) (by assumption) ?_
    rotate_left
    · (intro w hSw; (try dsimp only at hSw); go_simp; first | done | with_reducible rfl)
    try simp only [Act.put, List.setIfInBounds_toArray, List.set_cons_zero, List.set_cons_succ]
    refine wpAnyH_take (i := 7) (oi := ⟨some 182, _, _, _, _, _⟩) (v := ?_) rfl (by kernel_rfl) (by kernel_rfl) (by kernel_rfl) (fun _ _ _ h => h) (Or.inl ⟨by rfl, ?_⟩) (by assumption) ?_
    rotate_left
    · (intro w hSw; (try dsimp only at hSw); go_simp; first | done | with_reducible rfl)
    try simp only [Act.put, List.setIfInBounds_toArray, List.set_cons_zero, List.set_cons_succ]
    refine wpAnyH_take (i := 8) (oi := ⟨some 183, _, _, _, _, _⟩) (v := ?_) rfl (by kernel_rfl) (by kernel_rfl) (by kernel_rfl) (fun _ _ _ h => h) (Or.inl ⟨by rfl, ?_⟩) (by assumption) ?_
    rotate_left
    · (intro w hSw; (try dsimp only at hSw); go_simp; first | done | with_reducible rfl)
    try simp only [Act.put, List.setIfInBounds_toArray, List.set_cons_zero, List.set_cons_succ]
    refine wpAnyH_take (i := 9) (oi := ⟨some 184, _, _, _, _, _⟩) (v := ?_) rfl (by kernel_rfl) (by kernel_rfl) (by kernel_rfl) (fun _ _ _ h => h) (Or.inl ⟨by rfl, ?_⟩) (by assumption) ?_
    rotate_left
    · (intro w hSw; (try dsimp only at hSw); go_simp; first | done | with_reducible rfl)
    try simp only [Act.put, List.setIfInBounds_toArray, List.set_cons_zero, List.set_cons_succ]
    have hb9p := hHeld
    refine wpAnyH_ready (rs := [10]) (by kernel_rfl) (by simp) ?_
    refine AllReadyH.cons (o := ⟨some 185, _, _, _, _, _⟩) rfl (fun K hK => ?_) AllReadyH.nil
    go_simp
    refine (Sh.sector_any _ y hy).mono ?_
    rintro e w16 ⟨rfl, ho16, hb16⟩
    refine hK.out _ _ (hHeld.trans (hb16.mono hHeld.size)) (fun hHeld => ?_)
    clear hK K
    try simp only [Act.put, List.setIfInBounds_toArray, List.set_cons_zero, List.set_cons_succ]
    have hb16' : Below w15.heap.size w15 w16 := hHeld
    clear hHeld t1 hb9p
    refine Sh.wpAnyH_mono (S' := fun W' => Below w16.heap.size w16 W') (fun W' h => hb16'.trans (h.mono hb16'.size)) _ _ _ _ ?_
    have hHeld : Below w16.heap.size w16 w16 := Below.refl _ _
    have t2 := Sh.conv_own (q := w15.heap.size) ho16 HSB.out
    refine wpAnyH_take (i := 11) (oi := ⟨some 186, _, _, _, _, _⟩) (v := ?_) rfl (by kernel_rfl) (by kernel_rfl) (by kernel_rfl) (fun _ _ _ h => h) (Or.inl ⟨by rfl, ?_⟩) (by assumption) ?_
    rotate_left
    · (intro w hSw; (try dsimp only at hSw); go_simp; first | done | with_reducible rfl)
    try simp only [Act.put, List.setIfInBounds_toArray, List.set_cons_zero, List.set_cons_succ]
    refine wpAnyH_take (i := 12) (oi := ⟨some 187, _, _, _, _, _⟩) (v := ?_) rfl (by kernel_rfl) (by kernel_rfl) (by kernel_rfl) (fun _ _ _ h => h) (Or.inl ⟨by rfl, ?_⟩) (by assumption) ?_
    rotate_left
    · (intro w hSw; (try dsimp only at hSw); go_simp; first | done | with_reducible rfl)
    try simp only [Act.put, List.setIfInBounds_toArray, List.set_cons_zero, List.set_cons_succ]
    refine wpAnyH_take (i := 13) (oi := ⟨some 188, _, _, _, _, _⟩) (v := ?_) rfl (by kernel_rfl) (by kernel_rfl) (by kernel_rfl) (fun _ _ _ h => h) (Or.inl ⟨by rfl, ?_⟩) (by assumption) ?_
    rotate_left
    · (intro w hSw; (try dsimp only at hSw); go_simp; first | done | with_reducible rfl)
    try simp only [Act.put, List.setIfInBounds_toArray, List.set_cons_zero, List.set_cons_succ]
    refine wpAnyH_take (i := 14) (oi := ⟨some 10, _, _, _, _, _⟩) (v := ?_) rfl (by kernel_rfl) (by kernel_rfl) (by kernel_rfl) (fun _ _ _ h => h) (Or.inl ⟨by rfl, ?_⟩) (by assumption) ?_
    rotate_left
    · (intro w hSw; (try dsimp only at hSw); go_simp; first | done | with_reducible rfl)
    try simp only [Act.put, List.setIfInBounds_toArray, List.set_cons_zero, List.set_cons_succ]
    refine wpAnyH_done (by kernel_rfl) ?_ _
    go_wp2
    go_ret
    exact ⟨rfl, hfin.out.trans (hb16'.mono hsz.out)⟩
  · have hgood : goodAt S8.doRead 2 k = true := by rw [Hg11.out]
    go_wp2_with fail
    refine (read_calm D12 hT hTB hc11 k hk11 hgood).mono ?_
    rintro e w13 ⟨A13, c13, rfl, y13, D13, o13⟩
    have y13' : Sh.Bytes w12 w13 A13 tt := by rw [← HV8.out]; exact y13
    have z13 := Sh.beside_read D12.on.shelf y13'
    have T13 := T12.out.only o13
    have hfin := Lib.hid D13.on.bel
    generalize hst : Sh.strL tt = st at *
    have t1 := Sh.conv_grown (c := c13) z13 hst w13 (Below.refl _ _)
    have t2 := Sh.conv_grown (c := 128) T13 hst w13 (Below.refl _ _)
    clear D12 y13 y13' D13 o13 z13 T13 hst
    go_wp2
    go_ret
    exact ⟨rfl, hfin.out⟩
theorem walk {w : World} (b : Int) (_hb1 : -9223372036854775808 ≤ b) (_hb2 : b ≤ 9223372036854775807) (y : Nat) (hy : y < 256) (z : Nat) (hz : z < 256) (i : Int) (_hi1 : -9223372036854775808 ≤ i) (_hi2 : i ≤ 9223372036854775807) (x : Nat) (hx : x < 256) (hT : Tabs w) :
    Calls Tryd.prog 7 #[.int .i64 b, .int .u8 y, .int .u8 z, .int .i64 i, .int .u8 x] w fun e w' => e = .returned (.bool true) ∧ Below w.heap.size w w' := by
  by_cases h : 0 ≤ b ∧ b < 37 ∧ 0 ≤ i ∧ i < 128
  · obtain ⟨k, rfl⟩ : ∃ k : Nat, b = (k : Int) := ⟨b.toNat, by omega⟩
    obtain ⟨j, rfl⟩ : ∃ j : Nat, i = (j : Int) := ⟨i.toNat, by omega⟩
    exact mid k j (by omega) (by omega) y z hy hz x hx hT
  · exact low b i (by omega) y z hy x hT
set_option maxRecDepth 100000 in
/-- WHAT THE WALK GIVES, FOR EVERY ARGUMENT AND EVERY WORLD THAT HOLDS THE TABLES. -/
theorem contract (H : Type) (enc : TypeId × Value → H) (W : World) (base : Nat) (args : Array Value) (ds gs : List (DataW H)) (before : List MemPlace)
    (hval : ∀ (j : Nat) t v, Tryd.f7.params[j]? = some t → args[j]? = some v → Value.okWide Tryd.prog W .any base t v)
    (hW : DataW.Whole enc Tryd.prog Tryd.f7.params.toList Rows.sumsTurnedSpec.vars false W args.toList ds gs before)
    (hsz : (DataW.weightsEach Tryd.prog (Tryd.f7.params.toList ++ (OpenSpec.ofChange Rows.sumsTurnedSpec).bare.plain.varTypes Tryd.prog) (ds ++ gs)).all (· ≤ reachBytes) = true) (hL : laidMetH Tryd.prog laidBoth W) :
    Calls Tryd.prog 7 args W fun e W' => ∃ v, e = .returned v ∧ Rows.sumsTurnedSpec.post enc Tryd.prog Tryd.f7 false true false false W args v W' := by
  have hW' := hW
  obtain ⟨p, q, hA0, hV, rfl, hfz, hnd⟩ := hW
  have hA : DataW.TrodAll enc Tryd.prog W 0 (fun _ => true) true Tryd.f7.params.toList args.toList ds p := hA0
  have hsz2 : (DataW.weightsEach Tryd.prog (Tryd.f7.params.toList ++ []) (ds ++ gs)).all (· ≤ reachBytes) = true := hsz
  rw [Tryd.params7] at hA hval hsz2
  obtain ⟨v0, vs0, d0, ds0, p0, q0, hargs, rfl, rfl, h0, r0⟩ := trodAll_cons hA
  obtain ⟨v1, vs1, d1, ds1, p1, q1, rfl, rfl, rfl, h1, r1⟩ := trodAll_cons r0
  obtain ⟨v2, vs2, d2, ds2, p2, q2, rfl, rfl, rfl, h2, r2⟩ := trodAll_cons r1
  obtain ⟨v3, vs3, d3, ds3, p3, q3, rfl, rfl, rfl, h3, r3⟩ := trodAll_cons r2
  obtain ⟨v4, vs4, d4, ds4, p4, q4, rfl, rfl, rfl, h4, r4⟩ := trodAll_cons r3
  obtain ⟨rfl, rfl, rfl⟩ := trodAll_nil r4
  obtain rfl : args = #[v0, v1, v2, v3, v4] := by cases args; simp_all
  obtain ⟨rfl, rfl⟩ := trodVars_none hV
  obtain ⟨a0, rfl, rfl, rfl, w0⟩ := open_int Tryd.underlying3 (hval 0 3 v0 rfl rfl) h0
  have bd0 := bounds_i64 w0
  obtain ⟨a1, rfl, rfl, rfl, w1⟩ := open_int Tryd.underlying5 (hval 1 5 v1 rfl rfl) h1
  have bd1 := bounds_u8 w1
  obtain ⟨m1, hm1⟩ : ∃ m : Nat, a1 = (m : Int) := ⟨a1.toNat, by omega⟩
  obtain ⟨a2, rfl, rfl, rfl, w2⟩ := open_int Tryd.underlying5 (hval 2 5 v2 rfl rfl) h2
  have bd2 := bounds_u8 w2
  obtain ⟨m2, hm2⟩ : ∃ m : Nat, a2 = (m : Int) := ⟨a2.toNat, by omega⟩
  obtain ⟨a3, rfl, rfl, rfl, w3⟩ := open_int Tryd.underlying3 (hval 3 3 v3 rfl rfl) h3
  have bd3 := bounds_i64 w3
  obtain ⟨a4, rfl, rfl, rfl, w4⟩ := open_int Tryd.underlying5 (hval 4 5 v4 rfl rfl) h4
  have bd4 := bounds_u8 w4
  obtain ⟨m4, hm4⟩ : ∃ m : Nat, a4 = (m : Int) := ⟨a4.toNat, by omega⟩
  have hT := tabs_of_laid hL
  subst hm1
  subst hm2
  subst hm4
  refine (walk a0 bd0.1 bd0.2 m1 (by omega) m2 (by omega) a3 bd3.1 bd3.2 m4 (by omega) hT).mono fun e W' ⟨he, bel⟩ => ?_
  subst he
  exact ⟨_, rfl, _, _, _, [], _, [], hW', trodAll_mk1 (shut_bool Tryd.underlying4 _), (trodAll_cons_mk (shut_int Tryd.underlying3 w0) (trodAll_cons_mk (shut_int Tryd.underlying5 w1) (trodAll_cons_mk (shut_int Tryd.underlying5 w2) (trodAll_cons_mk (shut_int Tryd.underlying3 w3) (trodAll_cons_mk (shut_int Tryd.underlying5 w4) trodAll_mk0))))), rfl, bel.frame _, fun h => by cases h⟩

theorem laid_met (os : Os) : laidMetH Tryd.prog laidBoth ((laidWorld os).forCall (fun _ _ => 0) ⟨#[], #[.int .i64 0, .int .u8 0, .int .u8 0, .int .i64 0, .int .u8 0], []⟩).memory :=
  laidMetH_of_parts3 (fuel := 8) (laidMet_of_run' 8 (by kernel_rfl) (by kernel_rfl)) (by kernel_rfl) (by kernel_rfl)
theorem reads (os : Os) {H : Type} (enc : TypeId × Value → H) : ∃ places, DataW.whole enc Tryd.prog ((laidWorld os).forCall (fun _ _ => 0) ⟨#[], #[.int .i64 0, .int .u8 0, .int .u8 0, .int .i64 0, .int .u8 0], []⟩).memory Tryd.f7.params.toList Rows.sumsTurnedSpec.vars false (#[.int .i64 0, .int .u8 0, .int .u8 0, .int .i64 0, .int .u8 0] : Array Value).toList 8 = some ([.lit (.int .i64 0), .lit (.int .u8 0), .lit (.int .u8 0), .lit (.int .i64 0), .lit (.int .u8 0)], [], places) :=
  ⟨[], by kernel_rfl⟩
set_option maxRecDepth 100000 in
theorem lifted (os : Os) (started : os.Started) (H : Type) (enc : TypeId × Value → H) (F : Stop.Interp) :
    ReturnsInHanded {} Tryd.checked os 7 .any ((OpenSpec.ofChange Rows.sumsTurnedSpec).preRow enc Tryd.prog Tryd.f7 Rows.sumsTurnedRow.domain false Rows.sumsTurnedRow.laid) (((OpenSpec.ofChange Rows.sumsTurnedSpec).at F).post enc Tryd.prog Tryd.f7 false true false false) := by
  obtain ⟨places, hx⟩ := reads os enc
  refine returnsInHanded_of_row (C := Tryd.checked) (s := (OpenSpec.ofChange Rows.sumsTurnedSpec)) own started (by kernel_rfl) Tryd.func7
    (witness_row_at (enc := enc) (C := Tryd.checked) false (laidWorld os) #[.int .i64 0, .int .u8 0, .int .u8 0, .int .i64 0, .int .u8 0] rfl (by kernel_rfl) (by kernel_rfl) (by kernel_rfl)
      (OpenSpec.preRow_of_cond 8 hx (by kernel_rfl) (fun k hk => by cases hk) (by kernel_rfl) (laid_met os))) ?_
  intro W base args ds gs before hval hW _ hcond hsz hL _ _
  exact contract H enc W base args ds gs before hval hW hsz hL
theorem said : Rows.SumsTurnedSaid :=
  OpenClaim.holds_of_cond 7 Tryd.f7 rfl rfl rfl rfl rfl rfl rfl ⟨rfl, rfl, rfl, rfl, rfl⟩ rfl rfl rfl rfl rfl (by kernel_rfl) Tryd.func7 (by kernel_rfl)
    (of_decide_eq_true (by kernel_rfl)) (by unfold Func.isWrapper; first | (rw [if_pos (by decide +kernel)]; kernel_rfl) | (rw [if_neg (by decide +kernel)]; exact ⟨rfl, rfl⟩))
    (fun os started H enc _ F => by rw [OpenClaim.pre_eq_preRow]; exact lifted os started H enc F)
theorem plain (f : FuncId) (fn : Func) (hf : Tryd.pinned.checked.prog.funcNamed "ashlar/ashlarlaw06.SumsTurned" = some f) (hfn : Tryd.pinned.checked.prog.funcs[f]? = some fn) :
    false = Tryd.pinned.checked.prog.looks [] ∧ ∀ (j : Nat) t, fn.params[j]? = some t → Tryd.pinned.checked.prog.wantsStandIn t = false := by
  obtain rfl : f = 7 := Option.some.inj ((show Tryd.prog.funcNamed "ashlar/ashlarlaw06.SumsTurned" = some 7 by kernel_rfl).symm.trans hf) |>.symm
  obtain rfl : fn = Tryd.f7 := (Option.some.inj (Tryd.func7.symm.trans hfn)).symm
  refine ⟨by kernel_rfl, fun j t ht => ?_⟩
  rw [Tryd.params7] at ht
  have hm : t ∈ [3, 5, 5, 3, 5] := by simpa using Array.mem_of_getElem? ht
  have hall : ([3, 5, 5, 3, 5].all fun u => !Tryd.prog.wantsStandIn u) = true := by kernel_rfl
  exact (show Tryd.prog.wantsStandIn t = false by simpa using List.all_eq_true.1 hall t hm)

/-- ████ THE CARD ████ -/
theorem card : Rows.SumsTurnedCardSaid :=
  Claim7.holds_tied_plain_at .later [] _ _ _ _ said (fun _ h => by cases h) (by kernel_rfl) (fun _ h => by cases h) sumsTurned_row_tie rfl ⟨rfl, rfl⟩ (by kernel_rfl) rfl plain (by kernel_rfl)
end Go.Proofs.YtjdjpafnakhpcaaDoor.U.sumsTurned
