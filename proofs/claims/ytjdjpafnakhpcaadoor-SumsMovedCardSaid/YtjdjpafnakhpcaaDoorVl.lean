/-
  SumsMoved: blocks that there are not, the same block, the same bytes.
  Conditions: each theorem's own.
-/
import Derived.Test.YtjdjpafnakhpcaaDoorUx
namespace Go.Proofs.YtjdjpafnakhpcaaDoor.U.sumsMoved
open Go.ChangeShapes Go.WideShapes Go.ChangeAt Go.RowKit

set_option maxRecDepth 100000 in
set_option maxHeartbeats 4000000 in
theorem low1 {w : World} (f t : Int) (y z : Nat) (dk : Int) (K : Nat) (hK : K < 2) (htm : (dk.tmod 2 = 0 ∧ K = 0) ∨ (dk.tmod 2 = 1 ∧ K = 1) ∨ (dk.tmod 2 = -1 ∧ K = 1))
    (h : f < 0 ∨ (0 ≤ f ∧ 37 ≤ f)) (hT : Tabs w) :
    Calls Tryd.prog 8 #[.int .i64 f, .int .i64 t, .int .u8 y, .int .u8 z, .int .i64 dk] w fun e w' => e = .returned (.bool true) ∧ Below w.heap.size w w' := by
  have hTB := hT.size
  have Htm := Lib.hid htm
  clear htm
  rcases h with h1 | ⟨h1, h2⟩
  · have f0 : decide (f < 0) = true := decide_eq_true (by omega)
    go_enter Tryd.func8, Tryd.ntmps8
    go_wp2_with fail
    refine (Sh.new_ok 2 40 w (by decide) (by decide) (by decide) (by decide)).mono ?_
    rintro e w1 ⟨p, F1, rfl, hS, hF, hb⟩
    have a1 : Sh.At w.heap.size w w1 p (Sh.newSf 2 40) F1 := ⟨hS, hF, hb, hb.size⟩
    clear hS hF hb
    go_wp2_with fail
    refine (open_yes 0 a1.shelf (by decide)).mono ?_
    rintro e w2 ⟨rfl, hd, hb⟩
    have DA2 := dv_open (a := w1.heap.size) a1 hd hb rfl
    have hlt2 : w1.heap.size < w2.heap.size := DA2.dev.lt
    generalize w1.heap.size = a at *
    clear a1 hd hb
    go_upto_if 46 with fail
    go_cut [15] (fun s15 wx => s15 = .int .i64 (K : Int) ∧ wx = w2)
    case first =>
      rcases Htm.out with ⟨e1, e2⟩ | ⟨e1, e2⟩ | ⟨e1, e2⟩
      all_goals
        rw [e1]
        subst e2
        go_wp2_with fail
        all_goals (go_meet; exact ⟨rfl, rfl⟩)
    case rest =>
      obtain ⟨rfl, rfl⟩ := hcut
      have hc3 : ∀ d, d < 2 → Calm (Sh.newSf 2 40) d := fun d hd => calm_new hd
      have HV3 := Lib.hid (show ∀ d n, d < 2 → n < 40 → V (Sh.newSf 2 40) d n = Sh.noughts from fun d n hd hn => V_new hd hn)
      have hL3 := new_small 2 40
      have hsec3 : (Sh.newSf 2 40).sectors = 40 := rfl
      have hlen3 : (Sh.newSf 2 40).disks.length = 2 := rfl
      generalize Sh.newSf 2 40 = S3 at *
      have Hsec3 := Lib.hid hsec3
      clear hsec3
      go_wp2_with fail
      refine (open_yes K DA2.on.shelf (by rw [hlen3]; exact hK)).mono ?_
      rintro e w3 ⟨rfl, hd, hb⟩
      have DB3 := dv_open (a := wc.heap.size) DA2.on hd hb rfl
      have DA3 := DA2.grown hb
      have hne : a ≠ wc.heap.size := Nat.ne_of_lt hlt2
      generalize wc.heap.size = a2 at *
      clear DA2 hd hb hlt2 hlen3
      go_wp2_with fail
      refine (lives_true w3 (At.tabs DA3.on hT hTB)).mono ?_
      rintro e w4 ⟨rfl, hb4⟩
      have DA4 := DA3.grown hb4
      have DB4 := DB3.grown hb4
      clear DA3 DB3 hb4
      have HCN := Lib.hid (fun w5 (hb : Below w4.heap.size w4 w5) => show Calls Tryd.prog 28 #[.pointer (some ⟨a, 0, none⟩)] w5 fun e w8 => e = .returned (.int .i64 37) ∧ ∃ n, w8 = w5.drewN n from by
        have D5 := DA4.grown hb
        have := count_of D5.dev D5.on.shelf (secM_of D5.on.shelf)
        rw [Hsec3.out] at this
        exact this)
      have hfin := Lib.hid (show Below w.heap.size w w4 from DA4.on.bel)
      clear DA4 DB4 hc3 hL3 HCN
      go_wp2_with fail
      go_ret
      first | exact ⟨rfl, hfin.out⟩ | exact ⟨rfl, drawn hfin.out (m4 + m5)⟩
  · have f0 : decide (f < 0) = false := decide_eq_false (by omega)
    have f1 : decide (f ≥ 37) = true := decide_eq_true (by omega)
    go_enter Tryd.func8, Tryd.ntmps8
    go_wp2_with fail
    refine (Sh.new_ok 2 40 w (by decide) (by decide) (by decide) (by decide)).mono ?_
    rintro e w1 ⟨p, F1, rfl, hS, hF, hb⟩
    have a1 : Sh.At w.heap.size w w1 p (Sh.newSf 2 40) F1 := ⟨hS, hF, hb, hb.size⟩
    clear hS hF hb
    go_wp2_with fail
    refine (open_yes 0 a1.shelf (by decide)).mono ?_
    rintro e w2 ⟨rfl, hd, hb⟩
    have DA2 := dv_open (a := w1.heap.size) a1 hd hb rfl
    have hlt2 : w1.heap.size < w2.heap.size := DA2.dev.lt
    generalize w1.heap.size = a at *
    clear a1 hd hb
    go_upto_if 46 with fail
    go_cut [15] (fun s15 wx => s15 = .int .i64 (K : Int) ∧ wx = w2)
    case first =>
      rcases Htm.out with ⟨e1, e2⟩ | ⟨e1, e2⟩ | ⟨e1, e2⟩
      all_goals
        rw [e1]
        subst e2
        go_wp2_with fail
        all_goals (go_meet; exact ⟨rfl, rfl⟩)
    case rest =>
      obtain ⟨rfl, rfl⟩ := hcut
      have hc3 : ∀ d, d < 2 → Calm (Sh.newSf 2 40) d := fun d hd => calm_new hd
      have HV3 := Lib.hid (show ∀ d n, d < 2 → n < 40 → V (Sh.newSf 2 40) d n = Sh.noughts from fun d n hd hn => V_new hd hn)
      have hL3 := new_small 2 40
      have hsec3 : (Sh.newSf 2 40).sectors = 40 := rfl
      have hlen3 : (Sh.newSf 2 40).disks.length = 2 := rfl
      generalize Sh.newSf 2 40 = S3 at *
      have Hsec3 := Lib.hid hsec3
      clear hsec3
      go_wp2_with fail
      refine (open_yes K DA2.on.shelf (by rw [hlen3]; exact hK)).mono ?_
      rintro e w3 ⟨rfl, hd, hb⟩
      have DB3 := dv_open (a := wc.heap.size) DA2.on hd hb rfl
      have DA3 := DA2.grown hb
      have hne : a ≠ wc.heap.size := Nat.ne_of_lt hlt2
      generalize wc.heap.size = a2 at *
      clear DA2 hd hb hlt2 hlen3
      go_wp2_with fail
      refine (lives_true w3 (At.tabs DA3.on hT hTB)).mono ?_
      rintro e w4 ⟨rfl, hb4⟩
      have DA4 := DA3.grown hb4
      have DB4 := DB3.grown hb4
      clear DA3 DB3 hb4
      have HCN := Lib.hid (fun w5 (hb : Below w4.heap.size w4 w5) => show Calls Tryd.prog 28 #[.pointer (some ⟨a, 0, none⟩)] w5 fun e w8 => e = .returned (.int .i64 37) ∧ ∃ n, w8 = w5.drewN n from by
        have D5 := DA4.grown hb
        have := count_of D5.dev D5.on.shelf (secM_of D5.on.shelf)
        rw [Hsec3.out] at this
        exact this)
      go_wp2_with fail
      refine (HCN.out _ (Below.refl _ _)).mono ?_
      rintro e w4a ⟨rfl, m4, rfl⟩
      have hfin := Lib.hid (show Below w.heap.size w w4 from DA4.on.bel)
      clear DA4 DB4 hc3 hL3 HCN
      go_wp2_with fail
      go_ret
      first | exact ⟨rfl, drawn hfin.out m4⟩ | exact ⟨rfl, drawn hfin.out (m4 + m5)⟩
end Go.Proofs.YtjdjpafnakhpcaaDoor.U.sumsMoved
namespace Go.Proofs.YtjdjpafnakhpcaaDoor.U.sumsMoved
open Go.ChangeShapes Go.WideShapes Go.ChangeAt Go.RowKit

set_option maxRecDepth 100000 in
set_option maxHeartbeats 4000000 in
theorem low2 {w : World} (f t : Int) (y z : Nat) (dk : Int) (K : Nat) (hK : K < 2) (htm : (dk.tmod 2 = 0 ∧ K = 0) ∨ (dk.tmod 2 = 1 ∧ K = 1) ∨ (dk.tmod 2 = -1 ∧ K = 1))
    (h : (0 ≤ f ∧ f < 37 ∧ t < 0) ∨ (0 ≤ f ∧ f < 37 ∧ 0 ≤ t ∧ 37 ≤ t)) (hT : Tabs w) :
    Calls Tryd.prog 8 #[.int .i64 f, .int .i64 t, .int .u8 y, .int .u8 z, .int .i64 dk] w fun e w' => e = .returned (.bool true) ∧ Below w.heap.size w w' := by
  have hTB := hT.size
  have Htm := Lib.hid htm
  clear htm
  rcases h with ⟨h1, h2, h3⟩ | ⟨h1, h2, h3, h4⟩
  · have f0 : decide (f < 0) = false := decide_eq_false (by omega)
    have f1 : decide (f ≥ 37) = false := decide_eq_false (by omega)
    have t0 : decide (t < 0) = true := decide_eq_true (by omega)
    go_enter Tryd.func8, Tryd.ntmps8
    go_wp2_with fail
    refine (Sh.new_ok 2 40 w (by decide) (by decide) (by decide) (by decide)).mono ?_
    rintro e w1 ⟨p, F1, rfl, hS, hF, hb⟩
    have a1 : Sh.At w.heap.size w w1 p (Sh.newSf 2 40) F1 := ⟨hS, hF, hb, hb.size⟩
    clear hS hF hb
    go_wp2_with fail
    refine (open_yes 0 a1.shelf (by decide)).mono ?_
    rintro e w2 ⟨rfl, hd, hb⟩
    have DA2 := dv_open (a := w1.heap.size) a1 hd hb rfl
    have hlt2 : w1.heap.size < w2.heap.size := DA2.dev.lt
    generalize w1.heap.size = a at *
    clear a1 hd hb
    go_upto_if 46 with fail
    go_cut [15] (fun s15 wx => s15 = .int .i64 (K : Int) ∧ wx = w2)
    case first =>
      rcases Htm.out with ⟨e1, e2⟩ | ⟨e1, e2⟩ | ⟨e1, e2⟩
      all_goals
        rw [e1]
        subst e2
        go_wp2_with fail
        all_goals (go_meet; exact ⟨rfl, rfl⟩)
    case rest =>
      obtain ⟨rfl, rfl⟩ := hcut
      have hc3 : ∀ d, d < 2 → Calm (Sh.newSf 2 40) d := fun d hd => calm_new hd
      have HV3 := Lib.hid (show ∀ d n, d < 2 → n < 40 → V (Sh.newSf 2 40) d n = Sh.noughts from fun d n hd hn => V_new hd hn)
      have hL3 := new_small 2 40
      have hsec3 : (Sh.newSf 2 40).sectors = 40 := rfl
      have hlen3 : (Sh.newSf 2 40).disks.length = 2 := rfl
      generalize Sh.newSf 2 40 = S3 at *
      have Hsec3 := Lib.hid hsec3
      clear hsec3
      go_wp2_with fail
      refine (open_yes K DA2.on.shelf (by rw [hlen3]; exact hK)).mono ?_
      rintro e w3 ⟨rfl, hd, hb⟩
      have DB3 := dv_open (a := wc.heap.size) DA2.on hd hb rfl
      have DA3 := DA2.grown hb
      have hne : a ≠ wc.heap.size := Nat.ne_of_lt hlt2
      generalize wc.heap.size = a2 at *
      clear DA2 hd hb hlt2 hlen3
      go_wp2_with fail
      refine (lives_true w3 (At.tabs DA3.on hT hTB)).mono ?_
      rintro e w4 ⟨rfl, hb4⟩
      have DA4 := DA3.grown hb4
      have DB4 := DB3.grown hb4
      clear DA3 DB3 hb4
      have HCN := Lib.hid (fun w5 (hb : Below w4.heap.size w4 w5) => show Calls Tryd.prog 28 #[.pointer (some ⟨a, 0, none⟩)] w5 fun e w8 => e = .returned (.int .i64 37) ∧ ∃ n, w8 = w5.drewN n from by
        have D5 := DA4.grown hb
        have := count_of D5.dev D5.on.shelf (secM_of D5.on.shelf)
        rw [Hsec3.out] at this
        exact this)
      go_wp2_with fail
      refine (HCN.out _ (Below.refl _ _)).mono ?_
      rintro e w4a ⟨rfl, m4, rfl⟩
      have hfin := Lib.hid (show Below w.heap.size w w4 from DA4.on.bel)
      clear DA4 DB4 hc3 hL3 HCN
      go_wp2_with fail
      go_ret
      first | exact ⟨rfl, drawn hfin.out m4⟩ | exact ⟨rfl, drawn hfin.out (m4 + m5)⟩
  · have f0 : decide (f < 0) = false := decide_eq_false (by omega)
    have f1 : decide (f ≥ 37) = false := decide_eq_false (by omega)
    have t0 : decide (t < 0) = false := decide_eq_false (by omega)
    have t1 : decide (t ≥ 37) = true := decide_eq_true (by omega)
    go_enter Tryd.func8, Tryd.ntmps8
    go_wp2_with fail
    refine (Sh.new_ok 2 40 w (by decide) (by decide) (by decide) (by decide)).mono ?_
    rintro e w1 ⟨p, F1, rfl, hS, hF, hb⟩
    have a1 : Sh.At w.heap.size w w1 p (Sh.newSf 2 40) F1 := ⟨hS, hF, hb, hb.size⟩
    clear hS hF hb
    go_wp2_with fail
    refine (open_yes 0 a1.shelf (by decide)).mono ?_
    rintro e w2 ⟨rfl, hd, hb⟩
    have DA2 := dv_open (a := w1.heap.size) a1 hd hb rfl
    have hlt2 : w1.heap.size < w2.heap.size := DA2.dev.lt
    generalize w1.heap.size = a at *
    clear a1 hd hb
    go_upto_if 46 with fail
    go_cut [15] (fun s15 wx => s15 = .int .i64 (K : Int) ∧ wx = w2)
    case first =>
      rcases Htm.out with ⟨e1, e2⟩ | ⟨e1, e2⟩ | ⟨e1, e2⟩
      all_goals
        rw [e1]
        subst e2
        go_wp2_with fail
        all_goals (go_meet; exact ⟨rfl, rfl⟩)
    case rest =>
      obtain ⟨rfl, rfl⟩ := hcut
      have hc3 : ∀ d, d < 2 → Calm (Sh.newSf 2 40) d := fun d hd => calm_new hd
      have HV3 := Lib.hid (show ∀ d n, d < 2 → n < 40 → V (Sh.newSf 2 40) d n = Sh.noughts from fun d n hd hn => V_new hd hn)
      have hL3 := new_small 2 40
      have hsec3 : (Sh.newSf 2 40).sectors = 40 := rfl
      have hlen3 : (Sh.newSf 2 40).disks.length = 2 := rfl
      generalize Sh.newSf 2 40 = S3 at *
      have Hsec3 := Lib.hid hsec3
      clear hsec3
      go_wp2_with fail
      refine (open_yes K DA2.on.shelf (by rw [hlen3]; exact hK)).mono ?_
      rintro e w3 ⟨rfl, hd, hb⟩
      have DB3 := dv_open (a := wc.heap.size) DA2.on hd hb rfl
      have DA3 := DA2.grown hb
      have hne : a ≠ wc.heap.size := Nat.ne_of_lt hlt2
      generalize wc.heap.size = a2 at *
      clear DA2 hd hb hlt2 hlen3
      go_wp2_with fail
      refine (lives_true w3 (At.tabs DA3.on hT hTB)).mono ?_
      rintro e w4 ⟨rfl, hb4⟩
      have DA4 := DA3.grown hb4
      have DB4 := DB3.grown hb4
      clear DA3 DB3 hb4
      have HCN := Lib.hid (fun w5 (hb : Below w4.heap.size w4 w5) => show Calls Tryd.prog 28 #[.pointer (some ⟨a, 0, none⟩)] w5 fun e w8 => e = .returned (.int .i64 37) ∧ ∃ n, w8 = w5.drewN n from by
        have D5 := DA4.grown hb
        have := count_of D5.dev D5.on.shelf (secM_of D5.on.shelf)
        rw [Hsec3.out] at this
        exact this)
      go_wp2_with fail
      refine (HCN.out _ (Below.refl _ _)).mono ?_
      rintro e w4a ⟨rfl, m4, rfl⟩
      go_wp2_with fail
      refine (HCN.out _ (drawn (Below.refl _ w4) m4)).mono ?_
      rintro e w4b ⟨rfl, m5, rfl⟩
      have hb4b : Below w4.heap.size w4 ((w4.drewN m4).drewN m5) := drawn (drawn (Below.refl _ w4) m4) m5
      have hfin := Lib.hid (show Below w.heap.size w w4 from DA4.on.bel)
      clear DA4 DB4 hc3 hL3 HCN
      go_wp2_with fail
      go_ret
      first | exact ⟨rfl, drawn (drawn hfin.out m4) m5⟩ | exact ⟨rfl, drawn hfin.out (m4 + m5)⟩
end Go.Proofs.YtjdjpafnakhpcaaDoor.U.sumsMoved
namespace Go.Proofs.YtjdjpafnakhpcaaDoor.U.sumsMoved
open Go.ChangeShapes Go.WideShapes Go.ChangeAt Go.RowKit

set_option maxRecDepth 100000 in
set_option maxHeartbeats 4000000 in
theorem low3 {w : World} (f t : Int) (y z : Nat) (dk : Int) (K : Nat) (hK : K < 2) (htm : (dk.tmod 2 = 0 ∧ K = 0) ∨ (dk.tmod 2 = 1 ∧ K = 1) ∨ (dk.tmod 2 = -1 ∧ K = 1))
    (h : (0 ≤ f ∧ f < 37 ∧ 0 ≤ t ∧ t < 37 ∧ f = t ∧ K = 0)) (hT : Tabs w) :
    Calls Tryd.prog 8 #[.int .i64 f, .int .i64 t, .int .u8 y, .int .u8 z, .int .i64 dk] w fun e w' => e = .returned (.bool true) ∧ Below w.heap.size w w' := by
  have hTB := hT.size
  have Htm := Lib.hid htm
  clear htm
  obtain ⟨h1, h2, h3, h4, rfl, hK0⟩ := h
  have f0 : decide (f < 0) = false := decide_eq_false (by omega)
  have f1 : decide (f ≥ 37) = false := decide_eq_false (by omega)
  have hk0 : ((K : Int) == 0) = true := by rw [hK0]; rfl
  clear hK0
  go_enter Tryd.func8, Tryd.ntmps8
  go_wp2_with fail
  refine (Sh.new_ok 2 40 w (by decide) (by decide) (by decide) (by decide)).mono ?_
  rintro e w1 ⟨p, F1, rfl, hS, hF, hb⟩
  have a1 : Sh.At w.heap.size w w1 p (Sh.newSf 2 40) F1 := ⟨hS, hF, hb, hb.size⟩
  clear hS hF hb
  go_wp2_with fail
  refine (open_yes 0 a1.shelf (by decide)).mono ?_
  rintro e w2 ⟨rfl, hd, hb⟩
  have DA2 := dv_open (a := w1.heap.size) a1 hd hb rfl
  have hlt2 : w1.heap.size < w2.heap.size := DA2.dev.lt
  generalize w1.heap.size = a at *
  clear a1 hd hb
  go_upto_if 46 with fail
  go_cut [15] (fun s15 wx => s15 = .int .i64 (K : Int) ∧ wx = w2)
  case first =>
    rcases Htm.out with ⟨e1, e2⟩ | ⟨e1, e2⟩ | ⟨e1, e2⟩
    all_goals
      rw [e1]
      subst e2
      go_wp2_with fail
      all_goals (go_meet; exact ⟨rfl, rfl⟩)
  case rest =>
    obtain ⟨rfl, rfl⟩ := hcut
    have hc3 : ∀ d, d < 2 → Calm (Sh.newSf 2 40) d := fun d hd => calm_new hd
    have HV3 := Lib.hid (show ∀ d n, d < 2 → n < 40 → V (Sh.newSf 2 40) d n = Sh.noughts from fun d n hd hn => V_new hd hn)
    have hL3 := new_small 2 40
    have hsec3 : (Sh.newSf 2 40).sectors = 40 := rfl
    have hlen3 : (Sh.newSf 2 40).disks.length = 2 := rfl
    generalize Sh.newSf 2 40 = S3 at *
    have Hsec3 := Lib.hid hsec3
    clear hsec3
    go_wp2_with fail
    refine (open_yes K DA2.on.shelf (by rw [hlen3]; exact hK)).mono ?_
    rintro e w3 ⟨rfl, hd, hb⟩
    have DB3 := dv_open (a := wc.heap.size) DA2.on hd hb rfl
    have DA3 := DA2.grown hb
    have hne : a ≠ wc.heap.size := Nat.ne_of_lt hlt2
    generalize wc.heap.size = a2 at *
    clear DA2 hd hb hlt2 hlen3
    go_wp2_with fail
    refine (lives_true w3 (At.tabs DA3.on hT hTB)).mono ?_
    rintro e w4 ⟨rfl, hb4⟩
    have DA4 := DA3.grown hb4
    have DB4 := DB3.grown hb4
    clear DA3 DB3 hb4
    have HCN := Lib.hid (fun w5 (hb : Below w4.heap.size w4 w5) => show Calls Tryd.prog 28 #[.pointer (some ⟨a, 0, none⟩)] w5 fun e w8 => e = .returned (.int .i64 37) ∧ ∃ n, w8 = w5.drewN n from by
      have D5 := DA4.grown hb
      have := count_of D5.dev D5.on.shelf (secM_of D5.on.shelf)
      rw [Hsec3.out] at this
      exact this)
    go_wp2_with fail
    refine (HCN.out _ (Below.refl _ _)).mono ?_
    rintro e w4a ⟨rfl, m4, rfl⟩
    go_wp2_with fail
    refine (HCN.out _ (drawn (Below.refl _ w4) m4)).mono ?_
    rintro e w4b ⟨rfl, m5, rfl⟩
    have hb4b : Below w4.heap.size w4 ((w4.drewN m4).drewN m5) := drawn (drawn (Below.refl _ w4) m4) m5
    have hfin := Lib.hid (show Below w.heap.size w w4 from DA4.on.bel)
    clear DA4 DB4 hc3 hL3 HCN
    go_wp2_with fail
    go_ret
    first | exact ⟨rfl, drawn (drawn hfin.out m4) m5⟩ | exact ⟨rfl, drawn hfin.out (m4 + m5)⟩
end Go.Proofs.YtjdjpafnakhpcaaDoor.U.sumsMoved
namespace Go.Proofs.YtjdjpafnakhpcaaDoor.U.sumsMoved
open Go.ChangeShapes Go.WideShapes Go.ChangeAt Go.RowKit

set_option maxRecDepth 100000 in
set_option maxHeartbeats 4000000 in
theorem low4 {w : World} (f t : Int) (y z : Nat) (dk : Int) (K : Nat) (hK : K < 2) (htm : (dk.tmod 2 = 0 ∧ K = 0) ∨ (dk.tmod 2 = 1 ∧ K = 1) ∨ (dk.tmod 2 = -1 ∧ K = 1))
    (h : (0 ≤ f ∧ f < 37 ∧ 0 ≤ t ∧ t < 37 ∧ f ≠ t ∧ y = z) ∨ (0 ≤ f ∧ f < 37 ∧ 0 ≤ t ∧ t < 37 ∧ f = t ∧ K ≠ 0 ∧ y = z)) (hT : Tabs w) :
    Calls Tryd.prog 8 #[.int .i64 f, .int .i64 t, .int .u8 y, .int .u8 z, .int .i64 dk] w fun e w' => e = .returned (.bool true) ∧ Below w.heap.size w w' := by
  have hTB := hT.size
  have Htm := Lib.hid htm
  clear htm
  rcases h with ⟨h1, h2, h3, h4, hne', rfl⟩ | ⟨h1, h2, h3, h4, rfl, hK0, rfl⟩
  · have f0 : decide (f < 0) = false := decide_eq_false (by omega)
    have f1 : decide (f ≥ 37) = false := decide_eq_false (by omega)
    have t0 : decide (t < 0) = false := decide_eq_false (by omega)
    have t1 : decide (t ≥ 37) = false := decide_eq_false (by omega)
    have hft : (f == t) = false := by rw [beq_eq_false_iff_ne]; exact hne'
    go_enter Tryd.func8, Tryd.ntmps8
    go_wp2_with fail
    refine (Sh.new_ok 2 40 w (by decide) (by decide) (by decide) (by decide)).mono ?_
    rintro e w1 ⟨p, F1, rfl, hS, hF, hb⟩
    have a1 : Sh.At w.heap.size w w1 p (Sh.newSf 2 40) F1 := ⟨hS, hF, hb, hb.size⟩
    clear hS hF hb
    go_wp2_with fail
    refine (open_yes 0 a1.shelf (by decide)).mono ?_
    rintro e w2 ⟨rfl, hd, hb⟩
    have DA2 := dv_open (a := w1.heap.size) a1 hd hb rfl
    have hlt2 : w1.heap.size < w2.heap.size := DA2.dev.lt
    generalize w1.heap.size = a at *
    clear a1 hd hb
    go_upto_if 46 with fail
    go_cut [15] (fun s15 wx => s15 = .int .i64 (K : Int) ∧ wx = w2)
    case first =>
      rcases Htm.out with ⟨e1, e2⟩ | ⟨e1, e2⟩ | ⟨e1, e2⟩
      all_goals
        rw [e1]
        subst e2
        go_wp2_with fail
        all_goals (go_meet; exact ⟨rfl, rfl⟩)
    case rest =>
      obtain ⟨rfl, rfl⟩ := hcut
      have hc3 : ∀ d, d < 2 → Calm (Sh.newSf 2 40) d := fun d hd => calm_new hd
      have HV3 := Lib.hid (show ∀ d n, d < 2 → n < 40 → V (Sh.newSf 2 40) d n = Sh.noughts from fun d n hd hn => V_new hd hn)
      have hL3 := new_small 2 40
      have hsec3 : (Sh.newSf 2 40).sectors = 40 := rfl
      have hlen3 : (Sh.newSf 2 40).disks.length = 2 := rfl
      generalize Sh.newSf 2 40 = S3 at *
      have Hsec3 := Lib.hid hsec3
      clear hsec3
      go_wp2_with fail
      refine (open_yes K DA2.on.shelf (by rw [hlen3]; exact hK)).mono ?_
      rintro e w3 ⟨rfl, hd, hb⟩
      have DB3 := dv_open (a := wc.heap.size) DA2.on hd hb rfl
      have DA3 := DA2.grown hb
      have hne : a ≠ wc.heap.size := Nat.ne_of_lt hlt2
      generalize wc.heap.size = a2 at *
      clear DA2 hd hb hlt2 hlen3
      go_wp2_with fail
      refine (lives_true w3 (At.tabs DA3.on hT hTB)).mono ?_
      rintro e w4 ⟨rfl, hb4⟩
      have DA4 := DA3.grown hb4
      have DB4 := DB3.grown hb4
      clear DA3 DB3 hb4
      have HCN := Lib.hid (fun w5 (hb : Below w4.heap.size w4 w5) => show Calls Tryd.prog 28 #[.pointer (some ⟨a, 0, none⟩)] w5 fun e w8 => e = .returned (.int .i64 37) ∧ ∃ n, w8 = w5.drewN n from by
        have D5 := DA4.grown hb
        have := count_of D5.dev D5.on.shelf (secM_of D5.on.shelf)
        rw [Hsec3.out] at this
        exact this)
      go_wp2_with fail
      refine (HCN.out _ (Below.refl _ _)).mono ?_
      rintro e w4a ⟨rfl, m4, rfl⟩
      go_wp2_with fail
      refine (HCN.out _ (drawn (Below.refl _ w4) m4)).mono ?_
      rintro e w4b ⟨rfl, m5, rfl⟩
      have hb4b : Below w4.heap.size w4 ((w4.drewN m4).drewN m5) := drawn (drawn (Below.refl _ w4) m4) m5
      have hfin := Lib.hid (show Below w.heap.size w w4 from DA4.on.bel)
      clear DA4 DB4 hc3 hL3 HCN
      go_wp2_with fail
      go_ret
      first | exact ⟨rfl, drawn (drawn hfin.out m4) m5⟩ | exact ⟨rfl, drawn hfin.out (m4 + m5)⟩
  · have f0 : decide (f < 0) = false := decide_eq_false (by omega)
    have f1 : decide (f ≥ 37) = false := decide_eq_false (by omega)
    have hk0 : ((K : Int) == 0) = false := by rw [beq_eq_false_iff_ne]; omega
    go_enter Tryd.func8, Tryd.ntmps8
    go_wp2_with fail
    refine (Sh.new_ok 2 40 w (by decide) (by decide) (by decide) (by decide)).mono ?_
    rintro e w1 ⟨p, F1, rfl, hS, hF, hb⟩
    have a1 : Sh.At w.heap.size w w1 p (Sh.newSf 2 40) F1 := ⟨hS, hF, hb, hb.size⟩
    clear hS hF hb
    go_wp2_with fail
    refine (open_yes 0 a1.shelf (by decide)).mono ?_
    rintro e w2 ⟨rfl, hd, hb⟩
    have DA2 := dv_open (a := w1.heap.size) a1 hd hb rfl
    have hlt2 : w1.heap.size < w2.heap.size := DA2.dev.lt
    generalize w1.heap.size = a at *
    clear a1 hd hb
    go_upto_if 46 with fail
    go_cut [15] (fun s15 wx => s15 = .int .i64 (K : Int) ∧ wx = w2)
    case first =>
      rcases Htm.out with ⟨e1, e2⟩ | ⟨e1, e2⟩ | ⟨e1, e2⟩
      all_goals
        rw [e1]
        subst e2
        go_wp2_with fail
        all_goals (go_meet; exact ⟨rfl, rfl⟩)
    case rest =>
      obtain ⟨rfl, rfl⟩ := hcut
      have hc3 : ∀ d, d < 2 → Calm (Sh.newSf 2 40) d := fun d hd => calm_new hd
      have HV3 := Lib.hid (show ∀ d n, d < 2 → n < 40 → V (Sh.newSf 2 40) d n = Sh.noughts from fun d n hd hn => V_new hd hn)
      have hL3 := new_small 2 40
      have hsec3 : (Sh.newSf 2 40).sectors = 40 := rfl
      have hlen3 : (Sh.newSf 2 40).disks.length = 2 := rfl
      generalize Sh.newSf 2 40 = S3 at *
      have Hsec3 := Lib.hid hsec3
      clear hsec3
      go_wp2_with fail
      refine (open_yes K DA2.on.shelf (by rw [hlen3]; exact hK)).mono ?_
      rintro e w3 ⟨rfl, hd, hb⟩
      have DB3 := dv_open (a := wc.heap.size) DA2.on hd hb rfl
      have DA3 := DA2.grown hb
      have hne : a ≠ wc.heap.size := Nat.ne_of_lt hlt2
      generalize wc.heap.size = a2 at *
      clear DA2 hd hb hlt2 hlen3
      go_wp2_with fail
      refine (lives_true w3 (At.tabs DA3.on hT hTB)).mono ?_
      rintro e w4 ⟨rfl, hb4⟩
      have DA4 := DA3.grown hb4
      have DB4 := DB3.grown hb4
      clear DA3 DB3 hb4
      have HCN := Lib.hid (fun w5 (hb : Below w4.heap.size w4 w5) => show Calls Tryd.prog 28 #[.pointer (some ⟨a, 0, none⟩)] w5 fun e w8 => e = .returned (.int .i64 37) ∧ ∃ n, w8 = w5.drewN n from by
        have D5 := DA4.grown hb
        have := count_of D5.dev D5.on.shelf (secM_of D5.on.shelf)
        rw [Hsec3.out] at this
        exact this)
      go_wp2_with fail
      refine (HCN.out _ (Below.refl _ _)).mono ?_
      rintro e w4a ⟨rfl, m4, rfl⟩
      go_wp2_with fail
      refine (HCN.out _ (drawn (Below.refl _ w4) m4)).mono ?_
      rintro e w4b ⟨rfl, m5, rfl⟩
      have hb4b : Below w4.heap.size w4 ((w4.drewN m4).drewN m5) := drawn (drawn (Below.refl _ w4) m4) m5
      have hfin := Lib.hid (show Below w.heap.size w w4 from DA4.on.bel)
      clear DA4 DB4 hc3 hL3 HCN
      go_wp2_with fail
      go_ret
      first | exact ⟨rfl, drawn (drawn hfin.out m4) m5⟩ | exact ⟨rfl, drawn hfin.out (m4 + m5)⟩
end Go.Proofs.YtjdjpafnakhpcaaDoor.U.sumsMoved
