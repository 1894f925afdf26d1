/-
  The statement's does: a call of both, whatever it is: they do not part.
  Conditions: both lie in memory, and are the same; fewer than 2^42 writes wait on each disk.
-/
import Derived.Test.YtbkcdomapdflaaaKm
import Derived.Deep.CutBlock
import Derived.Deep.DeepCutAuto
namespace Go.Proofs.Ytbkcdomapdflaaa.Sh
open Go.RowKit Go.Maps

theorem drawnN {B : Nat} {w w' : World} (h : Below B w w') (k : Nat) : Below B w (w'.drewN k) := ⟨h.os, h.tape, h.output, h.size, h.block⟩
/-- Both, without a box. -/
structure Pairs (W w : World) (p q : Nat) (S : Sf) (F G : Nat → Prop) : Prop where
  sh : Shelf w p S F
  rf : Ref w q S G
  apart : ∀ b, F b → ¬ G b
  lowF : ∀ b, F b → W.heap.size ≤ b
  lowG : ∀ b, G b → W.heap.size ≤ b
  bel : Below W.heap.size W w
theorem Pairs.boxed {W w : World} {p q : Nat} {S : Sf} {F G : Nat → Prop} (h : Pairs W w p q S F G) (OC : Array Value) : Duo W (w.alloc (.cells OC 33)) p q w.heap.size OC S S F G := by
  have hb : Below w.heap.size w (w.alloc (.cells OC 33)) := (Below.refl _ w).alloc (Nat.le_refl _) _
  have ho : Only (fun _ => False) w (w.alloc (.cells OC 33)) := (Only.refl _ w).alloc _
  exact ⟨h.sh.only ho (fun _ _ e => e), h.rf.only ho (fun _ _ e => e), h.apart, h.lowF, h.lowG, h.bel.trans (hb.mono h.bel.size), heap_alloc_new _ _, fun e => by have := h.sh.ltF e; omega, fun e => by have := h.rf.lt e; omega⟩
section
variable {W w w1 : World} {p q B0 : Nat} {OC : Array Value} {S R S' : Sf} {F G : Nat → Prop}
theorem Duo.pairs (h : Duo W w p q B0 OC S S F G) : Pairs W w p q S F G := ⟨h.sh, h.rf, h.apart, h.lowF, h.lowG, h.bel⟩
theorem Duo.leftF (h : Duo W w p q B0 OC S R F G) (hs : Shelf w1 p S' F) (ho : Only F w w1) : Duo W w1 p q B0 OC S' R F G :=
  ⟨hs, h.rf.only ho (fun b hb hf => h.apart b hf hb), h.apart, h.lowF, h.lowG, h.bel.trans (ho.below h.lowF h.bel.size), (ho.block B0 h.b0 h.boxF).trans h.box, h.boxF, h.boxG⟩
end
theorem grows_trans {S S1 : Sf} (h : Grows S S1) : Grows S S1 := h
theorem bytesOf_len (o : OpV) (hx : o.x < 256) : (bytesOf o).length ≤ 300 := by
  unfold bytesOf
  split
  · split
    · decide
    · rw [List.length_replicate]; omega
  · rw [(secOf_sec hx).1]; decide
/-- One more, in a byte. -/
theorem bump8 (x : Nat) : ∃ y : Nat, y < 256 ∧ IntKind.u8.wrap ((x : Int) + 1) = (y : Int) := by
  refine ⟨(IntKind.u8.wrap ((x : Int) + 1)).toNat, ?_, ?_⟩ <;> rw [IntKind.wrap_u8] <;> omega
def CutRel (W : World) (p q B0 : Nat) (OC : Array Value) (S : Sf) (wx : World) : Prop := ∃ S' F' G', Duo W wx p q B0 OC S' S' F' G' ∧ Grows S S'
set_option maxRecDepth 100000 in
set_option maxHeartbeats 8000000 in
theorem does_any {W w : World} {p q : Nat} {S : Sf} {F G : Nat → Prop} (h : Pairs W w p q S F G) (hL : Few S) (kind d n at_ : Int) (x : Nat) (A : Option Addr) (m c : Nat) (ks : List (List Int)) (hx : x < 256) (hn0 : -9223372036854775808 ≤ n) (hn1 : n ≤ 9223372036854775807) (hm : m ≤ 9223372036854775807) (hk : KeepIs W (Old W) A m ks) :
    Calls Try.prog 13 #[.pointer (some ⟨p, 0, none⟩), .pointer (some ⟨q, 0, none⟩), .agg #[.int .i64 kind, .int .i64 d, .int .i64 n, .int .i64 at_, .int .u8 (x : Int), .slice A m c]] w fun e w' => e = .returned (.bool true) ∧ ∃ S' F' G', Pairs W w' p q S' F' G' ∧ Grows S S' := by
  have hD0 := h.boxed #[.int .i64 kind, .int .i64 d, .int .i64 n, .int .i64 at_, .int .u8 (x : Int), .slice A m c]
  have hWS := h.bel.size
  have j0 := cell_of_row _ _ 0 _ _ _ hD0.box
  have j1 := cell_of_row _ _ 1 _ _ _ hD0.box
  have j2 := cell_of_row _ _ 2 _ _ _ hD0.box
  have j3 := cell_of_row _ _ 3 _ _ _ hD0.box
  have j4 := cell_of_row _ _ 4 _ _ _ hD0.box
  have j5 := cell_of_row _ _ 5 _ _ _ hD0.box
  simp only [List.getElem?_toArray, List.getElem?_cons_zero, List.getElem?_cons_succ] at j0 j1 j2 j3 j4 j5
  have hB0 : w.heap.size < (w.alloc (.cells #[.int .i64 kind, .int .i64 d, .int .i64 n, .int .i64 at_, .int .u8 (x : Int), .slice A m c] 33)).heap.size := by simp
  have HF := Lib.hid (fun b (hb : F b) => h.sh.ltF hb)
  have HG := Lib.hid (fun b (hb : G b) => h.rf.lt hb)
  have HS := Lib.hid (show ∃ w p F, Shelf w p S F from ⟨_, _, _, h.sh⟩)
  have hDD := Lib.hid hD0
  clear h hD0
  go_enter Try.func13, Try.ntmps13
  go_upto_block 0 with fail
  generalize hW0 : w.alloc (.cells #[.int .i64 kind, .int .i64 d, .int .i64 n, .int .i64 at_, .int .u8 (x : Int), .slice A m c] 33) = W0 at *
  have hW0' := Lib.hid hW0
  clear hW0
  generalize hB : w.heap.size = B0 at *
  go_cut [6] (fun _ wx => CutRel W p q B0 #[.int .i64 kind, .int .i64 d, .int .i64 n, .int .i64 at_, .int .u8 (x : Int), .slice A m c] S wx)
  case first =>
    by_cases k1 : kind = 1
    · subst k1
      obtain ⟨v, y, S1, hg, hv1, hv2, H1, H2⟩ := read_pair S d n hL HS.out
      have H1 := Lib.hid H1
      have H2 := Lib.hid H2
      go_wp2_with fail
      refine (H1.out _ p F hDD.out.sh).mono ?_
      rintro e w1 ⟨A1, c1, rfl, hl, hr, hfz, hsh⟩
      have ho1 : Only F W0 w1 := by obtain ⟨_, _, hm⟩ := hl; exact hm.1
      have D1 := hDD.out.leftF hsh ho1
      have O1 := own_new (w := W0) (L := W.heap.size) (B0 := B0) (F := F) (G := G) hr hv2 hfz (fun b hb => Nat.lt_trans (by have := HF.out b hb; omega) hB0) (fun b hb => Nat.lt_trans (by have := HG.out b hb; omega) hB0) (by omega) hB0
      clear hl hfz hsh H1
      have j1 : w1.cell? ⟨B0, 1, none⟩ = some (.int .i64 d) := cell_of_row _ _ 1 _ _ _ D1.box
      have j2 : w1.cell? ⟨B0, 2, none⟩ = some (.int .i64 n) := cell_of_row _ _ 2 _ _ _ D1.box
      have HD1 := Lib.hid D1
      have HO1 := Lib.hid O1
      have HRD := Lib.hid hr
      clear D1 O1 hr ho1
      go_wp2_with fail
      refine (H2.out _ q G HD1.out.rf).mono ?_
      rintro e w2 ⟨rfl, hl2⟩
      obtain ⟨G2, D2, M2⟩ := HD1.out.right hl2
      have O2 := HO1.out.movesG M2
      have hstr := run_str c1 (reads_only HRD.out M2.1 (fun h0 a ha => by obtain ⟨ad, h1, _, h3, _⟩ := HO1.out.there h0; rw [ha] at h1; injection h1 with h1; rw [h1]; exact h3))
      have HI := Lib.hid (show Duo W w2 p q B0 #[.int .i64 1, .int .i64 d, .int .i64 n, .int .i64 at_, .int .u8 (x : Int), .slice A m c] S1 S1 F G2 ∧ Own w2 A1 v.length B0 W.heap.size F G2 from ⟨D2, O2⟩)
      clear D2 O2 M2 hl2 HD1 HO1 HRD H2 j0 j1 j2 j3 j4 j5
      go_wp2_with fail
      go_loopw [11] (fun i wr => ∃ j : Nat, j ≤ v.length ∧ i = .int .i64 j ∧ Hid (Duo W wr p q B0 #[.int .i64 1, .int .i64 d, .int .i64 n, .int .i64 at_, .int .u8 (x : Int), .slice A m c] S1 S1 F G2 ∧ Own wr A1 v.length B0 W.heap.size F G2)) (fun i _ => v.length - (intOf i).toNat)
      case atStart => exact ⟨0, Nat.zero_le _, rfl, HI⟩
      case round =>
        clear HI
        obtain ⟨j, hj, rfl, hrel⟩ := hrel
        by_cases hlt : j < v.length
        · obtain ⟨ad, z, rfl, o1, o2, o3, o4, hz, x0, f0⟩ := hrel.out.2.at_ hlt
          obtain ⟨z1, hz1, he⟩ := bump8 z
          have HN := Lib.hid (show Duo W (wr.setCell (ad.add j) (.int .u8 (z1 : Int))) p q B0 #[.int .i64 1, .int .i64 d, .int .i64 n, .int .i64 at_, .int .u8 (x : Int), .slice A m c] S1 S1 F G2 ∧ Own (wr.setCell (ad.add j) (.int .u8 (z1 : Int))) (some ad) v.length B0 W.heap.size F G2 from ⟨hrel.out.1.poke (by rw [block_of_add]; exact o1) (by rw [block_of_add]; exact o2) (by rw [block_of_add]; exact o3) (by rw [block_of_add]; exact o4) _, hrel.out.2.poke rfl j z1 hz1⟩)
          clear hrel o1 o2 o3 o4 hz hz1
          go_wp2
          go_roundw
          case rel => exact ⟨j + 1, by omega, by go_num, HN⟩
          case measure => simp [intOf]; omega
        · obtain rfl : j = v.length := by omega
          have HR := Lib.hid (show CutRel W p q B0 #[.int .i64 1, .int .i64 d, .int .i64 n, .int .i64 at_, .int .u8 (x : Int), .slice A m c] S _ from ⟨S1, _, _, hrel.out.1, hg⟩)
          clear hrel
          go_wp2_with fail
          go_meet
          exact HR.out
    have e1 : (kind == 1) = false := by rw [beq_eq_false_iff_ne]; exact k1
    by_cases k2 : kind = 2
    · subst k2
      obtain ⟨b, hbb⟩ : ∃ b, bytesOf ⟨2, d, n, at_, x, A, m, c, ks⟩ = b := ⟨_, rfl⟩
      have hsm : Small b := by rw [← hbb]; exact bytesOf_small _ hx
      have hbl : b.length ≤ 300 := by rw [← hbb]; exact bytesOf_len _ hx
      have HBY := Lib.hid (fun w1 => show Calls Try.prog 29 #[.agg #[.int .i64 2, .int .i64 d, .int .i64 n, .int .i64 at_, .int .u8 (x : Int), .slice A m c]] w1 (BytesNew w1 b) from hbb ▸ bytes_any w1 ⟨2, d, n, at_, x, A, m, c, ks⟩ hx)
      obtain ⟨y, S1, hg, H1, H2⟩ := write_pair S d n b hsm hL
      have H1 := Lib.hid H1
      have H2 := Lib.hid H2
      go_wp2_with fail
      refine (HBY.out _).mono ?_
      rintro e w1 ⟨A1, c1, rfl, hr, hfz, hb1⟩
      have D1 := hDD.out.grown hb1
      have O1 := own_new (w := W0) (L := W.heap.size) (B0 := B0) (F := F) (G := G) hr hsm hfz (fun b hb => Nat.lt_trans (by have := HF.out b hb; omega) hB0) (fun b hb => Nat.lt_trans (by have := HG.out b hb; omega) hB0) (by omega) hB0
      have j1 : w1.cell? ⟨B0, 1, none⟩ = some (.int .i64 d) := cell_of_row _ _ 1 _ _ _ D1.box
      have j2 : w1.cell? ⟨B0, 2, none⟩ = some (.int .i64 n) := cell_of_row _ _ 2 _ _ _ D1.box
      have hA1 : ∀ a, 0 < b.length → A1 = some a → ¬ F a.block := fun a h0 ha => by obtain ⟨ad, h1, h2, _⟩ := O1.there h0; rw [ha] at h1; injection h1 with h1; rw [h1]; exact h2
      have HW := Lib.hid (show Calls Try.prog 8 #[.pointer (some ⟨p, 0, none⟩), .int .i64 d, .int .i64 n, .slice A1 b.length c1] w1 fun e w' => e = .returned (.int .i64 y) ∧ Left F w1 p S1 w' from H1.out w1 p F A1 c1 D1.sh hr hA1)
      have HD1 := Lib.hid D1
      have HO1 := Lib.hid O1
      have HRD := Lib.hid hr
      clear D1 O1 hr hfz hb1 hA1 H1
      go_wp2_with fail
      refine HW.out.mono ?_
      rintro e w2 ⟨rfl, hl2⟩
      obtain ⟨F2, D2, M2⟩ := HD1.out.left hl2
      have O2 := HO1.out.movesF M2
      have hr2 := reads_only HRD.out M2.1 (fun h0 a ha => by obtain ⟨ad, h1, h2, _⟩ := HO1.out.there h0; rw [ha] at h1; injection h1 with h1; rw [h1]; exact h2)
      have hstr := run_str c1 hr2
      have j1 : w2.cell? ⟨B0, 1, none⟩ = some (.int .i64 d) := cell_of_row _ _ 1 _ _ _ D2.box
      have j2 : w2.cell? ⟨B0, 2, none⟩ = some (.int .i64 n) := cell_of_row _ _ 2 _ _ _ D2.box
      have HD2 := Lib.hid D2
      have HO2 := Lib.hid O2
      clear D2 O2 hl2 HD1 HO1 HRD HW M2 hr2
      go_wp2_with fail
      refine (H2.out _ q G HD2.out.rf).mono ?_
      rintro e w3 ⟨rfl, hl3⟩
      obtain ⟨G3, D3, M3⟩ := HD2.out.right hl3
      have O3 := HO2.out.movesG M3
      have HI := Lib.hid (show Duo W w3 p q B0 #[.int .i64 2, .int .i64 d, .int .i64 n, .int .i64 at_, .int .u8 (x : Int), .slice A m c] S1 S1 F2 G3 ∧ Own w3 A1 b.length B0 W.heap.size F2 G3 from ⟨D3, O3⟩)
      clear D3 O3 M3 hl3 HD2 HO2 H2 j0 j1 j2 j3 j4 j5 hstr HBY hbb hsm
      go_wp2_with fail
      go_loopw [15] (fun i wr => ∃ j : Nat, j ≤ b.length ∧ i = .int .i64 j ∧ Hid (Duo W wr p q B0 #[.int .i64 2, .int .i64 d, .int .i64 n, .int .i64 at_, .int .u8 (x : Int), .slice A m c] S1 S1 F2 G3 ∧ Own wr A1 b.length B0 W.heap.size F2 G3)) (fun i _ => b.length - (intOf i).toNat)
      case atStart => exact ⟨0, Nat.zero_le _, rfl, HI⟩
      case round =>
        clear HI
        obtain ⟨j, hj, rfl, hrel⟩ := hrel
        by_cases hlt : j < b.length
        · obtain ⟨ad, z, rfl, o1, o2, o3, o4, hz, x0, f0⟩ := hrel.out.2.at_ hlt
          obtain ⟨z1, hz1, he⟩ := bump8 z
          have HN := Lib.hid (show Duo W (wr.setCell (ad.add j) (.int .u8 (z1 : Int))) p q B0 #[.int .i64 2, .int .i64 d, .int .i64 n, .int .i64 at_, .int .u8 (x : Int), .slice A m c] S1 S1 F2 G3 ∧ Own (wr.setCell (ad.add j) (.int .u8 (z1 : Int))) (some ad) b.length B0 W.heap.size F2 G3 from ⟨hrel.out.1.poke (by rw [block_of_add]; exact o1) (by rw [block_of_add]; exact o2) (by rw [block_of_add]; exact o3) (by rw [block_of_add]; exact o4) _, hrel.out.2.poke rfl j z1 hz1⟩)
          clear hrel o1 o2 o3 o4 hz hz1
          go_wp2
          go_roundw
          case rel => exact ⟨j + 1, by omega, by go_num, HN⟩
          case measure => simp [intOf]; omega
        · obtain rfl : j = b.length := by omega
          have HR := Lib.hid (show CutRel W p q B0 #[.int .i64 2, .int .i64 d, .int .i64 n, .int .i64 at_, .int .u8 (x : Int), .slice A m c] S _ from ⟨S1, _, _, hrel.out.1, hg⟩)
          clear hrel
          go_wp2_with fail
          go_meet
          exact HR.out
    have e2 : (kind == 2) = false := by rw [beq_eq_false_iff_ne]; exact k2
    by_cases k9 : kind = 9
    · subst k9
      obtain ⟨b, hbb⟩ : ∃ b, bytesOf ⟨9, d, n, at_, x, A, m, c, ks⟩ = b := ⟨_, rfl⟩
      have hsm : Small b := by rw [← hbb]; exact bytesOf_small _ hx
      have hbl : b.length ≤ 300 := by rw [← hbb]; exact bytesOf_len _ hx
      have HBY := Lib.hid (fun w1 => show Calls Try.prog 29 #[.agg #[.int .i64 9, .int .i64 d, .int .i64 n, .int .i64 at_, .int .u8 (x : Int), .slice A m c]] w1 (BytesNew w1 b) from hbb ▸ bytes_any w1 ⟨9, d, n, at_, x, A, m, c, ks⟩ hx)
      obtain ⟨y, S1, hg, H1, H2⟩ := write_pair S d n b hsm hL
      have H1 := Lib.hid H1
      have H2 := Lib.hid H2
      go_wp2_with fail
      refine (HBY.out _).mono ?_
      rintro e w1 ⟨A1, c1, rfl, hr, hfz, hb1⟩
      have D1 := hDD.out.grown hb1
      have O1 := own_new (w := W0) (L := W.heap.size) (B0 := B0) (F := F) (G := G) hr hsm hfz (fun b hb => Nat.lt_trans (by have := HF.out b hb; omega) hB0) (fun b hb => Nat.lt_trans (by have := HG.out b hb; omega) hB0) (by omega) hB0
      have j1 : w1.cell? ⟨B0, 1, none⟩ = some (.int .i64 d) := cell_of_row _ _ 1 _ _ _ D1.box
      have j2 : w1.cell? ⟨B0, 2, none⟩ = some (.int .i64 n) := cell_of_row _ _ 2 _ _ _ D1.box
      have hA1 : ∀ a, 0 < b.length → A1 = some a → ¬ F a.block := fun a h0 ha => by obtain ⟨ad, h1, h2, _⟩ := O1.there h0; rw [ha] at h1; injection h1 with h1; rw [h1]; exact h2
      have HW := Lib.hid (show Calls Try.prog 8 #[.pointer (some ⟨p, 0, none⟩), .int .i64 d, .int .i64 n, .slice A1 b.length c1] w1 fun e w' => e = .returned (.int .i64 y) ∧ Left F w1 p S1 w' from H1.out w1 p F A1 c1 D1.sh hr hA1)
      have HD1 := Lib.hid D1
      have HO1 := Lib.hid O1
      have HRD := Lib.hid hr
      clear D1 O1 hr hfz hb1 hA1 H1
      go_wp2_with fail
      refine HW.out.mono ?_
      rintro e w2 ⟨rfl, hl2⟩
      obtain ⟨F2, D2, M2⟩ := HD1.out.left hl2
      have O2 := HO1.out.movesF M2
      have hr2 := reads_only HRD.out M2.1 (fun h0 a ha => by obtain ⟨ad, h1, h2, _⟩ := HO1.out.there h0; rw [ha] at h1; injection h1 with h1; rw [h1]; exact h2)
      have hstr := run_str c1 hr2
      have j1 : w2.cell? ⟨B0, 1, none⟩ = some (.int .i64 d) := cell_of_row _ _ 1 _ _ _ D2.box
      have j2 : w2.cell? ⟨B0, 2, none⟩ = some (.int .i64 n) := cell_of_row _ _ 2 _ _ _ D2.box
      have HD2 := Lib.hid D2
      have HO2 := Lib.hid O2
      clear D2 O2 hl2 HD1 HO1 HRD HW M2 hr2
      go_wp2_with fail
      refine (H2.out _ q G HD2.out.rf).mono ?_
      rintro e w3 ⟨rfl, hl3⟩
      obtain ⟨G3, D3, M3⟩ := HD2.out.right hl3
      have O3 := HO2.out.movesG M3
      have HI := Lib.hid (show Duo W w3 p q B0 #[.int .i64 9, .int .i64 d, .int .i64 n, .int .i64 at_, .int .u8 (x : Int), .slice A m c] S1 S1 F2 G3 ∧ Own w3 A1 b.length B0 W.heap.size F2 G3 from ⟨D3, O3⟩)
      clear D3 O3 M3 hl3 HD2 HO2 H2 j0 j1 j2 j3 j4 j5 hstr HBY hbb hsm
      go_wp2_with fail
      go_loopw [15] (fun i wr => ∃ j : Nat, j ≤ b.length ∧ i = .int .i64 j ∧ Hid (Duo W wr p q B0 #[.int .i64 9, .int .i64 d, .int .i64 n, .int .i64 at_, .int .u8 (x : Int), .slice A m c] S1 S1 F2 G3 ∧ Own wr A1 b.length B0 W.heap.size F2 G3)) (fun i _ => b.length - (intOf i).toNat)
      case atStart => exact ⟨0, Nat.zero_le _, rfl, HI⟩
      case round =>
        clear HI
        obtain ⟨j, hj, rfl, hrel⟩ := hrel
        by_cases hlt : j < b.length
        · obtain ⟨ad, z, rfl, o1, o2, o3, o4, hz, x0, f0⟩ := hrel.out.2.at_ hlt
          obtain ⟨z1, hz1, he⟩ := bump8 z
          have HN := Lib.hid (show Duo W (wr.setCell (ad.add j) (.int .u8 (z1 : Int))) p q B0 #[.int .i64 9, .int .i64 d, .int .i64 n, .int .i64 at_, .int .u8 (x : Int), .slice A m c] S1 S1 F2 G3 ∧ Own (wr.setCell (ad.add j) (.int .u8 (z1 : Int))) (some ad) b.length B0 W.heap.size F2 G3 from ⟨hrel.out.1.poke (by rw [block_of_add]; exact o1) (by rw [block_of_add]; exact o2) (by rw [block_of_add]; exact o3) (by rw [block_of_add]; exact o4) _, hrel.out.2.poke rfl j z1 hz1⟩)
          clear hrel o1 o2 o3 o4 hz hz1
          go_wp2
          go_roundw
          case rel => exact ⟨j + 1, by omega, by go_num, HN⟩
          case measure => simp [intOf]; omega
        · obtain rfl : j = b.length := by omega
          have HR := Lib.hid (show CutRel W p q B0 #[.int .i64 9, .int .i64 d, .int .i64 n, .int .i64 at_, .int .u8 (x : Int), .slice A m c] S _ from ⟨S1, _, _, hrel.out.1, hg⟩)
          clear hrel
          go_wp2_with fail
          go_meet
          exact HR.out
    have e9 : (kind == 9) = false := by rw [beq_eq_false_iff_ne]; exact k9
    by_cases k3 : kind = 3
    · subst k3
      obtain ⟨y, S1, hP⟩ := flush_pair S d hL
      have H1 := fun w1 F1 h1 => show Calls Try.prog 10 #[.pointer (some ⟨p, 0, none⟩), .int .i64 d] w1 _ from hP.sh w1 p F1 h1
      have H2 := fun w1 G1 h1 => show Calls Try.prog 31 #[.pointer (some ⟨q, 0, none⟩), .int .i64 d] w1 _ from hP.rf w1 q G1 h1
      have hg := hP.grows
      clear hP j0 j1 j2 j3 j4 j5
      have k1 := fun (W' : World) (h : W'.heap[B0]? = some (.cells #[.int .i64 3, .int .i64 d, .int .i64 n, .int .i64 at_, .int .u8 (x : Int), .slice A m c] 33 (0, 0))) => show W'.cell? ⟨B0, 1, none⟩ = some (.int .i64 d) from cell_of_row _ _ 1 _ _ _ h
      have k2 := fun (W' : World) (h : W'.heap[B0]? = some (.cells #[.int .i64 3, .int .i64 d, .int .i64 n, .int .i64 at_, .int .u8 (x : Int), .slice A m c] 33 (0, 0))) => show W'.cell? ⟨B0, 2, none⟩ = some (.int .i64 n) from cell_of_row _ _ 2 _ _ _ h
      have k3 := fun (W' : World) (h : W'.heap[B0]? = some (.cells #[.int .i64 3, .int .i64 d, .int .i64 n, .int .i64 at_, .int .u8 (x : Int), .slice A m c] 33 (0, 0))) => show W'.cell? ⟨B0, 3, none⟩ = some (.int .i64 at_) from cell_of_row _ _ 3 _ _ _ h
      have k4 := fun (W' : World) (h : W'.heap[B0]? = some (.cells #[.int .i64 3, .int .i64 d, .int .i64 n, .int .i64 at_, .int .u8 (x : Int), .slice A m c] 33 (0, 0))) => show W'.cell? ⟨B0, 4, none⟩ = some (.int .u8 (x : Int)) from cell_of_row _ _ 4 _ _ _ h
      go_wp2_with fail
      have Dd : Duo W W0.drew p q B0 #[.int .i64 3, .int .i64 d, .int .i64 n, .int .i64 at_, .int .u8 (x : Int), .slice A m c] S S F G := hDD.out.grown ((Below.refl _ _).drew)
      refine wp_region_held_drew (S := fun (W' : World) => W'.heap[B0]? = some (.cells #[.int .i64 3, .int .i64 d, .int .i64 n, .int .i64 at_, .int .u8 (x : Int), .slice A m c] 33 (0, 0))) (by kernel_rfl) (by exact Dd.box) (fun hHeld => ?_)
      refine wpAnyH_take (i := 0) (oi := ⟨some 98, _, _, _, _, _⟩) (v := ?_) rfl (by kernel_rfl) (by kernel_rfl) (by kernel_rfl) (fun _ _ _ h => h) (Or.inl ⟨by rfl, ?_⟩) (by assumption) ?_
      rotate_left
      · (intro w hSw; (try dsimp only at hSw); go_simp; first | done | with_reducible rfl)
      try simp only [Act.put, List.setIfInBounds_toArray, List.set_cons_zero, List.set_cons_succ]
      refine wpAnyH_take (i := 1) (oi := ⟨some 99, _, _, _, _, _⟩) (v := ?_) rfl (by kernel_rfl) (by kernel_rfl) (by kernel_rfl) (fun _ _ _ h => h) (Or.inl ⟨by rfl, ?_⟩) (by assumption) ?_
      rotate_left
      · (intro w hSw; (try dsimp only at hSw); go_simp; first | done | with_reducible rfl)
      try simp only [Act.put, List.setIfInBounds_toArray, List.set_cons_zero, List.set_cons_succ]
      refine wpAnyH_take (i := 2) (oi := ⟨some 100, _, _, _, _, _⟩) (v := ?_) rfl (by kernel_rfl) (by kernel_rfl) (by kernel_rfl) (fun _ _ _ h => h) (Or.inl ⟨by rfl, ?_⟩) (by assumption) ?_
      rotate_left
      · (intro w hSw; (try dsimp only at hSw); go_simp; first | done | with_reducible rfl)
      try simp only [Act.put, List.setIfInBounds_toArray, List.set_cons_zero, List.set_cons_succ]
      refine wpAnyH_take (i := 4) (oi := ⟨some 102, _, _, _, _, _⟩) (v := ?_) rfl (by kernel_rfl) (by kernel_rfl) (by kernel_rfl) (fun _ _ _ h => h) (Or.inl ⟨by rfl, ?_⟩) (by assumption) ?_
      rotate_left
      · (intro w hSw; (try dsimp only at hSw); go_simp; first | done | with_reducible rfl)
      try simp only [Act.put, List.setIfInBounds_toArray, List.set_cons_zero, List.set_cons_succ]
      refine wpAnyH_take (i := 5) (oi := ⟨some 103, _, _, _, _, _⟩) (v := ?_) rfl (by kernel_rfl) (by kernel_rfl) (by kernel_rfl) (fun _ _ _ h => h) (Or.inl ⟨by rfl, ?_⟩) (by assumption) ?_
      rotate_left
      · (intro w hSw; (try dsimp only at hSw); go_simp; first | done | with_reducible rfl)
      try simp only [Act.put, List.setIfInBounds_toArray, List.set_cons_zero, List.set_cons_succ]
      refine wpAnyH_take (i := 6) (oi := ⟨some 104, _, _, _, _, _⟩) (v := ?_) rfl (by kernel_rfl) (by kernel_rfl) (by kernel_rfl) (fun _ _ _ h => h) (Or.inl ⟨by rfl, ?_⟩) (by assumption) ?_
      rotate_left
      · (intro w hSw; (try dsimp only at hSw); go_simp; first | done | with_reducible rfl)
      try simp only [Act.put, List.setIfInBounds_toArray, List.set_cons_zero, List.set_cons_succ]
      refine wpAnyH_ready (rs := [3]) (by kernel_rfl) (by simp) ?_
      refine AllReadyH.cons (o := ⟨some 101, _, _, _, _, _⟩) rfl (fun K hK => ?_) AllReadyH.nil
      go_simp
      refine (H1 _ F Dd.sh).mono ?_
      rintro e w1 ⟨rfl, hl1⟩
      refine hK.out _ _ ((by obtain ⟨_, D1, _⟩ := Dd.left hl1; exact D1.box)) (fun hHeld => ?_)
      clear hK K
      try simp only [Act.put, List.setIfInBounds_toArray, List.set_cons_zero, List.set_cons_succ]
      obtain ⟨F1, D1, M1⟩ := Dd.left hl1
      have HD1 := Lib.hid D1
      clear D1 M1 hl1
      refine wpAnyH_ready (rs := [7]) (by kernel_rfl) (by simp) ?_
      refine AllReadyH.cons (o := ⟨some 105, _, _, _, _, _⟩) rfl (fun K hK => ?_) AllReadyH.nil
      go_simp
      refine (H2 w1 G HD1.out.rf).mono ?_
      rintro e w2 ⟨rfl, hl2⟩
      refine hK.out _ _ ((by obtain ⟨_, D2, _⟩ := HD1.out.right hl2; exact D2.box)) (fun hHeld => ?_)
      clear hK K
      try simp only [Act.put, List.setIfInBounds_toArray, List.set_cons_zero, List.set_cons_succ]
      obtain ⟨G2, D2, M2⟩ := HD1.out.right hl2
      have HD2 := Lib.hid D2
      clear D2 M2 hl2 HD1
      refine wpAnyH_take (i := 8) (oi := ⟨some 106, _, _, _, _, _⟩) (v := ?_) rfl (by kernel_rfl) (by kernel_rfl) (by kernel_rfl) (fun _ _ _ h => h) (Or.inl ⟨by rfl, ?_⟩) (by assumption) ?_
      rotate_left
      · (intro w hSw; (try dsimp only at hSw); go_simp; first | done | with_reducible rfl)
      try simp only [Act.put, List.setIfInBounds_toArray, List.set_cons_zero, List.set_cons_succ]
      refine wpAnyH_done (by kernel_rfl) ?_ _
      clear hHeld k1 k2 k3 k4 H1 H2
      have HR := Lib.hid (show CutRel W p q B0 #[.int .i64 3, .int .i64 d, .int .i64 n, .int .i64 at_, .int .u8 (x : Int), .slice A m c] S _ from ⟨S1, _, _, HD2.out, hg⟩)
      go_wp2_with fail
      go_meet
      exact HR.out
    have e3 : (kind == 3) = false := by rw [beq_eq_false_iff_ne]; exact k3
    by_cases k4 : kind = 4
    · subst k4
      obtain ⟨y, S1, hP⟩ := kill_pair S d
      have H1 := fun w1 F1 h1 => show Calls Try.prog 11 #[.pointer (some ⟨p, 0, none⟩), .int .i64 d] w1 _ from hP.sh w1 p F1 h1
      have H2 := fun w1 G1 h1 => show Calls Try.prog 32 #[.pointer (some ⟨q, 0, none⟩), .int .i64 d] w1 _ from hP.rf w1 q G1 h1
      have hg := hP.grows
      clear hP j0 j1 j2 j3 j4 j5
      have k1 := fun (W' : World) (h : W'.heap[B0]? = some (.cells #[.int .i64 4, .int .i64 d, .int .i64 n, .int .i64 at_, .int .u8 (x : Int), .slice A m c] 33 (0, 0))) => show W'.cell? ⟨B0, 1, none⟩ = some (.int .i64 d) from cell_of_row _ _ 1 _ _ _ h
      have k2 := fun (W' : World) (h : W'.heap[B0]? = some (.cells #[.int .i64 4, .int .i64 d, .int .i64 n, .int .i64 at_, .int .u8 (x : Int), .slice A m c] 33 (0, 0))) => show W'.cell? ⟨B0, 2, none⟩ = some (.int .i64 n) from cell_of_row _ _ 2 _ _ _ h
      have k3 := fun (W' : World) (h : W'.heap[B0]? = some (.cells #[.int .i64 4, .int .i64 d, .int .i64 n, .int .i64 at_, .int .u8 (x : Int), .slice A m c] 33 (0, 0))) => show W'.cell? ⟨B0, 3, none⟩ = some (.int .i64 at_) from cell_of_row _ _ 3 _ _ _ h
      have k4 := fun (W' : World) (h : W'.heap[B0]? = some (.cells #[.int .i64 4, .int .i64 d, .int .i64 n, .int .i64 at_, .int .u8 (x : Int), .slice A m c] 33 (0, 0))) => show W'.cell? ⟨B0, 4, none⟩ = some (.int .u8 (x : Int)) from cell_of_row _ _ 4 _ _ _ h
      go_wp2_with fail
      have Dd : Duo W W0.drew p q B0 #[.int .i64 4, .int .i64 d, .int .i64 n, .int .i64 at_, .int .u8 (x : Int), .slice A m c] S S F G := hDD.out.grown ((Below.refl _ _).drew)
      refine wp_region_held_drew (S := fun (W' : World) => W'.heap[B0]? = some (.cells #[.int .i64 4, .int .i64 d, .int .i64 n, .int .i64 at_, .int .u8 (x : Int), .slice A m c] 33 (0, 0))) (by kernel_rfl) (by exact Dd.box) (fun hHeld => ?_)
      refine wpAnyH_take (i := 0) (oi := ⟨some 109, _, _, _, _, _⟩) (v := ?_) rfl (by kernel_rfl) (by kernel_rfl) (by kernel_rfl) (fun _ _ _ h => h) (Or.inl ⟨by rfl, ?_⟩) (by assumption) ?_
      rotate_left
      · (intro w hSw; (try dsimp only at hSw); go_simp; first | done | with_reducible rfl)
      try simp only [Act.put, List.setIfInBounds_toArray, List.set_cons_zero, List.set_cons_succ]
      refine wpAnyH_take (i := 1) (oi := ⟨some 110, _, _, _, _, _⟩) (v := ?_) rfl (by kernel_rfl) (by kernel_rfl) (by kernel_rfl) (fun _ _ _ h => h) (Or.inl ⟨by rfl, ?_⟩) (by assumption) ?_
      rotate_left
      · (intro w hSw; (try dsimp only at hSw); go_simp; first | done | with_reducible rfl)
      try simp only [Act.put, List.setIfInBounds_toArray, List.set_cons_zero, List.set_cons_succ]
      refine wpAnyH_take (i := 2) (oi := ⟨some 111, _, _, _, _, _⟩) (v := ?_) rfl (by kernel_rfl) (by kernel_rfl) (by kernel_rfl) (fun _ _ _ h => h) (Or.inl ⟨by rfl, ?_⟩) (by assumption) ?_
      rotate_left
      · (intro w hSw; (try dsimp only at hSw); go_simp; first | done | with_reducible rfl)
      try simp only [Act.put, List.setIfInBounds_toArray, List.set_cons_zero, List.set_cons_succ]
      refine wpAnyH_take (i := 4) (oi := ⟨some 113, _, _, _, _, _⟩) (v := ?_) rfl (by kernel_rfl) (by kernel_rfl) (by kernel_rfl) (fun _ _ _ h => h) (Or.inl ⟨by rfl, ?_⟩) (by assumption) ?_
      rotate_left
      · (intro w hSw; (try dsimp only at hSw); go_simp; first | done | with_reducible rfl)
      try simp only [Act.put, List.setIfInBounds_toArray, List.set_cons_zero, List.set_cons_succ]
      refine wpAnyH_take (i := 5) (oi := ⟨some 114, _, _, _, _, _⟩) (v := ?_) rfl (by kernel_rfl) (by kernel_rfl) (by kernel_rfl) (fun _ _ _ h => h) (Or.inl ⟨by rfl, ?_⟩) (by assumption) ?_
      rotate_left
      · (intro w hSw; (try dsimp only at hSw); go_simp; first | done | with_reducible rfl)
      try simp only [Act.put, List.setIfInBounds_toArray, List.set_cons_zero, List.set_cons_succ]
      refine wpAnyH_take (i := 6) (oi := ⟨some 115, _, _, _, _, _⟩) (v := ?_) rfl (by kernel_rfl) (by kernel_rfl) (by kernel_rfl) (fun _ _ _ h => h) (Or.inl ⟨by rfl, ?_⟩) (by assumption) ?_
      rotate_left
      · (intro w hSw; (try dsimp only at hSw); go_simp; first | done | with_reducible rfl)
      try simp only [Act.put, List.setIfInBounds_toArray, List.set_cons_zero, List.set_cons_succ]
      refine wpAnyH_ready (rs := [3]) (by kernel_rfl) (by simp) ?_
      refine AllReadyH.cons (o := ⟨some 112, _, _, _, _, _⟩) rfl (fun K hK => ?_) AllReadyH.nil
      go_simp
      refine (H1 _ F Dd.sh).mono ?_
      rintro e w1 ⟨rfl, hl1⟩
      refine hK.out _ _ ((by obtain ⟨_, D1, _⟩ := Dd.left hl1; exact D1.box)) (fun hHeld => ?_)
      clear hK K
      try simp only [Act.put, List.setIfInBounds_toArray, List.set_cons_zero, List.set_cons_succ]
      obtain ⟨F1, D1, M1⟩ := Dd.left hl1
      have HD1 := Lib.hid D1
      clear D1 M1 hl1
      refine wpAnyH_ready (rs := [7]) (by kernel_rfl) (by simp) ?_
      refine AllReadyH.cons (o := ⟨some 116, _, _, _, _, _⟩) rfl (fun K hK => ?_) AllReadyH.nil
      go_simp
      refine (H2 w1 G HD1.out.rf).mono ?_
      rintro e w2 ⟨rfl, hl2⟩
      refine hK.out _ _ ((by obtain ⟨_, D2, _⟩ := HD1.out.right hl2; exact D2.box)) (fun hHeld => ?_)
      clear hK K
      try simp only [Act.put, List.setIfInBounds_toArray, List.set_cons_zero, List.set_cons_succ]
      obtain ⟨G2, D2, M2⟩ := HD1.out.right hl2
      have HD2 := Lib.hid D2
      clear D2 M2 hl2 HD1
      refine wpAnyH_take (i := 8) (oi := ⟨some 117, _, _, _, _, _⟩) (v := ?_) rfl (by kernel_rfl) (by kernel_rfl) (by kernel_rfl) (fun _ _ _ h => h) (Or.inl ⟨by rfl, ?_⟩) (by assumption) ?_
      rotate_left
      · (intro w hSw; (try dsimp only at hSw); go_simp; first | done | with_reducible rfl)
      try simp only [Act.put, List.setIfInBounds_toArray, List.set_cons_zero, List.set_cons_succ]
      refine wpAnyH_done (by kernel_rfl) ?_ _
      clear hHeld k1 k2 k3 k4 H1 H2
      have HR := Lib.hid (show CutRel W p q B0 #[.int .i64 4, .int .i64 d, .int .i64 n, .int .i64 at_, .int .u8 (x : Int), .slice A m c] S _ from ⟨S1, _, _, HD2.out, hg⟩)
      go_wp2_with fail
      go_meet
      exact HR.out
    have e4 : (kind == 4) = false := by rw [beq_eq_false_iff_ne]; exact k4
    by_cases k5 : kind = 5
    · subst k5
      obtain ⟨y, S1, hP⟩ := corrupt_pair S d n at_ x hx hL
      have H1 := fun w1 F1 h1 => show Calls Try.prog 33 #[.pointer (some ⟨p, 0, none⟩), .int .i64 d, .int .i64 n, .int .i64 at_, .int .u8 (x : Int)] w1 _ from hP.sh w1 p F1 h1
      have H2 := fun w1 G1 h1 => show Calls Try.prog 34 #[.pointer (some ⟨q, 0, none⟩), .int .i64 d, .int .i64 n, .int .i64 at_, .int .u8 (x : Int)] w1 _ from hP.rf w1 q G1 h1
      have hg := hP.grows
      clear hP j0 j1 j2 j3 j4 j5
      have k1 := fun (W' : World) (h : W'.heap[B0]? = some (.cells #[.int .i64 5, .int .i64 d, .int .i64 n, .int .i64 at_, .int .u8 (x : Int), .slice A m c] 33 (0, 0))) => show W'.cell? ⟨B0, 1, none⟩ = some (.int .i64 d) from cell_of_row _ _ 1 _ _ _ h
      have k2 := fun (W' : World) (h : W'.heap[B0]? = some (.cells #[.int .i64 5, .int .i64 d, .int .i64 n, .int .i64 at_, .int .u8 (x : Int), .slice A m c] 33 (0, 0))) => show W'.cell? ⟨B0, 2, none⟩ = some (.int .i64 n) from cell_of_row _ _ 2 _ _ _ h
      have k3 := fun (W' : World) (h : W'.heap[B0]? = some (.cells #[.int .i64 5, .int .i64 d, .int .i64 n, .int .i64 at_, .int .u8 (x : Int), .slice A m c] 33 (0, 0))) => show W'.cell? ⟨B0, 3, none⟩ = some (.int .i64 at_) from cell_of_row _ _ 3 _ _ _ h
      have k4 := fun (W' : World) (h : W'.heap[B0]? = some (.cells #[.int .i64 5, .int .i64 d, .int .i64 n, .int .i64 at_, .int .u8 (x : Int), .slice A m c] 33 (0, 0))) => show W'.cell? ⟨B0, 4, none⟩ = some (.int .u8 (x : Int)) from cell_of_row _ _ 4 _ _ _ h
      go_wp2_with fail
      have Dd : Duo W W0.drew p q B0 #[.int .i64 5, .int .i64 d, .int .i64 n, .int .i64 at_, .int .u8 (x : Int), .slice A m c] S S F G := hDD.out.grown ((Below.refl _ _).drew)
      refine wp_region_held_drew (S := fun (W' : World) => W'.heap[B0]? = some (.cells #[.int .i64 5, .int .i64 d, .int .i64 n, .int .i64 at_, .int .u8 (x : Int), .slice A m c] 33 (0, 0))) (by kernel_rfl) (by exact Dd.box) (fun hHeld => ?_)
      refine wpAnyH_take (i := 0) (oi := ⟨some 120, _, _, _, _, _⟩) (v := ?_) rfl (by kernel_rfl) (by kernel_rfl) (by kernel_rfl) (fun _ _ _ h => h) (Or.inl ⟨by rfl, ?_⟩) (by assumption) ?_
      rotate_left
      · (intro w hSw; (try dsimp only at hSw); go_simp; first | done | with_reducible rfl)
      try simp only [Act.put, List.setIfInBounds_toArray, List.set_cons_zero, List.set_cons_succ]
      refine wpAnyH_take (i := 1) (oi := ⟨some 121, _, _, _, _, _⟩) (v := ?_) rfl (by kernel_rfl) (by kernel_rfl) (by kernel_rfl) (fun _ _ _ h => h) (Or.inl ⟨by rfl, ?_⟩) (by assumption) ?_
      rotate_left
      · (intro w hSw; (try dsimp only at hSw); go_simp; first | done | with_reducible rfl)
      try simp only [Act.put, List.setIfInBounds_toArray, List.set_cons_zero, List.set_cons_succ]
      refine wpAnyH_take (i := 2) (oi := ⟨some 122, _, _, _, _, _⟩) (v := ?_) rfl (by kernel_rfl) (by kernel_rfl) (by kernel_rfl) (fun _ _ _ h => h) (Or.inl ⟨by rfl, ?_⟩) (by assumption) ?_
      rotate_left
      · (intro w hSw; (try dsimp only at hSw); go_simp; first | done | with_reducible rfl)
      try simp only [Act.put, List.setIfInBounds_toArray, List.set_cons_zero, List.set_cons_succ]
      refine wpAnyH_take (i := 3) (oi := ⟨some 123, _, _, _, _, _⟩) (v := ?_) rfl (by kernel_rfl) (by kernel_rfl) (by kernel_rfl) (fun _ _ _ h => h) (Or.inl ⟨by rfl, ?_⟩) (by assumption) ?_
      rotate_left
      · (intro w hSw; (try dsimp only at hSw); go_simp; first | done | with_reducible rfl)
      try simp only [Act.put, List.setIfInBounds_toArray, List.set_cons_zero, List.set_cons_succ]
      refine wpAnyH_take (i := 4) (oi := ⟨some 124, _, _, _, _, _⟩) (v := ?_) rfl (by kernel_rfl) (by kernel_rfl) (by kernel_rfl) (fun _ _ _ h => h) (Or.inl ⟨by rfl, ?_⟩) (by assumption) ?_
      rotate_left
      · (intro w hSw; (try dsimp only at hSw); go_simp; first | done | with_reducible rfl)
      try simp only [Act.put, List.setIfInBounds_toArray, List.set_cons_zero, List.set_cons_succ]
      refine wpAnyH_take (i := 5) (oi := ⟨some 125, _, _, _, _, _⟩) (v := ?_) rfl (by kernel_rfl) (by kernel_rfl) (by kernel_rfl) (fun _ _ _ h => h) (Or.inl ⟨by rfl, ?_⟩) (by assumption) ?_
      rotate_left
      · (intro w hSw; (try dsimp only at hSw); go_simp; first | done | with_reducible rfl)
      try simp only [Act.put, List.setIfInBounds_toArray, List.set_cons_zero, List.set_cons_succ]
      refine wpAnyH_take (i := 6) (oi := ⟨some 126, _, _, _, _, _⟩) (v := ?_) rfl (by kernel_rfl) (by kernel_rfl) (by kernel_rfl) (fun _ _ _ h => h) (Or.inl ⟨by rfl, ?_⟩) (by assumption) ?_
      rotate_left
      · (intro w hSw; (try dsimp only at hSw); go_simp; first | done | with_reducible rfl)
      try simp only [Act.put, List.setIfInBounds_toArray, List.set_cons_zero, List.set_cons_succ]
      refine wpAnyH_take (i := 7) (oi := ⟨some 127, _, _, _, _, _⟩) (v := ?_) rfl (by kernel_rfl) (by kernel_rfl) (by kernel_rfl) (fun _ _ _ h => h) (Or.inl ⟨by rfl, ?_⟩) (by assumption) ?_
      rotate_left
      · (intro w hSw; (try dsimp only at hSw); go_simp; first | done | with_reducible rfl)
      try simp only [Act.put, List.setIfInBounds_toArray, List.set_cons_zero, List.set_cons_succ]
      refine wpAnyH_take (i := 8) (oi := ⟨some 128, _, _, _, _, _⟩) (v := ?_) rfl (by kernel_rfl) (by kernel_rfl) (by kernel_rfl) (fun _ _ _ h => h) (Or.inl ⟨by rfl, ?_⟩) (by assumption) ?_
      rotate_left
      · (intro w hSw; (try dsimp only at hSw); go_simp; first | done | with_reducible rfl)
      try simp only [Act.put, List.setIfInBounds_toArray, List.set_cons_zero, List.set_cons_succ]
      refine wpAnyH_take (i := 10) (oi := ⟨some 130, _, _, _, _, _⟩) (v := ?_) rfl (by kernel_rfl) (by kernel_rfl) (by kernel_rfl) (fun _ _ _ h => h) (Or.inl ⟨by rfl, ?_⟩) (by assumption) ?_
      rotate_left
      · (intro w hSw; (try dsimp only at hSw); go_simp; first | done | with_reducible rfl)
      try simp only [Act.put, List.setIfInBounds_toArray, List.set_cons_zero, List.set_cons_succ]
      refine wpAnyH_take (i := 11) (oi := ⟨some 131, _, _, _, _, _⟩) (v := ?_) rfl (by kernel_rfl) (by kernel_rfl) (by kernel_rfl) (fun _ _ _ h => h) (Or.inl ⟨by rfl, ?_⟩) (by assumption) ?_
      rotate_left
      · (intro w hSw; (try dsimp only at hSw); go_simp; first | done | with_reducible rfl)
      try simp only [Act.put, List.setIfInBounds_toArray, List.set_cons_zero, List.set_cons_succ]
      refine wpAnyH_take (i := 12) (oi := ⟨some 132, _, _, _, _, _⟩) (v := ?_) rfl (by kernel_rfl) (by kernel_rfl) (by kernel_rfl) (fun _ _ _ h => h) (Or.inl ⟨by rfl, ?_⟩) (by assumption) ?_
      rotate_left
      · (intro w hSw; (try dsimp only at hSw); go_simp; first | done | with_reducible rfl)
      try simp only [Act.put, List.setIfInBounds_toArray, List.set_cons_zero, List.set_cons_succ]
      refine wpAnyH_take (i := 13) (oi := ⟨some 133, _, _, _, _, _⟩) (v := ?_) rfl (by kernel_rfl) (by kernel_rfl) (by kernel_rfl) (fun _ _ _ h => h) (Or.inl ⟨by rfl, ?_⟩) (by assumption) ?_
      rotate_left
      · (intro w hSw; (try dsimp only at hSw); go_simp; first | done | with_reducible rfl)
      try simp only [Act.put, List.setIfInBounds_toArray, List.set_cons_zero, List.set_cons_succ]
      refine wpAnyH_take (i := 14) (oi := ⟨some 134, _, _, _, _, _⟩) (v := ?_) rfl (by kernel_rfl) (by kernel_rfl) (by kernel_rfl) (fun _ _ _ h => h) (Or.inl ⟨by rfl, ?_⟩) (by assumption) ?_
      rotate_left
      · (intro w hSw; (try dsimp only at hSw); go_simp; first | done | with_reducible rfl)
      try simp only [Act.put, List.setIfInBounds_toArray, List.set_cons_zero, List.set_cons_succ]
      refine wpAnyH_take (i := 15) (oi := ⟨some 135, _, _, _, _, _⟩) (v := ?_) rfl (by kernel_rfl) (by kernel_rfl) (by kernel_rfl) (fun _ _ _ h => h) (Or.inl ⟨by rfl, ?_⟩) (by assumption) ?_
      rotate_left
      · (intro w hSw; (try dsimp only at hSw); go_simp; first | done | with_reducible rfl)
      try simp only [Act.put, List.setIfInBounds_toArray, List.set_cons_zero, List.set_cons_succ]
      refine wpAnyH_take (i := 16) (oi := ⟨some 136, _, _, _, _, _⟩) (v := ?_) rfl (by kernel_rfl) (by kernel_rfl) (by kernel_rfl) (fun _ _ _ h => h) (Or.inl ⟨by rfl, ?_⟩) (by assumption) ?_
      rotate_left
      · (intro w hSw; (try dsimp only at hSw); go_simp; first | done | with_reducible rfl)
      try simp only [Act.put, List.setIfInBounds_toArray, List.set_cons_zero, List.set_cons_succ]
      refine wpAnyH_take (i := 17) (oi := ⟨some 137, _, _, _, _, _⟩) (v := ?_) rfl (by kernel_rfl) (by kernel_rfl) (by kernel_rfl) (fun _ _ _ h => h) (Or.inl ⟨by rfl, ?_⟩) (by assumption) ?_
      rotate_left
      · (intro w hSw; (try dsimp only at hSw); go_simp; first | done | with_reducible rfl)
      try simp only [Act.put, List.setIfInBounds_toArray, List.set_cons_zero, List.set_cons_succ]
      refine wpAnyH_take (i := 18) (oi := ⟨some 138, _, _, _, _, _⟩) (v := ?_) rfl (by kernel_rfl) (by kernel_rfl) (by kernel_rfl) (fun _ _ _ h => h) (Or.inl ⟨by rfl, ?_⟩) (by assumption) ?_
      rotate_left
      · (intro w hSw; (try dsimp only at hSw); go_simp; first | done | with_reducible rfl)
      try simp only [Act.put, List.setIfInBounds_toArray, List.set_cons_zero, List.set_cons_succ]
      refine wpAnyH_ready (rs := [9]) (by kernel_rfl) (by simp) ?_
      refine AllReadyH.cons (o := ⟨some 129, _, _, _, _, _⟩) rfl (fun K hK => ?_) AllReadyH.nil
      go_simp
      refine (H1 _ F Dd.sh).mono ?_
      rintro e w1 ⟨rfl, hl1⟩
      refine hK.out _ _ ((by obtain ⟨_, D1, _⟩ := Dd.left hl1; exact D1.box)) (fun hHeld => ?_)
      clear hK K
      try simp only [Act.put, List.setIfInBounds_toArray, List.set_cons_zero, List.set_cons_succ]
      obtain ⟨F1, D1, M1⟩ := Dd.left hl1
      have HD1 := Lib.hid D1
      clear D1 M1 hl1
      refine wpAnyH_ready (rs := [19]) (by kernel_rfl) (by simp) ?_
      refine AllReadyH.cons (o := ⟨some 139, _, _, _, _, _⟩) rfl (fun K hK => ?_) AllReadyH.nil
      go_simp
      refine (H2 w1 G HD1.out.rf).mono ?_
      rintro e w2 ⟨rfl, hl2⟩
      refine hK.out _ _ ((by obtain ⟨_, D2, _⟩ := HD1.out.right hl2; exact D2.box)) (fun hHeld => ?_)
      clear hK K
      try simp only [Act.put, List.setIfInBounds_toArray, List.set_cons_zero, List.set_cons_succ]
      obtain ⟨G2, D2, M2⟩ := HD1.out.right hl2
      have HD2 := Lib.hid D2
      clear D2 M2 hl2 HD1
      refine wpAnyH_take (i := 20) (oi := ⟨some 140, _, _, _, _, _⟩) (v := ?_) rfl (by kernel_rfl) (by kernel_rfl) (by kernel_rfl) (fun _ _ _ h => h) (Or.inl ⟨by rfl, ?_⟩) (by assumption) ?_
      rotate_left
      · (intro w hSw; (try dsimp only at hSw); go_simp; first | done | with_reducible rfl)
      try simp only [Act.put, List.setIfInBounds_toArray, List.set_cons_zero, List.set_cons_succ]
      refine wpAnyH_done (by kernel_rfl) ?_ _
      clear hHeld k1 k2 k3 k4 H1 H2
      have HR := Lib.hid (show CutRel W p q B0 #[.int .i64 5, .int .i64 d, .int .i64 n, .int .i64 at_, .int .u8 (x : Int), .slice A m c] S _ from ⟨S1, _, _, HD2.out, hg⟩)
      go_wp2_with fail
      go_meet
      exact HR.out
    have e5 : (kind == 5) = false := by rw [beq_eq_false_iff_ne]; exact k5
    by_cases k6 : kind = 6
    · subst k6
      have hP := stop_pair S n hn0 hn1
      have H1 := Lib.hid (fun w1 F1 h1 => show Calls Try.prog 35 #[.pointer (some ⟨p, 0, none⟩), .int .i64 n] w1 _ from hP.sh w1 p F1 h1)
      have H2 := Lib.hid (fun w1 G1 h1 => show Calls Try.prog 36 #[.pointer (some ⟨q, 0, none⟩), .int .i64 n] w1 _ from hP.rf w1 q G1 h1)
      have hg := hP.grows
      clear hP
      generalize S.doStop n = S1 at *
      go_wp2_with fail
      refine (H1.out _ F hDD.out.sh).mono ?_
      rintro e w1 ⟨rfl, hl1⟩
      obtain ⟨F1, D1, M1⟩ := hDD.out.left hl1
      have j2 : w1.cell? ⟨B0, 2, none⟩ = some (.int .i64 n) := cell_of_row _ _ 2 _ _ _ D1.box
      have HD1 := Lib.hid D1
      clear D1 M1 hl1 H1
      go_wp2_with fail
      refine (H2.out _ G HD1.out.rf).mono ?_
      rintro e w2 ⟨rfl, hl2⟩
      obtain ⟨G2, D2, M2⟩ := HD1.out.right hl2
      have HR := Lib.hid (show CutRel W p q B0 #[.int .i64 6, .int .i64 d, .int .i64 n, .int .i64 at_, .int .u8 (x : Int), .slice A m c] S _ from ⟨S1, _, _, D2, hg⟩)
      clear D2 M2 hl2 HD1 H2
      go_wp2_with fail
      go_meet
      exact HR.out
    have e6 : (kind == 6) = false := by rw [beq_eq_false_iff_ne]; exact k6
    by_cases k7 : kind = 7
    · subst k7
      have hg := grows_crash S ks
      have HG1 : ∀ b, Old W b → b < W0.heap.size ∧ ¬ F b := fun b hb => ⟨by have hb : b < W.heap.size := hb; omega, fun e => by have hb : b < W.heap.size := hb; have := hDD.out.lowF b e; omega⟩
      have H1 := Lib.hid (crash_any W0 p (Old W) A m c ks hDD.out.sh (keep_below hk hDD.out.bel) HG1 hm hL)
      have H2 := Lib.hid (fun w1 (G1 : Nat → Prop) (h1 : Ref w1 q S G1) (hb : Below W.heap.size W w1) (hl : ∀ b, G1 b → W.heap.size ≤ b) => show Calls Try.prog 37 #[.pointer (some ⟨q, 0, none⟩), .slice A m c] w1 fun e w' => e = .returned (.tuple #[]) ∧ RLeft G1 w1 q (S.crash ks) w' from by
        obtain ⟨D, gs, Ls, st, l, h1⟩ := h1
        exact rcrash_any h1 (Old W) A m c ks (keep_below hk hb) (fun b hbb => ⟨by have hbb : b < W.heap.size := hbb; have := hb.size; omega, fun e => by have hbb : b < W.heap.size := hbb; have := hl b e; omega⟩) hm hL)
      clear HG1
      generalize S.crash ks = S1 at *
      go_wp2_with fail
      refine H1.out.mono ?_
      rintro e w1 ⟨rfl, hl1⟩
      obtain ⟨F1, D1, M1⟩ := hDD.out.left hl1
      have j5 : w1.cell? ⟨B0, 5, none⟩ = some (.slice A m c) := cell_of_row _ _ 5 _ _ _ D1.box
      have HD1 := Lib.hid D1
      clear D1 M1 hl1 H1
      go_wp2_with fail
      refine (H2.out _ G HD1.out.rf HD1.out.bel HD1.out.lowG).mono ?_
      rintro e w2 ⟨rfl, hl2⟩
      obtain ⟨G2, D2, M2⟩ := HD1.out.right hl2
      have HR := Lib.hid (show CutRel W p q B0 #[.int .i64 7, .int .i64 d, .int .i64 n, .int .i64 at_, .int .u8 (x : Int), .slice A m c] S _ from ⟨S1, _, _, D2, hg⟩)
      clear D2 M2 hl2 HD1 H2
      go_wp2_with fail
      go_meet
      exact HR.out
    have e7 : (kind == 7) = false := by rw [beq_eq_false_iff_ne]; exact k7
    have HR := Lib.hid (show CutRel W p q B0 #[.int .i64 kind, .int .i64 d, .int .i64 n, .int .i64 at_, .int .u8 (x : Int), .slice A m c] S _ from ⟨S, _, _, hDD.out, grows_self S⟩)
    go_wp2_with fail
    go_meet
    exact HR.out
  case rest =>
    clear hDD j0 j1 j2 j3 j4 j5 hW0' HF HG HS hB0
    obtain ⟨S1, F1, G1, D1, hg⟩ := hcut
    have hRF := D1.rf
    obtain ⟨D, gs, Ls, st, l, r1⟩ := hRF
    have HP := Lib.hid (show ∀ w1, Below wc.heap.size wc w1 → ∃ S' F' G', Pairs W w1 p q S' F' G' ∧ Grows S S' from fun w1 hb => ⟨S1, F1, G1, (D1.grown hb).pairs, hg⟩)
    have j1 : wc.cell? ⟨B0, 1, none⟩ = some (.int .i64 d) := cell_of_row _ _ 1 _ _ _ D1.box
    have c0 := r1.c0
    have c2 := r1.c2
    have hmost := r1.most
    have hgrow : ∀ w1, Below wc.heap.size wc w1 → Shelf w1 p S1 F1 := fun w1 hb => (D1.grown hb).sh
    have hgrowR : ∀ w1, Below wc.heap.size wc w1 → Ref w1 q S1 G1 := fun w1 hb => (D1.grown hb).rf
    have HO1 := Lib.hid (fun w1 hb => show Calls Try.prog 38 #[.pointer (some ⟨p, 0, none⟩)] w1 fun e w' => e = .returned (.bool S1.off) ∧ w1 = w' from by obtain ⟨D, gs, h⟩ := hgrow w1 hb; exact off_any h)
    have HO2 := Lib.hid (fun w1 hb => show Calls Try.prog 39 #[.pointer (some ⟨q, 0, none⟩)] w1 fun e w' => e = .returned (.bool S1.off) ∧ w1 = w' from by obtain ⟨D, gs, Ls, st, l, h⟩ := hgrowR w1 hb; exact roff_any h)
    have HO5 := Lib.hid (fun w1 hb => show Calls Try.prog 18 #[.pointer (some ⟨p, 0, none⟩)] w1 fun e w' => e = .returned (.int .i64 S1.count) ∧ w1 = w' from by obtain ⟨D, gs, h⟩ := hgrow w1 hb; exact count_any h)
    by_cases hd : hasD S1 d
    · obtain ⟨hd1, hd2⟩ := hd
      obtain ⟨d, rfl⟩ : ∃ m : Nat, d = (m : Int) := ⟨d.toNat, by omega⟩
      have hdl : d < S1.disks.length := by omega
      have k3 := r1.dc hdl (c := 3) (by decide)
      have k2 := r1.dc hdl (c := 2) (by decide)
      simp only [diskR] at k3 k2
      obtain ⟨A9, nW, c9, hva, hnW⟩ : ∃ A nW ca, (gs d).v = .slice A nW ca ∧ nW = (S1.disks.getD d default).waits.length := by
        obtain ⟨A, ca, hva⟩ := own_shape2 (r1.disk d hdl).waits
        exact ⟨A, _, ca, hva, rfl⟩
      rw [hva] at k2
      have HO3 := Lib.hid (fun w1 hb => show Calls Try.prog 40 #[.pointer (some ⟨p, 0, none⟩), .int .i64 d] w1 fun e w' => e = .returned (.bool (S1.disks.getD d default).dead) ∧ w1 = w' from by obtain ⟨D, gs, h⟩ := hgrow w1 hb; exact dead_yes h d hdl)
      have HO4 := Lib.hid (fun w1 hb => show Calls Try.prog 16 #[.pointer (some ⟨p, 0, none⟩), .int .i64 d] w1 fun e w' => e = .returned (.int .i64 (nW : Int)) ∧ w1 = w' from by obtain ⟨D, gs, h⟩ := hgrow w1 hb; rw [hnW]; exact waits_yes h d hdl)
      clear hva hnW r1 D1 hgrow hgrowR hg
      generalize (S1.disks.getD d default).dead = dead at *
      generalize S1.disks.length = k at *
      generalize S1.off = off at *
      generalize S1.count = cnt at *
      clear hd1 hdl
      have t1 : decide ((d : Int) ≥ 0) = true := decide_eq_true (by omega)
      have t2 : decide ((d : Int) < (k : Int)) = true := decide_eq_true hd2
      have t3 : decide (d < k) = true := decide_eq_true (by omega)
      clear hL hk hx hn0 hn1 hm
      go_wp2_with fail
      go_quiet (fail)
      go_wp2_with fail
      go_quiet (fail)
      go_wp2_with fail
      go_quiet (fail)
      go_wp2_with fail
      go_quiet ((first
        | (go_at_call 38; refine (HO1.out _ (drawnN (Below.refl _ _) _)).mono ?_; rintro e w' ⟨rfl, rfl⟩; exact ⟨rfl, _, rfl⟩)
        | (go_at_call 39; refine (HO2.out _ (drawnN (Below.refl _ _) _)).mono ?_; rintro e w' ⟨rfl, rfl⟩; exact ⟨rfl, _, rfl⟩)
        | (go_at_call 40; refine (HO3.out _ (drawnN (Below.refl _ _) _)).mono ?_; rintro e w' ⟨rfl, rfl⟩; exact ⟨rfl, _, rfl⟩)
        | (go_at_call 16; refine (HO4.out _ (drawnN (Below.refl _ _) _)).mono ?_; rintro e w' ⟨rfl, rfl⟩; exact ⟨rfl, _, rfl⟩)
        | (go_at_call 18; refine (HO5.out _ (drawnN (Below.refl _ _) _)).mono ?_; rintro e w' ⟨rfl, rfl⟩; exact ⟨rfl, _, rfl⟩)))
      go_wp2_with fail
      go_ret
      exact ⟨rfl, HP.out _ (by first | exact drawnN (drawnN (drawnN (drawnN (Below.refl _ _) _) _) _) _ | exact drawnN (drawnN (drawnN (Below.refl _ _) _) _) _)⟩
    · have HO3 := Lib.hid (fun w1 hb => show Calls Try.prog 40 #[.pointer (some ⟨p, 0, none⟩), .int .i64 d] w1 fun e w' => e = .returned (.bool false) ∧ w1 = w' from by obtain ⟨D, gs, h⟩ := hgrow w1 hb; exact dead_no h d hd)
      have HO4 := Lib.hid (fun w1 hb => show Calls Try.prog 16 #[.pointer (some ⟨p, 0, none⟩), .int .i64 d] w1 fun e w' => e = .returned (.int .i64 0) ∧ w1 = w' from by obtain ⟨D, gs, h⟩ := hgrow w1 hb; exact waits_no h d hd)
      unfold hasD at hd
      clear r1 D1 hgrow hgrowR hg
      generalize S1.disks.length = k at *
      generalize S1.off = off at *
      generalize S1.count = cnt at *
      clear hL hk hx hn0 hn1 hm
      by_cases h0 : d < 0
      · have t1 : decide (d ≥ 0) = false := decide_eq_false (by omega)
        clear hd
        go_wp2_with fail
        go_quiet (fail)
        go_wp2_with fail
        go_quiet (fail)
        go_wp2_with fail
        go_quiet ((first
          | (go_at_call 38; refine (HO1.out _ (drawnN (Below.refl _ _) _)).mono ?_; rintro e w' ⟨rfl, rfl⟩; exact ⟨rfl, _, rfl⟩)
          | (go_at_call 39; refine (HO2.out _ (drawnN (Below.refl _ _) _)).mono ?_; rintro e w' ⟨rfl, rfl⟩; exact ⟨rfl, _, rfl⟩)
          | (go_at_call 40; refine (HO3.out _ (drawnN (Below.refl _ _) _)).mono ?_; rintro e w' ⟨rfl, rfl⟩; exact ⟨rfl, _, rfl⟩)
          | (go_at_call 16; refine (HO4.out _ (drawnN (Below.refl _ _) _)).mono ?_; rintro e w' ⟨rfl, rfl⟩; exact ⟨rfl, _, rfl⟩)
          | (go_at_call 18; refine (HO5.out _ (drawnN (Below.refl _ _) _)).mono ?_; rintro e w' ⟨rfl, rfl⟩; exact ⟨rfl, _, rfl⟩)))
        go_wp2_with fail
        go_ret
        exact ⟨rfl, HP.out _ (by first | exact drawnN (drawnN (drawnN (drawnN (Below.refl _ _) _) _) _) _ | exact drawnN (drawnN (drawnN (Below.refl _ _) _) _) _)⟩
      · have t1 : decide (d ≥ 0) = true := decide_eq_true (by omega)
        have t2 : decide (d < (k : Int)) = false := decide_eq_false (by omega)
        clear hd
        go_wp2_with fail
        go_quiet (fail)
        go_wp2_with fail
        go_quiet (fail)
        go_wp2_with fail
        go_quiet ((first
          | (go_at_call 38; refine (HO1.out _ (drawnN (Below.refl _ _) _)).mono ?_; rintro e w' ⟨rfl, rfl⟩; exact ⟨rfl, _, rfl⟩)
          | (go_at_call 39; refine (HO2.out _ (drawnN (Below.refl _ _) _)).mono ?_; rintro e w' ⟨rfl, rfl⟩; exact ⟨rfl, _, rfl⟩)
          | (go_at_call 40; refine (HO3.out _ (drawnN (Below.refl _ _) _)).mono ?_; rintro e w' ⟨rfl, rfl⟩; exact ⟨rfl, _, rfl⟩)
          | (go_at_call 16; refine (HO4.out _ (drawnN (Below.refl _ _) _)).mono ?_; rintro e w' ⟨rfl, rfl⟩; exact ⟨rfl, _, rfl⟩)
          | (go_at_call 18; refine (HO5.out _ (drawnN (Below.refl _ _) _)).mono ?_; rintro e w' ⟨rfl, rfl⟩; exact ⟨rfl, _, rfl⟩)))
        go_wp2_with fail
        go_ret
        exact ⟨rfl, HP.out _ (by first | exact drawnN (drawnN (drawnN (drawnN (Below.refl _ _) _) _) _) _ | exact drawnN (drawnN (drawnN (Below.refl _ _) _) _) _)⟩
end Go.Proofs.Ytbkcdomapdflaaa.Sh
