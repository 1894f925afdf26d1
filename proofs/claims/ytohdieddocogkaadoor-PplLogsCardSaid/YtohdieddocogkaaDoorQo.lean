/-
  ppl: lives, the frame.
  Conditions: each theorem's own.
-/
import Derived.Test.YtohdieddocogkaaDoorQn
import Derived.Test.YtohdieddocogkaaDoorCards
import Derived.Test.YtohdieddocogkaaDoorTie
import Derived.ProofKit
import Derived.OpenShut
import Derived.ChangeOld
import Derived.ChangeSlices
import Derived.SizedLaws
import Derived.Deep.DeepHandedRow
import Derived.Lib.LaidTab
namespace Go.Proofs.YtohdieddocogkaaDoor.U
open Go.RowKit Go.Maps

theorem cut_mid (x y z : List Nat) : cutAt (x ++ (y ++ z)) x.length y.length = y := by simp [cutAt]
theorem headL_form (f : Nat → Nat) (k : Nat) (hk : k < 3) : ∃ z, headL f = preK f k ++ (putL (f k) 4 ++ z) := by
  unfold headL bodyL
  generalize putL (Nums.sum 0 (preK f 3 ++ List.replicate 108 0)) 4 = s
  obtain rfl | rfl | rfl : k = 0 ∨ k = 1 ∨ k = 2 := by omega
  · exact ⟨putL (f 1) 4 ++ (putL (f 2) 4 ++ (List.replicate 108 0 ++ s)), by simp only [preK, List.append_assoc]⟩
  · exact ⟨putL (f 2) 4 ++ (List.replicate 108 0 ++ s), by simp only [preK, List.append_assoc]⟩
  · exact ⟨List.replicate 108 0 ++ s, by simp only [preK, List.append_assoc]⟩
theorem numAt_head (f : Nat → Nat) (k : Nat) (hk : k < 3) (hf : f k < 4294967296) : numAt (headL f) k = f k := by
  obtain ⟨z, hz⟩ := headL_form f k hk
  have h1 := cut_mid (preK f k) (putL (f k) 4) z
  rw [← hz, preK_length, putL_length] at h1
  unfold numAt
  rw [headL_length, if_pos (by omega), h1, getN_putL]
  exact Nat.mod_eq_of_lt hf
theorem headL_take (f : Nat → Nat) : (headL f).take 8 = signL ++ putL (f 0) 4 := by
  obtain ⟨z, hz⟩ := headL_form f 0 (by decide)
  rw [hz, ← List.append_assoc]
  exact List.take_left' (by simp [preK, signL, putL_length])
theorem headL_ne (f : Nat → Nat) : headL f ≠ Sh.noughts := by
  intro e
  obtain ⟨z, hz⟩ := headL_form f 0 (by decide)
  rw [hz] at e
  have := congrArg (fun l : List Nat => l.getD 0 0) e
  simp [preK, signL, Sh.noughts] at this
theorem okD_head {a b : Nat} (ha : a < 1024) (hb : b < 15) (l : List Nat) (hl : Small l) : okD (headL (numF a b (Nums.sum 0 l))) l 128 = true ∧ numAt (headL (numF a b (Nums.sum 0 l))) 0 = a ∧ numAt (headL (numF a b (Nums.sum 0 l))) 1 = b ∧ numAt (headL (numF a b (Nums.sum 0 l))) 2 = Nums.sum 0 l := by
  have h0 : numAt (headL (numF a b (Nums.sum 0 l))) 0 = a := numAt_head (numF a b (Nums.sum 0 l)) 0 (by decide) (show a < _ by omega)
  have h1 : numAt (headL (numF a b (Nums.sum 0 l))) 1 = b := numAt_head (numF a b (Nums.sum 0 l)) 1 (by decide) (show b < _ by omega)
  have h2 : numAt (headL (numF a b (Nums.sum 0 l))) 2 = Nums.sum 0 l := numAt_head (numF a b (Nums.sum 0 l)) 2 (by decide) (Nums.sum_lt hl (by decide))
  refine ⟨?_, h0, h1, h2⟩
  unfold okD headOf
  rw [h0, h1, decide_eq_true rfl, Bool.and_true]
  exact (mayB_iff (by omega) (by omega)).2 ⟨rfl, by omega, by omega⟩
theorem okD_is {h l : List Nat} (ho : okD h l 128 = true) : h = headL (numF (numAt h 0) (numAt h 1) (Nums.sum 0 l)) ∧ mayB (numAt h 0) (numAt h 1) 128 = true := by
  obtain ⟨h1, h2⟩ := Bool.and_eq_true_iff.1 ho
  exact ⟨of_decide_eq_true h2, h1⟩
theorem dv_open {B : Nat} {W w w' : World} {a p d : Nat} {S : Sh.Sf} {F : Nat → Prop} (h : Sh.At B W w p S F) (hd : DevIs w' w.heap.size p d (-1)) (hb : Below w.heap.size w w') (ha : a = w.heap.size) : Dv B W w' a p d (-1) S F := by
  subst ha
  exact ⟨h.grown hb, hd, fun e => Nat.lt_irrefl _ (h.shelf.ltF e), h.size⟩
theorem lg_open {B : Nat} {W w w' : World} {g a p d n : Nat} {o : Int} {S : Sh.Sf} {F : Nat → Prop} (h : Dv B W w a p d o S F) (hl : LogIs w' w.heap.size a n) (hb : Below w.heap.size w w') (hg : g = w.heap.size) : Lg B W w' g a p d o S F n := by
  subst hg
  exact ⟨h.grown hb, hl, fun e => Nat.lt_irrefl _ (with_lt h _ e), h.on.size⟩
theorem sector_with {B : Nat} {W w w' : World} {a p d b : Nat} {o : Int} {S : Sh.Sf} {F : Nat → Prop} (h : Dv B W w a p d o S F) (ho : w'.ownsRow w.heap.size 5 1 (.slice (some ⟨w.heap.size, 0, none⟩) 128 128) 128 (bts (Sh.secOf b))) : Sh.Beside w' (With F a) (some ⟨w.heap.size, 0, none⟩) (Sh.secOf b) :=
  ⟨Sh.Reads.of_own ho, fun x hx e => by
    injection hx with hx
    subst hx
    exact Nat.lt_irrefl _ (with_lt h _ e)⟩
set_option maxRecDepth 20000 in
theorem open_any (n : Nat) (h1 : 1 ≤ n) (h2 : n ≤ 8) (w : World) :
    Calls Tryd.prog 25 #[.int .i64 n] w fun e w' => ∃ p g a F, e = .returned (.tuple #[.pointer (some ⟨p, 0, none⟩), .pointer (some ⟨g, 0, none⟩), .bool true]) ∧ Lg w.heap.size w w' g a p 0 (-1) (Sh.newSf 1 40) F n := by
  have hbk : blk 40 = 37 := by decide
  go_enter Tryd.func25, Tryd.ntmps25
  go_wp2_with fail
  refine (Sh.new_ok 1 40 w (by decide) (by decide) (by decide) (by decide)).mono ?_
  rintro e w1 ⟨p, F1, rfl, hS, hF, hb⟩
  have a1 : Sh.At w.heap.size w w1 p (Sh.newSf 1 40) F1 := ⟨hS, hF, hb, hb.size⟩
  have HO1 := Lib.hid (open_yes 0 a1.shelf (by decide))
  have A1 := Lib.hid a1
  clear hS hF hb a1
  go_wp2_with fail
  refine HO1.out.mono ?_
  rintro e w2 ⟨rfl, hd, hb⟩
  have D2 := Lib.hid (dv_open (a := w1.heap.size) A1.out hd hb rfl)
  have HO2 := Lib.hid (logOpen_ok n h1 h2 D2.out.dev D2.out.on.shelf (show 2 + 2 * n ≤ blk 40 by omega))
  clear hd hb A1 HO1 hbk
  generalize w1.heap.size = a at *
  go_wp2_with fail
  refine HO2.out.mono ?_
  rintro e w3 ⟨rfl, hl, hb⟩
  have L3 := Lib.hid (lg_open D2.out hl hb rfl)
  clear hl hb D2 HO2
  generalize w2.heap.size = g at *
  go_wp2_with fail
  go_ret3
  exact ⟨p, g, a, F1, rfl, L3.out⟩
end Go.Proofs.YtohdieddocogkaaDoor.U
namespace Go.Proofs.YtohdieddocogkaaDoor.U
open Go.RowKit Go.Maps

theorem blk40 : blk 40 = 37 := by decide
theorem sec9 : Sh.Sec (Sh.secOf 9) := Sh.secOf_sec (by decide)
theorem reads_take {w : World} {B n : Nat} {ad : Addr} {l : List Nat} (h : Reads w B (some ad) n (bts l)) (k : Nat) (hk : k ≤ n) (h0 : 0 < k) : Reads w B (some ad) k (bts (l.take k)) := by
  have hl := h.len
  obtain ⟨ad', e, hb, hc⟩ := h.2 (by omega)
  refine ⟨by rw [bts_length, List.length_take]; omega, fun _ => ⟨ad, rfl, ?_, fun j u hu => ?_⟩⟩
  · injection e with e; rw [e]; exact hb
  · injection e with e
    subst e
    refine hc j u ?_
    rw [bts, List.map_take, List.getElem?_take] at hu
    split at hu
    · exact hu
    · cases hu
theorem refSame_self (s p : Int) (A B : Option Addr) (n c n2 c2 : Nat) (l : List Nat) (w : World) (hl : Small l) (hr : Reads w w.heap.size A n (bts l)) (hq : Reads w w.heap.size B n2 (bts l)) :
    Calls Tryd.prog 15 #[.agg #[.int .i64 s, .int .i64 p, .slice A n c], .agg #[.int .i64 s, .int .i64 p, .slice B n2 c2]] w fun e w' => e = .returned (.bool true) ∧ Below w.heap.size w w' := by
  have h := refSame_any s p s p A B n c n2 c2 l l w hl hl hr hq
  rwa [show decide (s = s ∧ p = p ∧ l = l) = true from by simp] at h
theorem sign8 : Sh.strL (signL ++ putL 3 4) = ⟨#[80, 65, 82, 84, 3, 0, 0, 0]⟩ := by decide
theorem gots_two {S : Sh.Sf} {l : Sh.Bs} (h1 : V S 0 (dataOf 2) = Sh.noughts) (h2 : V S 0 (dataOf 4) = headL (numF 3 1 (Nums.sum 0 l))) (h3 : V S 0 (dataOf 5) = l) (hl : Small l) : (gots S 0 2).length = 1 := by
  have g0 : got S 0 0 = none := by
    unfold got
    rw [if_neg]
    rintro ⟨e, _⟩
    exact e h1
  have g1 : got S 0 1 = some (3, 1, l) := by
    obtain ⟨o1, o2, o3, _⟩ := okD_head (a := 3) (b := 1) (by decide) (by decide) l hl
    unfold got
    show (if V S 0 (dataOf 4) ≠ Sh.noughts ∧ okD (V S 0 (dataOf 4)) (V S 0 (dataOf 5)) 128 = true then some (numAt (V S 0 (dataOf 4)) 0, numAt (V S 0 (dataOf 4)) 1, V S 0 (dataOf 5)) else none) = _
    rw [h2, h3, if_pos ⟨headL_ne _, o1⟩, o2, o3]
  show ((List.range 2).filterMap (got S 0)).length = 1
  simp [List.range_succ, g0, g1]
set_option maxRecDepth 100000 in
set_option maxHeartbeats 8000000 in
theorem lives_true (w : World) (hT : Tabs w) (hF : Flds w) :
    Calls Tryd.prog 14 #[] w fun e w' => e = .returned (.bool true) ∧ Below w.heap.size w w' := by
  go_enter Tryd.func14, Tryd.ntmps14
  go_wp2_with fail
  refine (Sh.sector_any w 9 (by decide)).mono ?_
  rintro e w1 ⟨rfl, ho, hb⟩
  have hl := sec9
  generalize Sh.secOf 9 = l at *
  have rd1 := Reads.of_own ho
  have hb2 : Below w1.heap.size w1 (w1.alloc (.cells #[.int .i64 3, .int .i64 1, .slice (some ⟨w.heap.size, 0, none⟩) 128 128] 24)) := (Below.refl _ _).alloc (Nat.le_refl _) _
  have r2 := heap_alloc_new w1 (.cells #[.int .i64 3, .int .i64 1, .slice (some ⟨w.heap.size, 0, none⟩) 128 128] 24)
  have rd2 := (rd1.below hb2).more hb2.size
  have hB2 := hb.trans (hb2.mono hb.size)
  have hz2 : (w1.alloc (.cells #[.int .i64 3, .int .i64 1, .slice (some ⟨w.heap.size, 0, none⟩) 128 128] 24)).heap.size = w1.heap.size + 1 := by simp
  have HO := Lib.hid (okD_head (a := 3) (b := 1) (by decide) (by decide) l hl.2)
  have HTK := Lib.hid (headL_take (numF 3 1 (Nums.sum 0 l)))
  have HHS := Lib.hid (headL_small (numF 3 1 (Nums.sum 0 l)))
  have HLN := Lib.hid (headL_length (numF 3 1 (Nums.sum 0 l)))
  have HNE := Lib.hid (headL_ne (numF 3 1 (Nums.sum 0 l)))
  have HG2 := Lib.hid (fun (S : Sh.Sf) h1 h2 h3 => gots_two (S := S) (l := l) h1 h2 h3 hl.2)
  have HE := Lib.hid (encode_ok 3 1 (by decide) (by decide) (some ⟨w.heap.size, 0, none⟩) 128 l _ hl.2 rd2 (hT.below hT.size hB2) (hF.below hF.size hB2))
  have HSZ := Lib.hid hb.size
  obtain ⟨k0, k1, k2, _⟩ := cells3_of r2
  clear ho hb rd1 hb2
  go_wp2_with fail
  generalize w1.alloc (.cells #[.int .i64 3, .int .i64 1, .slice (some ⟨w.heap.size, 0, none⟩) 128 128] 24) = W2 at *
  refine HE.out.mono ?_
  generalize hq : headL (numF 3 1 (Nums.sum 0 l)) = hL at *
  have HHQ := Lib.hid hq
  clear hq
  rintro e w3 ⟨v, rfl, gh, rfl, hgh, hrow, b3⟩
  have hz3 : w1.heap.size < w3.heap.size := Nat.lt_of_lt_of_le (by omega) b3.size
  have r3 := (b3.block w1.heap.size (by omega)).trans r2
  have hB3 := hB2.trans (b3.mono (by have := HSZ.out; omega))
  have rd3 := (rd2.below b3).more b3.size
  have hlt3 : gh < w3.heap.size := (Array.getElem?_eq_some_iff.1 hrow).1
  have hr3 : Reads w3 w3.heap.size (some ⟨gh, 0, none⟩) 128 (bts hL) := by
    refine ⟨(bts_length hL).trans HLN.out, fun _ => ⟨_, rfl, hlt3, fun j u hu => ?_⟩⟩
    · rw [add_plain, Nat.zero_add, cell_of_row _ _ j _ _ _ hrow, List.getElem?_toArray]
      exact hu
  have HD := Lib.hid (decode_any (some ⟨gh, 0, none⟩) (some ⟨w.heap.size, 0, none⟩) 128 128 128 128 hL l w3 HHS.out hl.2 hr3 rd3 (by decide) (by decide) (hT.below hT.size hB3) (hF.below hF.size hB3))
  rw [HO.out.1, HO.out.2.1, HO.out.2.2.1] at HD
  clear k0 k1 k2 HE
  obtain ⟨k0, k1, k2, _⟩ := cells3_of r3
  go_wp2_with fail
  refine HD.out.mono ?_
  rintro e w4 (⟨h0, _⟩ | ⟨_, v4, rfl, own4, b4⟩)
  · cases h0
  obtain ⟨A4, c4, rfl, rd4, _, _⟩ := own_shape own4
  have r4 := (b4.block w1.heap.size hz3).trans r3
  have hB4 := hB3.trans (b4.mono (by have := HSZ.out; omega))
  have hB5 := hB4.alloc (by have := hB4.size; omega) (.cells #[.int .i64 3, .int .i64 1, .slice A4 128 c4] 24)
  have hb5 : Below w4.heap.size w4 (w4.alloc (.cells #[.int .i64 3, .int .i64 1, .slice A4 128 c4] 24)) := (Below.refl _ _).alloc (Nat.le_refl _) _
  have hz4 : w1.heap.size < w4.heap.size := Nat.lt_of_lt_of_le hz3 b4.size
  have r5 := (hb5.block w1.heap.size hz4).trans r4
  have t5 := heap_alloc_new w4 (.cells #[.int .i64 3, .int .i64 1, .slice A4 128 c4] 24)
  have rd5 := (((rd3.below b4).more b4.size).below hb5).more hb5.size
  have hr5 := (((hr3.below b4).more b4.size).below hb5).more hb5.size
  have rq5 := (rd4.below hb5).more hb5.size
  have hz5 : (w4.alloc (.cells #[.int .i64 3, .int .i64 1, .slice A4 128 c4] 24)).heap.size = w4.heap.size + 1 := by simp
  have HD2 := Lib.hid (decode_any none none 0 0 0 0 [] [] (w4.alloc (.cells #[.int .i64 3, .int .i64 1, .slice A4 128 c4] 24)) (fun x hx => by cases hx) (fun x hx => by cases hx) Reads.none_ Reads.none_ (by decide) (by decide) (hT.below hT.size hB5) (hF.below hF.size hB5))
  rw [okD_len none 0 [] [] w Reads.none_ (by decide)] at HD2
  clear k0 k1 k2 HD r2 r3 r4 rd2 rd3 hr3 rd4 hB2 hB3 hB4 hb5 own4 b3 b4 hz2 hz3 hrow hlt3 hgh
  go_wp2_with fail
  generalize w4.alloc (.cells #[.int .i64 3, .int .i64 1, .slice A4 128 c4] 24) = W5 at *
  refine HD2.out.mono ?_
  rintro e w6 (⟨_, rfl, b6⟩ | ⟨h0, _⟩)
  rotate_left
  · cases h0
  have r6 := (b6.block w1.heap.size (by omega)).trans r5
  have t6 := (b6.block w4.heap.size (by omega)).trans t5
  have rd6 := (rd5.below b6).more b6.size
  have hr6 := (hr5.below b6).more b6.size
  have rq6 := (rq5.below b6).more b6.size
  have hB6 := hB5.trans (b6.mono hB5.size)
  have hb7 : Below w6.heap.size w6 (w6.alloc (.cells #[.int .i64 0, .int .i64 0, .slice none 0 0] 24)) := (Below.refl _ _).alloc (Nat.le_refl _) _
  have hz6 : w4.heap.size < w6.heap.size := Nat.lt_of_lt_of_le (by omega) b6.size
  have R7 := Lib.hid ((hb7.block w1.heap.size (by omega)).trans r6)
  have T7 := Lib.hid ((hb7.block w4.heap.size hz6).trans t6)
  have RD7 := Lib.hid ((rd6.below hb7).more hb7.size)
  have HR7 := Lib.hid ((hr6.below hb7).more hb7.size)
  have RQ7 := Lib.hid ((rq6.below hb7).more hb7.size)
  have HB7 := Lib.hid (hB6.trans (hb7.mono hB6.size))
  have HZ7 := Lib.hid (show w4.heap.size < (w6.alloc (.cells #[.int .i64 0, .int .i64 0, .slice none 0 0] 24)).heap.size by simp; omega)
  have HZ47 := Lib.hid hz4
  clear HD2 r5 t5 rd5 hr5 rq5 hB5 hz5 r6 t6 rd6 hr6 rq6 hB6 hb7 hz6 b6 hz4
  go_wp2_with fail
  generalize w6.alloc (.cells #[.int .i64 0, .int .i64 0, .slice none 0 0] 24) = W7 at *
  refine (open_any 2 (by decide) (by decide) W7).mono ?_
  rintro e w8 ⟨p, g, a, F, rfl, L8⟩
  have T7' := Lib.hid (hT.below hT.size HB7.out)
  have F7' := Lib.hid (hF.below hF.size HB7.out)
  have HTB := Lib.hid (T7'.out.size)
  have HFB := Lib.hid (F7'.out.size)
  have hbk : blk 40 = 37 := by decide
  obtain ⟨hJ8, hv8⟩ := Jp.new (n := 1) (s := 40) (d := 0) (by decide)
  have hC8 : Calm (Sh.newSf 1 40) 0 := calm_new (by decide)
  have hgood8 : ∀ k, k < 37 → goodAt (Sh.newSf 1 40) 0 k = true := fun k hk => hJ8.good hC8.on k (by show k < blk 40; omega)
  have HGET := Lib.hid (get_calm L8 T7'.out HTB.out F7'.out HFB.out hC8 1 (by decide) (by decide) (by show _ ≤ blk 40; omega) (hgood8 _ (by decide)) (hgood8 _ (by decide)))
  rw [show V (Sh.newSf 1 40) 0 (dataOf (2 + 2 * 1)) = Sh.noughts from hv8 4 (by omega)] at HGET
  have hwl : ∀ k ∈ (Sh.newSf 1 40).disks, k.waits.length ≤ 0 := by
    intro k hk
    have hk : k ∈ List.replicate 1 (Sh.newDk 40) := hk
    rw [(List.mem_replicate.1 hk).2]
    exact Nat.le_refl _
  have HWL := Lib.hid hwl
  have HJ8 := Lib.hid hJ8
  have HV8 := Lib.hid hv8
  have HC8 := Lib.hid hC8
  clear hbk hwl hJ8 hv8 hC8 hgood8 hT hF
  go_wp2_with fail
  refine HGET.out.mono ?_
  rintro e w9 ⟨hgot, S9, hR9, L9, _⟩
  rcases hgot with ⟨_, rfl⟩ | ⟨h0, _⟩ | ⟨h0, _⟩
  rotate_left
  · exact absurd rfl h0
  · exact absurd rfl h0
  have hb10 : Below w9.heap.size w9 (w9.alloc (.cells #[.int .i64 0, .int .i64 0, .slice none 0 0] 24)) := (Below.refl _ _).alloc (Nat.le_refl _) _
  have L10 := L9.grown hb10
  have hbel := L10.dv.on.bel
  have r10 := (hbel.block w1.heap.size (Nat.lt_trans HZ47.out HZ7.out)).trans R7.out
  have rd10 := (RD7.out.below hbel).more hbel.size
  have hA10 : Sh.Beside (w9.alloc (.cells #[.int .i64 0, .int .i64 0, .slice none 0 0] 24)) (With F a) (some ⟨w.heap.size, 0, none⟩) l := ⟨rd10, fun x hx e => by
    injection hx with hx
    subst hx
    have h1 : W7.heap.size ≤ w.heap.size := e.elim (fun e => L10.dv.on.low _ e) (fun e => by have := L10.dv.low; rw [← e] at this; exact this)
    have := HSZ.out; have := HZ47.out; have := HZ7.out; omega⟩
  have hJ9 : Jp S9 0 (-1) _ := hR9.jp HJ8.out
  have hse9 : S9.sectors = 40 := hR9.sectors
  have hPUT := Lib.hid (put_jp L10 T7'.out HTB.out F7'.out HFB.out hJ9 1 (by decide) (by decide) (by rw [hse9]; decide) 3 1 (by decide) (by decide) (some ⟨w.heap.size, 0, none⟩) 128 l hl hA10 (m := 0) (by rw [hR9.disks]; exact HWL.out) (by decide))
  obtain ⟨k0, k1, k2, _⟩ := cells3_of r10
  have HC9 := Lib.hid (hR9.calm HC8.out)
  have HV9 := Lib.hid (show ∀ j, j < 37 → vals (dk S9 0) j = Sh.noughts from fun j hj => by rw [hR9.dk]; exact HV8.out j (by rw [blk40]; exact hj))
  have HSE9 := Lib.hid hse9
  clear hb10 L9 L10 hbel r10 rd10 hA10 hJ9 hse9 hR9 HGET HJ8 HV8 HC8 HWL
  go_wp2_with fail
  refine hPUT.out.mono ?_
  rintro e w11 ⟨z, rfl, o11, S11, hP11, F11, L11, _⟩
  obtain ⟨hz, hC11⟩ := hP11.calm HC9.out
  subst hz
  obtain ⟨hv11, _⟩ := hP11.now hC11.on
  have hse11 : S11.sectors = 40 := hP11.sectors.trans HSE9.out
  have hbk : blk S11.sectors = 37 := by rw [hse11]; decide
  have hgood11 : ∀ k, k < blk S11.sectors → goodAt S11 0 k = true := fun k hk => hP11.jp.good hC11.on k hk
  have e4 : V S11 0 (dataOf 4) = headL (numF 3 1 (Nums.sum 0 l)) := by rw [← vals_V, hv11]; rfl
  have e5 : V S11 0 (dataOf 5) = l := by rw [← vals_V, hv11]; rfl
  have e2 : V S11 0 (dataOf 2) = Sh.noughts := by
    rw [← vals_V, hv11]
    exact HV9.out 2 (by decide)
  have HGET := Lib.hid (get_calm L11 T7'.out HTB.out F7'.out HFB.out hC11 1 (by decide) (by decide) (by omega) (hgood11 _ (by omega)) (hgood11 _ (by omega)))
  rw [show V S11 0 (dataOf (2 + 2 * 1)) = _ from e4, show V S11 0 (dataOf (3 + 2 * 1)) = _ from e5] at HGET
  have HGO := Lib.hid hgood11
  have HC11 := Lib.hid hC11
  have HBK := Lib.hid hbk
  have HE2 := Lib.hid e2
  have HE4 := Lib.hid e4
  have HE5 := Lib.hid e5
  clear k0 k1 k2 hPUT hv11 hse11 hbk hgood11 e4 e5 e2 hC11 L11 HV9 HSE9 HC9 hP11
  go_wp2_with fail
  refine HGET.out.mono ?_
  rintro e w12 ⟨hgot, S12, hR12, L12, _⟩
  rcases hgot with ⟨h0, _⟩ | ⟨_, h0, _⟩ | ⟨_, _, A12, c12, rfl, own12⟩
  · exact absurd h0 (headL_ne _)
  · rw [(okD_head (a := 3) (b := 1) (by decide) (by decide) l hl.2).1] at h0; cases h0
  rw [(okD_head (a := 3) (b := 1) (by decide) (by decide) l hl.2).2.1, (okD_head (a := 3) (b := 1) (by decide) (by decide) l hl.2).2.2.1]
  have hb13 : Below w12.heap.size w12 (w12.alloc (.cells #[.int .i64 3, .int .i64 1, .slice A12 128 c12] 24)) := (Below.refl _ _).alloc (Nat.le_refl _) _
  have L13 := L12.grown hb13
  have hbel := L13.dv.on.bel
  have hs7 := hbel.size
  have r13 := (hbel.block w1.heap.size (Nat.lt_trans HZ47.out HZ7.out)).trans R7.out
  have t13 := (hbel.block w4.heap.size HZ7.out).trans T7.out
  have v13 := heap_alloc_new w12 (.cells #[.int .i64 3, .int .i64 1, .slice A12 128 c12] 24)
  have rd13 := (RD7.out.below hbel).more hbel.size
  have hr13 := (HR7.out.below hbel).more hbel.size
  have rq13 := (RQ7.out.below hbel).more hbel.size
  have rv13 := ((Reads.of_own own12).below hb13).more hb13.size
  have hz13 : w12.heap.size < (w12.alloc (.cells #[.int .i64 3, .int .i64 1, .slice A12 128 c12] 24)).heap.size := by simp
  have hcv := Sh.run_str 128 (reads_take hr13 8 (by decide) (by decide))
  rw [HTK.out, show numF 3 1 (Nums.sum 0 l) 0 = 3 from rfl, sign8] at hcv
  have HS1 := Lib.hid (refSame_self 3 1 (some ⟨w.heap.size, 0, none⟩) A4 128 128 128 c4 l _ hl.2 rd13 rq13)
  obtain ⟨k0, k1, k2, _⟩ := cells3_of r13
  obtain ⟨i0, i1, i2, _⟩ := cells3_of t13
  clear own12 hb13 L12
  have HB13 := Lib.hid (HB7.out.trans (hbel.mono HB7.out.size))
  clear hbel hs7 HGET hr13
  go_wp2_with fail
  generalize w12.alloc (.cells #[.int .i64 3, .int .i64 1, .slice A12 128 c12] 24) = W13 at *
  refine HS1.out.mono ?_
  rintro e w14 ⟨rfl, b14⟩
  have r14 := (b14.block w1.heap.size (by have := HZ47.out; have := HZ7.out; have := L13.dv.on.size; omega)).trans r13
  have v14 := (b14.block w12.heap.size hz13).trans v13
  have L14 := L13.grown b14
  have HS2 := Lib.hid (refSame_self 3 1 (some ⟨w.heap.size, 0, none⟩) A12 128 128 128 c12 l w14 hl.2 ((rd13.below b14).more b14.size) ((rv13.below b14).more b14.size))
  have HB14 := Lib.hid (HB13.out.trans (b14.mono HB13.out.size))
  clear k0 k1 k2 i0 i1 i2 r13 t13 v13 rd13 rq13 rv13 L13 b14 HS1 hz13
  obtain ⟨k0, k1, k2, _⟩ := cells3_of r14
  obtain ⟨i0, i1, i2, _⟩ := cells3_of v14
  go_wp2_with fail
  refine HS2.out.mono ?_
  rintro e w15 ⟨rfl, b15⟩
  have HALL := Lib.hid (all_calm (L14.grown b15) T7'.out HTB.out F7'.out HFB.out (hR12.calm HC11.out) (by decide) (by rw [hR12.sectors]; have := HBK.out; omega) (fun k hk => by rw [hR12.sectors] at hk; have := HGO.out k hk; unfold goodAt V at *; rw [hR12.disks]; exact this))
  have HB15 := Lib.hid (HB14.out.trans (b15.mono HB14.out.size))
  have hv : ∀ j, V S12 0 j = V S11 0 j := fun j => by unfold V; rw [hR12.disks]
  have HLEN := Lib.hid (HG2.out S12 ((hv _).trans HE2.out) ((hv _).trans (HE4.out.trans HHQ.out)) ((hv _).trans HE5.out))
  clear k0 k1 k2 i0 i1 i2 r14 v14 L14 b15 HS2 hv
  go_wp2_with fail
  refine HALL.out.mono ?_
  rintro e w16 ⟨⟨v, es, rfl, hes, hE⟩, S16, _, L16, _⟩
  have hlen : es.length = 1 := by rw [← List.length_map (f := En.rec3), hes]; exact HLEN.out
  obtain ⟨A16, c16, hv⟩ : ∃ A c, v = .slice A 1 c := by
    have h1 := hE.own
    rw [hlen] at h1
    rcases h1.2 with ⟨_, h0⟩ | ⟨g', cap, cur, hv, _⟩
    · cases h0
    · exact ⟨_, _, hv⟩
  subst hv
  have HB16 := Lib.hid (HB7.out.trans (L16.dv.on.bel.mono HB7.out.size))
  clear hes hE L16 HALL
  go_wp2_with fail
  go_ret
  exact ⟨rfl, HB16.out⟩
end Go.Proofs.YtohdieddocogkaaDoor.U
namespace Go.Proofs.YtohdieddocogkaaDoor.U
open Go.ChangeShapes Go.WideShapes Go.ChangeAt Go.RowKit

theorem own : ownKnob Tryd.prog.godebug = none := by kernel_rfl
theorem laidOut : laidOutB Tryd.prog = true := by kernel_rfl
theorem gLow : Tryd.prog.globalNamed "ashlar/octets.lowRests" = some 1 := by kernel_rfl
theorem gHigh : Tryd.prog.globalNamed "ashlar/octets.highRests" = some 2 := by kernel_rfl
theorem gFld : Tryd.prog.globalNamed "ashlar/ppl.fields" = some 0 := by kernel_rfl
theorem gLowType : (Tryd.prog.globals[1]?).map (·.type) = some 128 := by kernel_rfl
theorem gHighType : (Tryd.prog.globals[2]?).map (·.type) = some 128 := by kernel_rfl
theorem gFldType : (Tryd.prog.globals[0]?).map (·.type) = some 109 := by kernel_rfl
theorem cells16 : Tryd.prog.cellsOf 128 = 16 := by kernel_rfl
theorem cellsU32 : Tryd.prog.cellsOf 60 = 1 := by kernel_rfl
theorem cellsInt : Tryd.prog.cellsOf 3 = 1 := by kernel_rfl
theorem cellsU8 : Tryd.prog.cellsOf 5 = 1 := by kernel_rfl
theorem cellsB : Tryd.prog.cellsOf 22 = 1 := by kernel_rfl
theorem cellsRec : Tryd.prog.cellsOf 24 = 3 := by kernel_rfl
theorem cellsFld : Tryd.prog.cellsOf 108 = 2 := by kernel_rfl
theorem cellsFlds : Tryd.prog.cellsOf 109 = 6 := by kernel_rfl
theorem bytesU8 : Tryd.prog.bytesOf 5 = 1 := by kernel_rfl

abbrev laidBoth : List (String × DataW Unit) := [("ashlar/octets.lowRests", Rows.laid_ashlar_octets_lowRests), ("ashlar/octets.highRests", Rows.laid_ashlar_octets_highRests), ("ashlar/ppl.fields", Rows.laid_ashlar_ppl_fields)]
/-- All tables. -/
structure All (w : World) : Prop where
  tabs : Tabs w
  fld : Flds w
theorem All.over {w w' : World} (h : All w) (hb : Below w.heap.size w w') : All w' := ⟨h.tabs.below h.tabs.size hb, h.fld.below h.fld.size hb⟩
section
variable {H : Type} {enc : TypeId × Value → H} {w : World} {base : Nat} {sp : Nat → Bool} {held : Bool}
theorem lit_of {fuel : Nat} {t : TypeId} {k : IntKind} {v : Value} {z : Int} {y : DataW H × List MemPlace} (ht : Tryd.prog.underlying t = some (.int k)) (h : DataW.trod enc Tryd.prog w base sp held fuel t [v] = some y) (hy : y.1 = .lit (.int k z)) : v = .int k z := by
  obtain ⟨z', hc, hd, _⟩ := DataW.trod_int ht h
  simp only [List.cons.injEq, and_true] at hc
  subst hc
  rw [hd] at hy
  simp only [DataW.lit.injEq, Lit.int.injEq, true_and] at hy
  rw [hy]
set_option maxRecDepth 20000 in
theorem fld_val {fuel : Nat} {cs : List Value} {y : DataW H × List MemPlace} {x z : Int} (hl : cs.length = 2) (h : DataW.trod enc Tryd.prog w base sp held fuel 108 cs = some y) (hy : y.1 = .agg [.lit (.int .i64 x), .lit (.int .u64 z)]) : cs = [.int .i64 x, .int .u64 z] := by
  obtain ⟨xs, k, rfl, rfl, _, hxs, hf⟩ := DataW.trod_struct Tryd.underlying108 h
  match cs, hl with
  | [v0, v1], _ =>
    have hs : xs.length = 2 := hxs
    have f0 := hf 0 _ rfl
    have f1 := hf 1 _ rfl
    match xs, hs with
    | [z0, z1], _ =>
      simp only [List.map_cons, List.map_nil, DataW.agg.injEq, List.cons.injEq, and_true] at hy
      have e0 := lit_of (v := v0) Tryd.underlying3 (show DataW.trod enc Tryd.prog w base sp held k 3 [v0] = some z0 from f0) hy.1
      have e1 := lit_of (v := v1) Tryd.underlying71 (show DataW.trod enc Tryd.prog w base sp held k 71 [v1] = some z1 from f1) hy.2
      rw [e0, e1]
set_option maxRecDepth 20000 in
theorem flds_val {fuel : Nat} {cs : List Value} {p : List MemPlace} (h : DataW.trod enc Tryd.prog w base sp held fuel 109 cs = some (Rows.laid_ashlar_ppl_fields, p)) :
    cs = [.int .i64 4, .int .u64 1024, .int .i64 8, .int .u64 15, .int .i64 12, .int .u64 4294967296] := by
  cases fuel with
  | zero => simp [DataW.trod] at h
  | succ fuel =>
    simp only [DataW.trod, Tryd.underlying109, cellsFld, cellsFlds] at h
    split at h
    · rename_i hl
      obtain ⟨xs, hm, hx⟩ := Option.map_eq_some_iff.1 h
      have hxs : xs.map (·.1) = [.agg [.lit (.int .i64 4), .lit (.int .u64 1024)], .agg [.lit (.int .i64 8), .lit (.int .u64 15)], .agg [.lit (.int .i64 12), .lit (.int .u64 4294967296)]] := by
        have := congrArg Prod.fst hx
        simpa [Rows.laid_ashlar_ppl_fields] using this
      have hl6 : cs.length = 6 := by simpa using hl
      have hxl : xs.length = 3 := by simpa using Lib.mapM_length hm
      have key : ∀ i x z, i < 3 → (xs.map (·.1))[i]? = some (.agg [.lit (.int .i64 x), .lit (.int .u64 z)]) → (cs.drop (i * 2)).take 2 = [.int .i64 x, .int .u64 z] := by
        intro i x z hi he
        obtain ⟨y, hy, hf⟩ := Lib.mapM_at hm i i (by simp [hi])
        refine fld_val (by simp; omega) hf ?_
        rw [List.getElem?_map, hy] at he
        simpa using he
      have k0 := key 0 4 1024 (by decide) (by rw [hxs]; rfl)
      have k1 := key 1 8 15 (by decide) (by rw [hxs]; rfl)
      have k2 := key 2 12 4294967296 (by decide) (by rw [hxs]; rfl)
      match cs, hl6, k0, k1, k2 with
      | [v0, v1, v2, v3, v4, v5], _, k0, k1, k2 =>
        have k0 : [v0, v1] = _ := k0
        have k1 : [v2, v3] = _ := k1
        have k2 : [v4, v5] = _ := k2
        simp only [List.cons.injEq, and_true] at k0 k1 k2
        rw [k0.1, k0.2, k1.1, k1.2, k2.1, k2.2]
    · cases h
end
/-- WHAT THE ROW's LIST GIVES: the tables' cells. -/
theorem tabs_of_laid {W : World} (h : laidMetH Tryd.prog laidBoth W) : All W := by
  rw [MakeChecks.laidMetH_plain _ _ _ (by kernel_rfl)] at h
  obtain ⟨ps, ⟨g0, t0, cs0, f0, p0, q0, hg0, ht0, hv0, hd0, ⟨g1, t1, cs1, f1, p1, q1, hg1, ht1, hv1, hd1, ⟨g2, t2, cs2, f2, p2, q2, hg2, ht2, hv2, hd2, _, _⟩, _⟩, _⟩, _, _⟩ := h
  obtain rfl := Option.some.inj (gLow.symm.trans hg0)
  obtain rfl := Option.some.inj (gHigh.symm.trans hg1)
  obtain rfl := Option.some.inj (gFld.symm.trans hg2)
  obtain rfl := Option.some.inj (gLowType.symm.trans ht0)
  obtain rfl := Option.some.inj (gHighType.symm.trans ht1)
  obtain rfl := Option.some.inj (gFldType.symm.trans ht2)
  have e0 : cs0.toList = (Nums.lowT.map fun (x : Nat) => (x : Int)).map fun z => Value.int .u32 z := Lib.cells_of_tab Tryd.underlying128 Tryd.underlying60 cellsU32 cells16 hd0
  have e1 : cs1.toList = (Nums.highT.map fun (x : Nat) => (x : Int)).map fun z => Value.int .u32 z := Lib.cells_of_tab Tryd.underlying128 Tryd.underlying60 cellsU32 cells16 hd1
  have e2 := flds_val hd2
  have low : ∀ i : Fin 16, ((Nums.lowT.map fun (x : Nat) => (x : Int)).map fun z => Value.int .u32 z)[i.val]? = some (.int .u32 ((Nums.low i.val : Nat) : Int)) := by
    intro i
    have : i.val < Nums.lowT.length := i.isLt
    simp [Nums.low, List.getD, List.getElem?_eq_getElem this]
  have high : ∀ i : Fin 16, ((Nums.highT.map fun (x : Nat) => (x : Int)).map fun z => Value.int .u32 z)[i.val]? = some (.int .u32 ((Nums.high i.val : Nat) : Int)) := by
    intro i
    have : i.val < Nums.highT.length := i.isLt
    simp [Nums.high, List.getD, List.getElem?_eq_getElem this]
  refine ⟨⟨fun i hi => ?_, fun i hi => ?_⟩, ⟨fun i hi => ?_, fun i hi => ?_⟩⟩
  · have h1 := World.var?_cell hg0 hv0 i
    have h2 := low ⟨i, hi⟩
    rw [← e0] at h2
    rw [h1]
    simpa using h2
  · have h1 := World.var?_cell hg1 hv1 i
    have h2 := high ⟨i, hi⟩
    rw [← e1] at h2
    rw [h1]
    simpa using h2
  · rw [World.var?_cell hg2 hv2 (i * 2)]
    have h2 : cs2.toList[i * 2]? = some (.int .i64 ((4 + i * 4 : Nat) : Int)) := by
      rw [e2]
      obtain rfl | rfl | rfl : i = 0 ∨ i = 1 ∨ i = 2 := by omega
      all_goals rfl
    simpa using h2
  · rw [World.var?_cell hg2 hv2 (i * 2 + 1)]
    have h2 : cs2.toList[i * 2 + 1]? = some (.int .u64 ((cntL.getD i 0 : Nat) : Int)) := by
      rw [e2]
      obtain rfl | rfl | rfl : i = 0 ∨ i = 1 ∨ i = 2 := by omega
      all_goals rfl
    simpa using h2
/-- A SLICE OF BYTES THAT CAME IN. -/
theorem bytes_in {H : Type} {enc : TypeId × Value → H} {W : World} {fuel n c : Nat} {A : Option Addr} {x : DataW H × List MemPlace} (h : DataW.trod enc Tryd.prog W 0 (fun _ => true) true fuel 22 [.slice A n c] = some x) :
    ∃ l, Small l ∧ Reads W W.heap.size A n (bts l) ∧ n ≤ c ∧ c ≤ maxLen ∧ ((x.1 = .nil ∧ c = 0) ∨ ∃ es sp, x.1 = .slice es sp ∧ es.length + sp.length = c) := by
  rcases open_ints Tryd.underlying22 Tryd.underlying5 cellsU8 h with ⟨hcs, rfl⟩ | ⟨a, len, cap, zs, hcs, _, hl, hm, hz, rfl, hcell, hwz⟩
  · simp only [List.cons.injEq, Value.slice.injEq, and_true] at hcs
    obtain ⟨rfl, rfl, rfl⟩ := hcs
    exact ⟨[], fun _ hx => by simp at hx, Reads.none_, Nat.le_refl _, by unfold maxLen; omega, .inl ⟨rfl, rfl⟩⟩
  · simp only [List.cons.injEq, Value.slice.injEq, and_true] at hcs
    obtain ⟨rfl, rfl, rfl⟩ := hcs
    simp only [if_true] at hz
    have hb : ∀ z ∈ zs, 0 ≤ z ∧ z < 256 := fun z hzm => by
      have := hwz z hzm
      simp [Lit.wf, IntKind.min, IntKind.max, IntKind.bits, IntKind.signed] at this
      omega
    have hlen : ((zs.take n).map Int.toNat).length = n := by simp; omega
    refine ⟨(zs.take n).map Int.toNat, ?_, ⟨by rw [bts_length, hlen], fun hn => ⟨a, rfl, ?_, ?_⟩⟩, hl, hm, .inr ⟨_, _, rfl, by simp [lits]; omega⟩⟩
    · intro y hy
      simp only [List.mem_map] at hy
      obtain ⟨z, hzm, rfl⟩ := hy
      have := hb z (List.mem_of_mem_take hzm)
      omega
    · have := World.block_lt_of_cell? W _ (hcell 0 (by omega))
      rwa [block_of_add] at this
    · intro j u hu
      have hj : j < n := by
        rcases Nat.lt_or_ge j n with h | h
        · exact h
        · rw [List.getElem?_eq_none (by rw [bts_length, hlen]; exact h)] at hu; cases hu
      have hjz : j < zs.length := by omega
      have h1 := hcell j hjz
      rw [h1]
      rw [bts_get _ _ (by rw [hlen]; exact hj)] at hu
      rw [← hu]
      have h2 := hb zs[j] (List.getElem_mem hjz)
      simp [List.getD, List.getElem?_eq_getElem hjz, hj]
      omega


/-- A WORLD FOR THE WITNESS: the settled one, the tables holding what their initialisers lay. -/
def withCells (l : List Nat) : Obj → Obj
  | .cells _ t frozen => .cells (l.map fun (x : Nat) => Value.int .u32 (x : Int)).toArray t frozen
  | o => o
def withFlds : Obj → Obj
  | .cells _ t frozen => .cells #[.int .i64 4, .int .u64 1024, .int .i64 8, .int .u64 15, .int .i64 12, .int .u64 4294967296] t frozen
  | o => o
noncomputable def laidWorld (os : Os) : World :=
  { World.holding Tryd.prog os ⟨#[], #[], []⟩ with heap := (((World.holding Tryd.prog os ⟨#[], #[], []⟩).heap.modify 1 (withCells Nums.lowT)).modify 2 (withCells Nums.highT)).modify 0 withFlds }
/-! ### records that came in -/
structure RecV where
  s : Int
  q : Int
  A : Option Addr
  n : Nat
  c : Nat
  l : List Nat
def RecV.val (z : RecV) : Value := .agg #[.int .i64 z.s, .int .i64 z.q, .slice z.A z.n z.c]
structure RecOk (W : World) (z : RecV) : Prop where
  bs : -9223372036854775808 ≤ z.s ∧ z.s ≤ 9223372036854775807
  bq : -9223372036854775808 ≤ z.q ∧ z.q ≤ 9223372036854775807
  sm : Small z.l
  rd : Reads W W.heap.size z.A z.n (bts z.l)
  le : z.n ≤ maxLen
section
variable {H : Type} {enc : TypeId × Value → H} {W : World}
theorem int_of {m : Nat} {v : Value} {y : DataW H × List MemPlace} (h : DataW.trod enc Tryd.prog W 0 (fun _ => true) true m 3 [v] = some y) : ∃ z : Int, v = .int .i64 z ∧ -9223372036854775808 ≤ z ∧ z ≤ 9223372036854775807 := by
  cases m with
  | zero => simp [DataW.trod] at h
  | succ m =>
    simp only [DataW.trod, Tryd.underlying3] at h
    cases v <;> simp at h
    rename_i k b
    obtain ⟨⟨rfl, hw⟩, _⟩ := h
    exact ⟨b, rfl, bounds_i64 hw⟩
set_option maxRecDepth 20000 in
theorem rec_val {m : Nat} {cs : List Value} {y : DataW H × List MemPlace} (hl : cs.length = 3) (h : DataW.trod enc Tryd.prog W 0 (fun _ => true) true m 24 cs = some y) :
    ∃ z : RecV, cs = [.int .i64 z.s, .int .i64 z.q, .slice z.A z.n z.c] ∧ RecOk W z ∧ ((∀ k ∈ y.1.weights Tryd.prog 24, k ≤ reachBytes) → z.n ≤ 140737488351232) := by
  obtain ⟨xs, k, rfl, rfl, _, hxs, hf⟩ := DataW.trod_struct Tryd.underlying24 h
  match cs, hl with
  | [v0, v1, v2], _ =>
    have hs : xs.length = 3 := hxs
    have f0 := hf 0 _ rfl
    have f1 := hf 1 _ rfl
    have f2 := hf 2 _ rfl
    match xs, hs with
    | [z0, z1, z2], _ =>
      obtain ⟨s, rfl, a0⟩ := int_of (v := v0) (show DataW.trod enc Tryd.prog W 0 (fun _ => true) true k 3 [v0] = some z0 from f0)
      obtain ⟨q, rfl, a1⟩ := int_of (v := v1) (show DataW.trod enc Tryd.prog W 0 (fun _ => true) true k 3 [v1] = some z1 from f1)
      have g2 := show DataW.trod enc Tryd.prog W 0 (fun _ => true) true k 22 [v2] = some z2 from f2
      obtain ⟨A, n, c, rfl⟩ : ∃ A n c, v2 = .slice A n c := by
        rcases DataW.trod_slice Tryd.underlying22 g2 with ⟨h0, _⟩ | ⟨a, len, cap, _, _, _, _, h0, _⟩
        · simp only [List.cons.injEq, and_true] at h0; exact ⟨_, _, _, h0⟩
        · simp only [List.cons.injEq, and_true] at h0; exact ⟨_, _, _, h0⟩
      obtain ⟨l, sl, rd, nc, cm, dd⟩ := bytes_in g2
      refine ⟨⟨s, q, A, n, c, l⟩, rfl, ⟨a0, a1, sl, rd, Nat.le_trans nc cm⟩, fun hw => ?_⟩
      rcases dd with ⟨_, hc0⟩ | ⟨es, sp, hd, hc0⟩
      · have : n = 0 := by omega
        show n ≤ _
        omega
      · have h1 := hw ((es.length + sp.length) * 1) (by
          simp only [DataW.weights, Tryd.underlying24, List.map_cons, List.map_nil]
          simp [DataW.weightsEach, hd, DataW.weights, Tryd.underlying22, bytesU8])
        simp only [reachBytes] at h1
        show n ≤ _
        omega
set_option maxRecDepth 20000 in
theorem rec_came {base : Nat} {v : Value} {d : DataW H} {ps : List MemPlace} (hv : Value.okWide Tryd.prog W .any base 24 v) (h : DataW.Trod enc Tryd.prog W 0 (fun _ => true) true 24 v d ps) (hw : ∀ k ∈ d.weights Tryd.prog 24, k ≤ reachBytes) :
    ∃ z : RecV, v = z.val ∧ RecOk W z ∧ z.n ≤ 140737488351232 := by
  unfold Value.okWide at hv
  rw [Tryd.underlying24] at hv
  obtain ⟨cs, rfl, hs, _⟩ := hv
  rw [cellsRec] at hs
  obtain ⟨fuel, hf⟩ := h
  obtain ⟨z, hz, hb, hn⟩ := rec_val (m := fuel) (cs := cs.toList) (by simpa using hs) (by simpa [Value.cells] using hf)
  refine ⟨z, ?_, hb, hn hw⟩
  unfold RecV.val
  congr 1
  apply Array.ext'
  simpa using hz
end
end Go.Proofs.YtohdieddocogkaaDoor.U
namespace Go.Proofs.YtohdieddocogkaaDoor.U
open Go.RowKit Go.Maps

theorem append_copy {ops : Array Oper} {rest : List Oper} {o : Oper} {a : Act} {Q : Exit → Act → World → Prop} {w : World} (hgd : o.guard = none) (s x : Operand)
    (ho : o.op = .call { callee := .builtin .append, args := #[s, x], argTypes := #[22, 22] }) {A : Option Addr} {n c : Nat} {l : List Nat}
    (hs : a.eval s = .slice (some ⟨w.heap.size, 0, none⟩) 0 0) (hx : a.eval x = .slice A n c) (hr : Reads w w.heap.size A n (bts l)) (hn : n ≤ 140737488351232)
    (h : ∀ v w', w'.ownsRow w.heap.size 5 1 v n (bts l) → Below w.heap.size w w' → wpList Tryd.prog ops Q rest (a.put o.dst v) w') : wpList Tryd.prog ops Q (o :: rest) a (w.alloc (.cells #[] 5)) := by
  obtain ⟨i0, hi, hz0, hz1, hz2⟩ := info_parts info_u8
  have hown := World.ownsRow_made w (base := w.heap.size) (e := 5) (size := 1) #[] 0 (Nat.le_refl _) (Nat.zero_le _) rfl
  have hb : Below w.heap.size w (w.alloc (.cells #[] 5)) := (Below.refl _ _).alloc (Nat.le_refl _) _
  refine appendAll _ hgd s x 22 ho w.heap.size 5 i0 (.int .u8 0) 1 Tryd.underlying22 hi hz0 hz1 hz2 rfl _ 0 [] hs hown _ A n c (bts l) hx (hr.alloc (Nat.le_refl _) _) (bts_one _) (by unfold maxLen; omega) (by omega) w hb hb.size ?_
  intro v w' h1 _ h2
  refine h v w' ?_ h2
  simpa using h1
/-- The shape of a row of bytes of one's own, that is not empty. -/
theorem own_row {w : World} {base n : Nat} {v : Value} {l : List Nat} (h : w.ownsRow base 5 1 v n (bts l)) (h0 : 0 < n) : ∃ g c, v = .slice (some ⟨g, 0, none⟩) n c ∧ base ≤ g ∧ g < w.heap.size := by
  rcases h.2 with ⟨_, h1⟩ | ⟨g, cap, cur, rfl, hg, hh, _⟩
  · omega
  · exact ⟨g, cap, rfl, hg, (Array.getElem?_eq_some_iff.1 hh).1⟩
theorem only_set (w : World) (g i : Nat) (v : Value) : Sh.Only (fun b => b = g) w (w.setCell ⟨g, i, none⟩ v) := (Sh.Only.refl (fun b => b = g) w).setCell (p := ⟨g, i, none⟩) (.inl rfl) v
theorem nat_of {s : Int} (h : 0 ≤ s) : ∃ a : Nat, s = (a : Int) := ⟨s.toNat, by omega⟩
end Go.Proofs.YtohdieddocogkaaDoor.U
