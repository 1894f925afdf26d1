/-
  PplSure is true for every record, calls, crash: what was put and flushed is there behind a crash, whatever else was asked of the other slots.
  Conditions: none of its own; the tables hold what the program's text lays (the card ties that).
-/
import Derived.Test.YtohdieddocogkaaDoorQp
namespace Go.Proofs.YtohdieddocogkaaDoor.U.pplSure
open Go.ChangeShapes Go.WideShapes Go.ChangeAt Go.RowKit Go.Maps

/-- The third slot's head and part. -/
def Two (h l : Sh.Bs) : Cs := fun c => c 6 = h ∧ c 7 = l
theorem Two.upd {h l : Sh.Bs} {v : Nat → Sh.Bs} {j : Nat} (hv : Two h l v) (hj : j ≠ 6 ∧ j ≠ 7) (b : Sh.Bs) : Two h l (upd v j b) :=
  ⟨(if_neg (fun e => hj.1 e.symm)).trans hv.1, (if_neg (fun e => hj.2 e.symm)).trans hv.2⟩
def Bag (W wr : World) (g a p : Nat) (P : Cs) (k : Nat) : Prop := ∃ o S F, Lg W.heap.size W wr g a p 0 o S F 3 ∧ Jp S 0 o P ∧ S.sectors = 40 ∧ ∀ x ∈ S.disks, x.waits.length ≤ 4 + 4 * k
section
variable {W wr : World} {g a p k : Nat} {P : Cs} {h l : Sh.Bs}
theorem Bag.bel (hB : Bag W wr g a p P k) : Below W.heap.size W wr := by obtain ⟨_, _, _, L, _⟩ := hB; exact L.dv.on.bel
theorem Bag.next (hB : Bag W wr g a p P k) : Bag W wr g a p P (k + 1) := by
  obtain ⟨o, S, F, h1, h2, h3, h4⟩ := hB
  exact ⟨o, S, F, h1, h2, h3, fun x hx => by have := h4 x hx; omega⟩
theorem Bag.grown {w' : World} (hB : Bag W wr g a p P k) (hb : Below wr.heap.size wr w') : Bag W w' g a p P k := by
  obtain ⟨o, S, F, h1, h2⟩ := hB
  exact ⟨o, S, F, h1.grown hb, h2⟩
theorem Bag.put (hB : Bag W wr g a p (Two h l) k) (hA : All W) (hk : k ≤ 300) (slot : Int) (hsl : I64 slot) (hs : slot ≠ 2) (z : RecV) (hz : RecOk W z) :
    Calls Tryd.prog 20 #[.pointer (some ⟨g, 0, none⟩), .int .i64 slot, z.val] wr fun e w' => (∃ y : Int, e = .returned (.int .i64 y)) ∧ Bag W w' g a p (Two h l) (k + 1) := by
  obtain ⟨o, S, F, h1, h2, h3, h4⟩ := hB
  refine (put_any (P' := Two h l) h1 hA h2 slot hsl z hz (by decide) (by rw [h3, blk40]; decide) h4 (by omega) (fun _ e => e) ?_).mono ?_
  · intro j x t e hj _ _ _ _ _ v hv
    have hj2 : j ≠ 2 := fun e2 => hs (by omega)
    have q1 := hv.upd (j := 3 + 2 * j) ⟨by omega, by omega⟩ z.l
    exact ⟨q1, q1.upd ⟨by omega, by omega⟩ _⟩
  · rintro e w' ⟨hy, o', S', ⟨F', L', _⟩, j', s', l'⟩
    exact ⟨hy, o', S', F', L', j', s'.trans h3, fun x hx => by have := l' x hx; omega⟩
theorem Bag.clear (hB : Bag W wr g a p (Two h l) k) (hA : All W) (hk : k ≤ 300) (slot : Int) (hsl : I64 slot) (hs : slot ≠ 2) :
    Calls Tryd.prog 21 #[.pointer (some ⟨g, 0, none⟩), .int .i64 slot] wr fun e w' => (∃ y : Int, e = .returned (.int .i64 y)) ∧ Bag W w' g a p (Two h l) (k + 1) := by
  obtain ⟨o, S, F, h1, h2, h3, h4⟩ := hB
  refine (clear_any (P' := Two h l) h1 hA h2 slot hsl (by decide) (by rw [h3, blk40]; decide) h4 (by omega) (fun _ e => e) ?_).mono ?_
  · intro j e hj v hv
    have hj2 : j ≠ 2 := fun e2 => hs (by omega)
    exact hv.upd ⟨by omega, by omega⟩ _
  · rintro e w' ⟨hy, o', S', ⟨F', L', _⟩, j', s', l'⟩
    exact ⟨hy, o', S', F', L', j', s'.trans h3, fun x hx => by have := l' x hx; omega⟩
end
set_option maxRecDepth 20000 in
theorem walk_no {w : World} (s q : Int) (A : Option Addr) (n c : Nat) (l : List Nat) (hs : -9223372036854775808 ≤ s ∧ s ≤ 9223372036854775807) (hq : -9223372036854775808 ≤ q ∧ q ≤ 9223372036854775807) (hl : Small l) (hr : Reads w w.heap.size A n (bts l)) (hn : n ≤ maxLen)
    (B0 : Option Addr) (nn c0 : Nat) (stop : Int) (C : Option Addr) (bn bc : Nat) (hA : All w) (hm : mayB s q n = false) :
    Calls Tryd.prog 8 #[.agg #[.int .i64 s, .int .i64 q, .slice A n c], .slice B0 nn c0, .int .i64 stop, .slice C bn bc] w fun e w' => e = .returned (.bool true) ∧ Below w.heap.size w w' := by
  have hb0 : Below w.heap.size w (w.alloc (.cells #[.int .i64 s, .int .i64 q, .slice A n c] 24)) := (Below.refl _ _).alloc (Nat.le_refl _) _
  have r0 := heap_alloc_new w (.cells #[.int .i64 s, .int .i64 q, .slice A n c] 24)
  have z0 : w.heap.size < (w.alloc (.cells #[.int .i64 s, .int .i64 q, .slice A n c] 24)).heap.size := by simp
  have A0 := hA.over hb0
  have rd0 := (hr.below hb0).more hb0.size
  have QM := Lib.hid (fun w' => refMay_any s q A n c w' hs hq hn)
  rw [hm] at QM
  clear hr
  go_enter Tryd.func8, Tryd.ntmps8
  go_wp2_with fail
  generalize w.alloc (.cells #[.int .i64 s, .int .i64 q, .slice A n c] 24) = W0 at *
  refine (open_any 3 (by decide) (by decide) W0).mono ?_
  rintro e w1 ⟨p, g, a, F, rfl, L1⟩
  have A1 := A0.over L1.dv.on.bel
  go_wp2_with fail
  refine (lives_true w1 A1.tabs A1.fld).mono ?_
  rintro e w2 ⟨rfl, b2⟩
  have L2 := L1.grown b2
  have hbel := L2.dv.on.bel
  have A2 := A0.over hbel
  have r2 := (hbel.block w.heap.size z0).trans r0
  have z2 := Nat.lt_of_lt_of_le z0 hbel.size
  have HP := Lib.hid (put_no s q A n c w2 L2.log 2 (by decide) l hl ((rd0.below hbel).more hbel.size) hn A2.tabs A2.fld hm)
  obtain ⟨k0, k1, k2, _⟩ := cells3_of r2
  have HB2 := Lib.hid (hb0.trans (hbel.mono (Nat.le_of_lt z0)))
  clear L1 L2 A1 A2 r0 b2 hbel rd0
  go_wp2_with fail
  refine HP.out.mono ?_
  rintro e w3 ⟨rfl, b3⟩
  have HB3 := Lib.hid (HB2.out.trans (b3.mono (Nat.le_of_lt z2)))
  have r3 := (b3.block w.heap.size z2).trans r2
  have z3 := Nat.lt_of_lt_of_le z2 b3.size
  clear k0 k1 k2 r2 b3
  obtain ⟨k0, k1, k2, _⟩ := cells3_of r3
  go_wp2_with fail
  refine (QM.out w3).mono ?_
  rintro e w4 ⟨rfl, b4⟩
  have HB4 := Lib.hid (HB3.out.trans (b4.mono (Nat.le_of_lt z3)))
  clear k0 k1 k2 r3 b4
  go_wp2_with fail
  go_ret
  exact ⟨rfl, HB4.out⟩
set_option maxRecDepth 100000 in
set_option maxHeartbeats 8000000 in
theorem walk_yes {w : World} (x t : Nat) (hx : x < 1024) (ht : t < 15) (A : Option Addr) (c : Nat) (l : List Nat) (hl : Sh.Sec l) (hr : Reads w w.heap.size A 128 (bts l))
    (B0 : Option Addr) (nn c0 : Nat) (f : Nat → Op7) (hops : Ops7 w B0 nn f) (stop : Int) (hs1 : -9223372036854775808 ≤ stop) (hs2 : stop ≤ 9223372036854775807) (C : Option Addr) (bn bc : Nat) (ks : List (List Int)) (hbn : bn ≤ 9223372036854775807) (hk : KeepIs w (Old w) C bn ks) (hA : All w) :
    Calls Tryd.prog 8 #[.agg #[.int .i64 x, .int .i64 t, .slice A 128 c], .slice B0 nn c0, .int .i64 stop, .slice C bn bc] w fun e w' => e = .returned (.bool true) ∧ Below w.heap.size w w' := by
  have hb0 : Below w.heap.size w (w.alloc (.cells #[.int .i64 x, .int .i64 t, .slice A 128 c] 24)) := (Below.refl _ _).alloc (Nat.le_refl _) _
  have r0 := heap_alloc_new w (.cells #[.int .i64 x, .int .i64 t, .slice A 128 c] 24)
  have z0 : w.heap.size < (w.alloc (.cells #[.int .i64 x, .int .i64 t, .slice A 128 c] 24)).heap.size := by simp
  have HA0 := Lib.hid (hA.over hb0)
  have hnn := hops.1
  have HOP := Lib.hid (hops.grown hb0)
  have HKS := Lib.hid (keep_grown hk hb0)
  have HRC := Lib.hid (show RecOk (w.alloc (.cells #[.int .i64 x, .int .i64 t, .slice A 128 c] 24)) ⟨x, t, A, 128, c, l⟩ from ⟨⟨by dsimp only; omega, by dsimp only; omega⟩, ⟨by dsimp only; omega, by dsimp only; omega⟩, hl.2, (hr.below hb0).more hb0.size, by unfold maxLen; dsimp only; omega⟩)
  have HR0 := Lib.hid r0
  have HZ0 := Lib.hid z0
  have HB0 := Lib.hid hb0
  have HLL := Lib.hid hl
  have HO := Lib.hid (okD_head hx ht l hl.2)
  have HNE := Lib.hid (headL_ne (numF x t (Nums.sum 0 l)))
  have HST := Lib.hid (fun (W w1 : World) g a p o S F (h : Lg W.heap.size W w1 g a p 0 o S F 3) => s_stop h stop hs1 hs2)
  clear hops hk hr r0 z0 hb0 hs1 hs2 hl
  go_enter Tryd.func8, Tryd.ntmps8
  go_wp2_with fail
  generalize w.alloc (.cells #[.int .i64 x, .int .i64 t, .slice A 128 c] 24) = W0 at *
  refine (open_any 3 (by decide) (by decide) W0).mono ?_
  rintro e w1 ⟨p, g, a, F, rfl, L1⟩
  have A1 := HA0.out.over L1.dv.on.bel
  go_wp2_with fail
  refine (lives_true w1 A1.tabs A1.fld).mono ?_
  rintro e w2 ⟨rfl, b2⟩
  have L2 := L1.grown b2
  obtain ⟨k0, k1, k2, _⟩ := cells3_of ((L2.dv.on.bel.block w.heap.size HZ0.out).trans HR0.out)
  have HPUT := Lib.hid (put_jp L2 HA0.out.tabs HA0.out.tabs.size HA0.out.fld HA0.out.fld.size (Jp.new (n := 1) (s := 40) (d := 0) (by decide)).1 2 (by decide) (by decide) (by show _ ≤ blk 40; rw [blk40]; decide) x t hx ht A c l HLL.out (HRC.out.beside L2 rfl) (m := 0) (by
    intro k hk
    have hk : k ∈ List.replicate 1 (Sh.newDk 40) := hk
    rw [(List.mem_replicate.1 hk).2]
    exact Nat.le_refl _) (by decide))
  generalize headL (numF x t (Nums.sum 0 l)) = hL at *
  clear L1 L2 b2 A1
  go_wp2_with fail
  refine HPUT.out.mono ?_
  rintro e w3 ⟨z, rfl, o3, S3, hP3, F3, L3, _⟩
  obtain ⟨hz, hC3⟩ := hP3.calm (calm_new (by decide))
  subst hz
  obtain ⟨hv3, _⟩ := hP3.now hC3.on
  have hJ3 := hP3.jp
  have HSE4 := Lib.hid (show (Fl S3 0).sectors = 40 from (fl_sectors S3 0).trans hP3.sectors)
  have HLE4 := Lib.hid (show ∀ k ∈ (Fl S3 0).disks, k.waits.length ≤ 4 from fl_lens (fun k hk => hP3.len k hk))
  have HFL := s_flush L3 hC3.lt (fun k hk => by have := hP3.len k hk; omega)
  rw [hJ3.one.why0.mpr hC3.on] at HFL
  have HFL := Lib.hid HFL
  have HJ4 := Lib.hid ((hJ3.flush hC3.on o3).1.more (P' := Two hL l) (fun c e => by rw [e, hv3]; exact ⟨rfl, rfl⟩))
  clear k0 k1 k2 HPUT hP3 hC3 hv3 hJ3 L3
  generalize Fl S3 0 = S4 at *
  go_wp2_with fail
  refine HFL.out.mono ?_
  rintro e w4 ⟨rfl, F4, L4, _⟩
  have HSS := Lib.hid (HST.out _ _ _ _ _ _ _ _ L4)
  clear L4 HFL HST
  go_wp2_with fail
  refine HSS.out.mono ?_
  rintro e w5 ⟨rfl, L5⟩
  have B5 := Lib.hid (show Bag W0 w5 g a p (Two hL l) 0 from ⟨o3, S4.doStop stop, F4, L5, HJ4.out.stop stop, by unfold Sh.Sf.doStop; split <;> exact HSE4.out, by unfold Sh.Sf.doStop; split <;> exact HLE4.out⟩)
  clear HSS L5 HJ4 HSE4 HLE4
  go_wp2_with fail
  go_loopw [12] (fun s12 wr => ∃ k : Nat, k ≤ nn ∧ k ≤ 300 ∧ s12 = .int .i64 k ∧ Hid (Bag W0 wr g a p (Two hL l) k)) (fun i _ => 300 - (intOf i).toNat)
  case atStart => exact ⟨0, Nat.zero_le _, Nat.zero_le _, rfl, B5⟩
  case round =>
    obtain ⟨k, hk, hk2, rfl, hbag⟩ := hrel
    clear B5
    by_cases hlt : k < nn ∧ k < 300
    · obtain ⟨hlt, hlt2⟩ := hlt
      obtain ⟨b, off, rfl, hbl, hop⟩ := HOP.out.2 (by omega)
      have hop := hop k hlt
      have hbel := hbag.out.bel
      have d0 := (hbel.cell (p := ⟨b, off + k * 5, none⟩) hbl).trans hop.c0
      have d1 := (hbel.cell (p := ⟨b, off + k * 5 + 1, none⟩) hbl).trans hop.c1
      have D0 := Lib.hid (show ∀ W', Below W0.heap.size W0 W' → W'.cell? ⟨b, off + k * 5, none⟩ = some (.int .i64 (f k).kind) from fun W' h => (h.cell (p := ⟨b, off + k * 5, none⟩) hbl).trans hop.c0)
      have D1 := Lib.hid (show ∀ W', Below W0.heap.size W0 W' → W'.cell? ⟨b, off + k * 5 + 1, none⟩ = some (.int .i64 (f k).slot) from fun W' h => (h.cell (p := ⟨b, off + k * 5 + 1, none⟩) hbl).trans hop.c1)
      have D2 := Lib.hid (show ∀ W', Below W0.heap.size W0 W' → W'.cell? ⟨b, off + k * 5 + 2, none⟩ = some (.int .i64 (f k).r.s) from fun W' h => (h.cell (p := ⟨b, off + k * 5 + 2, none⟩) hbl).trans hop.c2)
      have D3 := Lib.hid (show ∀ W', Below W0.heap.size W0 W' → W'.cell? ⟨b, off + k * 5 + 3, none⟩ = some (.int .i64 (f k).r.q) from fun W' h => (h.cell (p := ⟨b, off + k * 5 + 3, none⟩) hbl).trans hop.c3)
      have D4 := Lib.hid (show ∀ W', Below W0.heap.size W0 W' → W'.cell? ⟨b, off + k * 5 + 4, none⟩ = some (.slice (f k).r.A (f k).r.n (f k).r.c) from fun W' h => (h.cell (p := ⟨b, off + k * 5 + 4, none⟩) hbl).trans hop.c4)
      have HZC := Lib.hid hop.rc
      have HB1 := Lib.hid hop.b1
      clear hop hbel
      generalize (f k).kind = kind at *
      generalize (f k).slot = slot at *
      generalize (f k).r = zz at *
      by_cases hs : slot = 2
      · subst hs
        go_wp2_with fail
        go_roundw
        case rel => exact ⟨k + 1, by omega, by omega, by go_num, Lib.hid hbag.out.next⟩
        case measure => simp [intOf]; omega
      · have hq2 : (slot == 2) = false := by rw [beq_eq_false_iff_ne]; exact hs
        by_cases hk1 : kind = 1
        · subst hk1
          have e1 := D1.out
          have e2 := D2.out
          have e3 := D3.out
          have e4 := D4.out
          go_wp2_with fail
          refine wp_region_held_drew (S := fun W' => Below W0.heap.size W0 W') (by kernel_rfl) (hbag.out.bel.drew) (fun hHeld => ?_)
          refine wpAnyH_take (i := 0) (oi := ⟨some 65, _, _, _, _, _⟩) (v := ?_) rfl (by kernel_rfl) (by kernel_rfl) (by kernel_rfl) (fun _ _ _ h => h) (Or.inl ⟨by rfl, ?_⟩) (by assumption) ?_
          rotate_left
          · (intro w hSw; (try dsimp only at hSw); go_simp; first | done | with_reducible rfl)
          try simp only [Act.put, List.setIfInBounds_toArray, List.set_cons_zero, List.set_cons_succ]
          refine wpAnyH_take (i := 1) (oi := ⟨some 66, _, _, _, _, _⟩) (v := ?_) rfl (by kernel_rfl) (by kernel_rfl) (by kernel_rfl) (fun _ _ _ h => h) (Or.inl ⟨by rfl, ?_⟩) (by assumption) ?_
          rotate_left
          · (intro w hSw; (try dsimp only at hSw); go_simp; first | done | with_reducible rfl)
          try simp only [Act.put, List.setIfInBounds_toArray, List.set_cons_zero, List.set_cons_succ]
          refine wpAnyH_take (i := 2) (oi := ⟨some 67, _, _, _, _, _⟩) (v := ?_) rfl (by kernel_rfl) (by kernel_rfl) (by kernel_rfl) (fun _ _ _ h => h) (Or.inl ⟨by rfl, ?_⟩) (by assumption) ?_
          rotate_left
          · (intro w hSw; (try dsimp only at hSw); go_simp; first | done | with_reducible rfl)
          try simp only [Act.put, List.setIfInBounds_toArray, List.set_cons_zero, List.set_cons_succ]
          refine wpAnyH_take (i := 3) (oi := ⟨some 68, _, _, _, _, _⟩) (v := ?_) rfl (by kernel_rfl) (by kernel_rfl) (by kernel_rfl) (fun _ _ _ h => h) (Or.inl ⟨by rfl, ?_⟩) (by assumption) ?_
          rotate_left
          · (intro w hSw; (try dsimp only at hSw); go_simp; first | done | with_reducible rfl)
          try simp only [Act.put, List.setIfInBounds_toArray, List.set_cons_zero, List.set_cons_succ]
          refine wpAnyH_take (i := 4) (oi := ⟨some 69, _, _, _, _, _⟩) (v := ?_) rfl (by kernel_rfl) (by kernel_rfl) (by kernel_rfl) (fun _ _ _ h => h) (Or.inl ⟨by rfl, ?_⟩) (by assumption) ?_
          rotate_left
          · (intro w hSw; (try dsimp only at hSw); go_simp; first | done | with_reducible rfl)
          try simp only [Act.put, List.setIfInBounds_toArray, List.set_cons_zero, List.set_cons_succ]
          refine wpAnyH_take (i := 5) (oi := ⟨some 70, _, _, _, _, _⟩) (v := ?_) rfl (by kernel_rfl) (by kernel_rfl) (by kernel_rfl) (fun _ _ _ h => h) (Or.inl ⟨by rfl, ?_⟩) (by assumption) ?_
          rotate_left
          · (intro w hSw; (try dsimp only at hSw); go_simp; first | done | with_reducible rfl)
          try simp only [Act.put, List.setIfInBounds_toArray, List.set_cons_zero, List.set_cons_succ]
          refine wpAnyH_take (i := 6) (oi := ⟨some 71, _, _, _, _, _⟩) (v := ?_) rfl (by kernel_rfl) (by kernel_rfl) (by kernel_rfl) (fun _ _ _ h => h) (Or.inl ⟨by rfl, ?_⟩) (by assumption) ?_
          rotate_left
          · (intro w hSw; (try dsimp only at hSw); go_simp; first | done | with_reducible rfl)
          try simp only [Act.put, List.setIfInBounds_toArray, List.set_cons_zero, List.set_cons_succ]
          refine wpAnyH_take (i := 7) (oi := ⟨some 72, _, _, _, _, _⟩) (v := ?_) rfl (by kernel_rfl) (by kernel_rfl) (by kernel_rfl) (fun _ _ _ h => h) (Or.inl ⟨by rfl, ?_⟩) (by assumption) ?_
          rotate_left
          · (intro w hSw; (try dsimp only at hSw); go_simp; first | done | with_reducible rfl)
          try simp only [Act.put, List.setIfInBounds_toArray, List.set_cons_zero, List.set_cons_succ]
          refine wpAnyH_take (i := 8) (oi := ⟨some 73, _, _, _, _, _⟩) (v := ?_) rfl (by kernel_rfl) (by kernel_rfl) (by kernel_rfl) (fun _ _ _ h => h) (Or.inl ⟨by rfl, ?_⟩) (by assumption) ?_
          rotate_left
          · (intro w hSw; (try dsimp only at hSw); go_simp; first | done | with_reducible rfl)
          try simp only [Act.put, List.setIfInBounds_toArray, List.set_cons_zero, List.set_cons_succ]
          refine wpAnyH_take (i := 9) (oi := ⟨some 74, _, _, _, _, _⟩) (v := ?_) rfl (by kernel_rfl) (by kernel_rfl) (by kernel_rfl) (fun _ _ _ h => h) (Or.inl ⟨by rfl, ?_⟩) (by assumption) ?_
          rotate_left
          · (intro w hSw; (try dsimp only at hSw); go_simp; first | done | with_reducible rfl)
          try simp only [Act.put, List.setIfInBounds_toArray, List.set_cons_zero, List.set_cons_succ]
          refine wpAnyH_take (i := 10) (oi := ⟨some 75, _, _, _, _, _⟩) (v := ?_) rfl (by kernel_rfl) (by kernel_rfl) (by kernel_rfl) (fun _ _ _ h => h) (Or.inl ⟨by rfl, ?_⟩) (by assumption) ?_
          rotate_left
          · (intro w hSw; (try dsimp only at hSw); go_simp; first | done | with_reducible rfl)
          try simp only [Act.put, List.setIfInBounds_toArray, List.set_cons_zero, List.set_cons_succ]
          refine wpAnyH_ready (rs := [11]) (by kernel_rfl) (by simp) ?_
          refine AllReadyH.cons (o := ⟨some 76, _, _, _, _, _⟩) rfl (fun K hK => ?_) AllReadyH.nil
          go_simp
          refine ((hbag.out.grown (w' := wr.drew) ((Below.refl _ _).drew)).put HA0.out (by omega) slot HB1.out hs zz HZC.out).mono ?_
          rintro e w9 ⟨⟨y, rfl⟩, hB9⟩
          refine hK.out _ _ (hB9.bel) (fun hHeld => ?_)
          clear hK K
          try simp only [Act.put, List.setIfInBounds_toArray, List.set_cons_zero, List.set_cons_succ]
          refine wpAnyH_done (by kernel_rfl) ?_ _
          have e0 := D0.out _ hB9.bel
          clear hHeld e1 e2 e3 e4
          go_wp2_with fail
          go_roundw
          case rel => exact ⟨k + 1, by omega, by omega, by go_num, Lib.hid hB9⟩
          case measure => simp [intOf]; omega
        · have hq1 : (kind == 1) = false := by rw [beq_eq_false_iff_ne]; exact hk1
          clear hk1
          by_cases hk3 : kind = 2
          · subst hk3
            go_wp2_with fail
            refine (hbag.out.clear HA0.out (by omega) slot HB1.out hs).mono ?_
            rintro e w9 ⟨⟨y, rfl⟩, hB9⟩
            go_wp2_with fail
            go_roundw
            case rel => exact ⟨k + 1, by omega, by omega, by go_num, Lib.hid hB9⟩
            case measure => simp [intOf]; omega
          · have hq3 : (kind == 2) = false := by rw [beq_eq_false_iff_ne]; exact hk3
            clear hk3
            go_wp2_with fail
            go_roundw
            case rel => exact ⟨k + 1, by omega, by omega, by go_num, Lib.hid hbag.out.next⟩
            case measure => simp [intOf]; omega
    · by_cases h1 : k < nn
      · have h2 : 300 ≤ k := by omega
        have hqe : decide ((k : Int) < 300) = false := by simp; omega
        clear hlt
        obtain ⟨o, S, F, L, J, hse, hLn⟩ := hbag.out
        clear hbag
        have hcr := J.crash ks
        have HCR := Lib.hid (s_crash L C bn bc HKS.out hbn (fun x hx => by have := hLn x hx; omega))
        clear L J hLn
        go_wp2_with fail
        refine HCR.out.mono ?_
        rintro e w7 ⟨rfl, F7, a7, _⟩
        obtain ⟨hC7, hse7, hgd, hP7, _⟩ := hcr
        rw [hse] at hse7 hgd
        rw [blk40] at hgd
        clear HCR
        generalize S.crash ks = S7 at *
        have HOD := Lib.hid (open_yes 0 a7.shelf hC7.lt)
        have HA7 := Lib.hid a7
        have HC7 := Lib.hid hC7
        have HGD := Lib.hid hgd
        have HP7 := Lib.hid hP7
        have HSE7 := Lib.hid hse7
        clear a7 hC7 hgd hP7 hse7 hse
        go_wp2_with fail
        refine HOD.out.mono ?_
        rintro e w8 ⟨rfl, hd, hb⟩
        have HD8 := Lib.hid (dv_open (a := w7.heap.size) HA7.out hd hb rfl)
        have HLO := Lib.hid (logOpen_ok 3 (by decide) (by decide) HD8.out.dev HD8.out.on.shelf (by rw [HSE7.out, blk40]; decide))
        clear hd hb HA7 HOD
        generalize w7.heap.size = a8 at *
        go_wp2_with fail
        refine HLO.out.mono ?_
        rintro e w9 ⟨rfl, hl9, b9⟩
        have L9 := lg_open HD8.out hl9 b9 rfl
        clear hl9 b9 HD8 HLO
        generalize w8.heap.size = g8 at *
        have HG := get_calm L9 HA0.out.tabs HA0.out.tabs.size HA0.out.fld HA0.out.fld.size HC7.out 2 (by decide) (by decide) (by rw [HSE7.out, blk40]; decide) (HGD.out _ (by decide)) (HGD.out _ (by decide))
        rw [show V S7 0 (dataOf (2 + 2 * 2)) = hL from HP7.out.1, show V S7 0 (dataOf (3 + 2 * 2)) = l from HP7.out.2] at HG
        have HG := Lib.hid HG
        clear L9
        go_wp2_with fail
        refine HG.out.mono ?_
        rintro e w10 ⟨hgot, S10, _, L10, _⟩
        rcases hgot with ⟨h0, _⟩ | ⟨_, h0, _⟩ | ⟨_, _, A10, c10, rfl, own10⟩
        · exact absurd h0 HNE.out
        · rw [HO.out.1] at h0; cases h0
        rw [HO.out.2.1, HO.out.2.2.1]
        clear HG
        have hb11 : Below w10.heap.size w10 (w10.alloc (.cells #[.int .i64 x, .int .i64 t, .slice A10 128 c10] 24)) := (Below.refl _ _).alloc (Nat.le_refl _) _
        have v11 := heap_alloc_new w10 (.cells #[.int .i64 x, .int .i64 t, .slice A10 128 c10] 24)
        have hbel := (L10.grown hb11).dv.on.bel
        have r11 := (hbel.block w.heap.size HZ0.out).trans HR0.out
        have HS := Lib.hid (refSame_self x t A10 A 128 c10 128 c l _ HLL.out.2 (((Reads.of_own own10).below hb11).more hb11.size) ((HRC.out.rd.below hbel).more hbel.size))
        have HBE := Lib.hid (HB0.out.trans (hbel.mono HB0.out.size))
        have HZE := Lib.hid hbel.size
        obtain ⟨k0, k1, k2, _⟩ := cells3_of r11
        obtain ⟨i0, i1, i2, _⟩ := cells3_of v11
        clear own10 hb11 v11 r11 L10 hbel
        go_wp2_with fail
        generalize w10.alloc (.cells #[.int .i64 x, .int .i64 t, .slice A10 128 c10] 24) = W11 at *
        refine HS.out.mono ?_
        rintro e w12 ⟨rfl, b12⟩
        have HB12 := Lib.hid (HBE.out.trans (b12.mono (Nat.le_trans HB0.out.size HZE.out)))
        clear k0 k1 k2 i0 i1 i2 b12
        go_wp2_with fail
        go_ret
        exact ⟨rfl, HB12.out⟩
      · have hqe : decide ((k : Int) < (nn : Int)) = false := by simp; omega
        clear hlt
        obtain ⟨o, S, F, L, J, hse, hLn⟩ := hbag.out
        clear hbag
        have hcr := J.crash ks
        have HCR := Lib.hid (s_crash L C bn bc HKS.out hbn (fun x hx => by have := hLn x hx; omega))
        clear L J hLn
        go_wp2_with fail
        refine HCR.out.mono ?_
        rintro e w7 ⟨rfl, F7, a7, _⟩
        obtain ⟨hC7, hse7, hgd, hP7, _⟩ := hcr
        rw [hse] at hse7 hgd
        rw [blk40] at hgd
        clear HCR
        generalize S.crash ks = S7 at *
        have HOD := Lib.hid (open_yes 0 a7.shelf hC7.lt)
        have HA7 := Lib.hid a7
        have HC7 := Lib.hid hC7
        have HGD := Lib.hid hgd
        have HP7 := Lib.hid hP7
        have HSE7 := Lib.hid hse7
        clear a7 hC7 hgd hP7 hse7 hse
        go_wp2_with fail
        refine HOD.out.mono ?_
        rintro e w8 ⟨rfl, hd, hb⟩
        have HD8 := Lib.hid (dv_open (a := w7.heap.size) HA7.out hd hb rfl)
        have HLO := Lib.hid (logOpen_ok 3 (by decide) (by decide) HD8.out.dev HD8.out.on.shelf (by rw [HSE7.out, blk40]; decide))
        clear hd hb HA7 HOD
        generalize w7.heap.size = a8 at *
        go_wp2_with fail
        refine HLO.out.mono ?_
        rintro e w9 ⟨rfl, hl9, b9⟩
        have L9 := lg_open HD8.out hl9 b9 rfl
        clear hl9 b9 HD8 HLO
        generalize w8.heap.size = g8 at *
        have HG := get_calm L9 HA0.out.tabs HA0.out.tabs.size HA0.out.fld HA0.out.fld.size HC7.out 2 (by decide) (by decide) (by rw [HSE7.out, blk40]; decide) (HGD.out _ (by decide)) (HGD.out _ (by decide))
        rw [show V S7 0 (dataOf (2 + 2 * 2)) = hL from HP7.out.1, show V S7 0 (dataOf (3 + 2 * 2)) = l from HP7.out.2] at HG
        have HG := Lib.hid HG
        clear L9
        go_wp2_with fail
        refine HG.out.mono ?_
        rintro e w10 ⟨hgot, S10, _, L10, _⟩
        rcases hgot with ⟨h0, _⟩ | ⟨_, h0, _⟩ | ⟨_, _, A10, c10, rfl, own10⟩
        · exact absurd h0 HNE.out
        · rw [HO.out.1] at h0; cases h0
        rw [HO.out.2.1, HO.out.2.2.1]
        clear HG
        have hb11 : Below w10.heap.size w10 (w10.alloc (.cells #[.int .i64 x, .int .i64 t, .slice A10 128 c10] 24)) := (Below.refl _ _).alloc (Nat.le_refl _) _
        have v11 := heap_alloc_new w10 (.cells #[.int .i64 x, .int .i64 t, .slice A10 128 c10] 24)
        have hbel := (L10.grown hb11).dv.on.bel
        have r11 := (hbel.block w.heap.size HZ0.out).trans HR0.out
        have HS := Lib.hid (refSame_self x t A10 A 128 c10 128 c l _ HLL.out.2 (((Reads.of_own own10).below hb11).more hb11.size) ((HRC.out.rd.below hbel).more hbel.size))
        have HBE := Lib.hid (HB0.out.trans (hbel.mono HB0.out.size))
        have HZE := Lib.hid hbel.size
        obtain ⟨k0, k1, k2, _⟩ := cells3_of r11
        obtain ⟨i0, i1, i2, _⟩ := cells3_of v11
        clear own10 hb11 v11 r11 L10 hbel
        go_wp2_with fail
        generalize w10.alloc (.cells #[.int .i64 x, .int .i64 t, .slice A10 128 c10] 24) = W11 at *
        refine HS.out.mono ?_
        rintro e w12 ⟨rfl, b12⟩
        have HB12 := Lib.hid (HBE.out.trans (b12.mono (Nat.le_trans HB0.out.size HZE.out)))
        clear k0 k1 k2 i0 i1 i2 b12
        go_wp2_with fail
        go_ret
        exact ⟨rfl, HB12.out⟩
theorem walk {w : World} (z : RecV) (hz : RecOk w z) (_ : z.n ≤ 140737488351232) (B0 : Option Addr) (nn c0 : Nat) (f : Nat → Op7) (hops : Ops7 w B0 nn f) (stop : Int) (hs1 : -9223372036854775808 ≤ stop) (hs2 : stop ≤ 9223372036854775807) (C : Option Addr) (bn bc : Nat) (ks : List (List Int)) (hbn : bn ≤ 9223372036854775807) (hk : KeepIs w (Old w) C bn ks) (hA : All w) :
    Calls Tryd.prog 8 #[z.val, .slice B0 nn c0, .int .i64 stop, .slice C bn bc] w fun e w' => e = .returned (.bool true) ∧ Below w.heap.size w w' := by
  obtain ⟨s, q, A, n, c, l⟩ := z
  obtain ⟨hs, hq, hl, hr, hn⟩ := hz
  dsimp only at hs hq hl hr hn
  unfold RecV.val
  dsimp only
  cases hm : mayB s q n
  · exact walk_no s q A n c l hs hq hl hr hn B0 nn c0 stop C bn bc hA hm
  · obtain ⟨rfl, h1, h2⟩ := (mayB_iff hs hq).1 hm
    obtain ⟨x, rfl⟩ := nat_of h1.1
    obtain ⟨t, rfl⟩ := nat_of h2.1
    exact walk_yes x t (by omega) (by omega) A c l ⟨hr.len, hl⟩ hr B0 nn c0 f hops stop hs1 hs2 C bn bc ks hbn hk hA
set_option maxRecDepth 100000 in
/-- WHAT THE WALK GIVES, FOR EVERY ARGUMENT AND EVERY WORLD THAT HOLDS THE TABLES. -/
theorem contract (H : Type) (enc : TypeId × Value → H) (W : World) (base : Nat) (args : Array Value) (ds gs : List (DataW H)) (before : List MemPlace)
    (hval : ∀ (j : Nat) t v, Tryd.f8.params[j]? = some t → args[j]? = some v → Value.okWide Tryd.prog W .any base t v)
    (hW : DataW.Whole enc Tryd.prog Tryd.f8.params.toList Rows.pplSureSpec.vars false W args.toList ds gs before)
    (hsz : (DataW.weightsEach Tryd.prog (Tryd.f8.params.toList ++ (OpenSpec.ofChange Rows.pplSureSpec).bare.plain.varTypes Tryd.prog) (ds ++ gs)).all (· ≤ reachBytes) = true) (hL : laidMetH Tryd.prog laidBoth W) :
    Calls Tryd.prog 8 args W fun e W' => ∃ v, e = .returned v ∧ Rows.pplSureSpec.post enc Tryd.prog Tryd.f8 false true false false W args v W' := by
  have hW' := hW
  obtain ⟨p, q, hA0, hV, rfl, hfz, hnd⟩ := hW
  have hA : DataW.TrodAll enc Tryd.prog W 0 (fun _ => true) true Tryd.f8.params.toList args.toList ds p := hA0
  have hsz2 : (DataW.weightsEach Tryd.prog (Tryd.f8.params.toList ++ []) (ds ++ gs)).all (· ≤ reachBytes) = true := hsz
  rw [Tryd.params8] at hA hval hsz2
  obtain ⟨v0, vs0, d0, ds0, p0, q0, hargs, rfl, rfl, h0, r0⟩ := trodAll_cons hA
  obtain ⟨v1, vs1, d1, ds1, p1, q1, rfl, rfl, rfl, h1, r1⟩ := trodAll_cons r0
  obtain ⟨v2, vs2, d2, ds2, p2, q2, rfl, rfl, rfl, h2, r2⟩ := trodAll_cons r1
  obtain ⟨v3, vs3, d3, ds3, p3, q3, rfl, rfl, rfl, h3, r3⟩ := trodAll_cons r2
  obtain ⟨rfl, rfl, rfl⟩ := trodAll_nil r3
  obtain rfl : args = #[v0, v1, v2, v3] := by cases args; simp_all
  obtain ⟨rfl, rfl⟩ := trodVars_none hV
  have k0 := h0
  have lt0 : ∀ x ∈ p0, x.block < W.heap.size := by obtain ⟨m, hm⟩ := k0; exact DataW.trod_lt m _ _ _ hm
  have hw0 : ∀ m ∈ d0.weights Tryd.prog 24, m ≤ reachBytes := fun m hm => by simpa using List.all_eq_true.1 hsz2 m (DataW.weights_mem_each (j := 0) (t := 24) rfl rfl m hm)
  obtain ⟨z0, rfl, zf0, zb0⟩ := rec_came (hval 0 24 v0 rfl rfl) h0 hw0
  obtain ⟨A1, n1, c1, rfl⟩ := okWide_slice Tryd.underlying35 (hval 1 35 v1 rfl rfl)
  have k1 := h1
  have lt1 : ∀ x ∈ p1, x.block < W.heap.size := by obtain ⟨m, hm⟩ := k1; exact DataW.trod_lt m _ _ _ hm
  obtain ⟨f1, hl1⟩ : ∃ f, Ops7 W A1 n1 f := by obtain ⟨fuel, hf⟩ := h1; exact ops7_in (by simpa [Value.cells] using hf)
  obtain ⟨a2, rfl, rfl, rfl, w2⟩ := open_int Tryd.underlying3 (hval 2 3 v2 rfl rfl) h2
  have bd2 := bounds_i64 w2
  obtain ⟨A3, n3, c3, rfl⟩ := okWide_slice Tryd.underlying55 (hval 3 55 v3 rfl rfl)
  have k3 := h3
  have lt3 : ∀ x ∈ p3, x.block < W.heap.size := by obtain ⟨m, hm⟩ := k3; exact DataW.trod_lt m _ _ _ hm
  obtain ⟨ks3, nb3, hk3⟩ : ∃ ks : List (List Int), n3 ≤ 9223372036854775807 ∧ KeepIs W (Old W) A3 n3 ks := by obtain ⟨fuel, hf⟩ := h3; exact keep_in (by simpa [Value.cells] using hf)
  have hT := tabs_of_laid hL
  refine (walk z0 zf0 zb0 A1 n1 c1 f1 hl1 a2 bd2.1 bd2.2 A3 n3 c3 ks3 nb3 hk3 hT).mono fun e W' ⟨he, bel⟩ => ?_
  subst he
  exact ⟨_, rfl, _, _, _, [], _, [], hW', trodAll_mk1 (shut_bool Tryd.underlying4 _), (trodAll_cons_mk (Below.trod laidOut (by kernel_rfl) (of_decide_eq_true (by kernel_rfl)) k0 bel lt0) (trodAll_cons_mk (Below.trod laidOut (by kernel_rfl) (of_decide_eq_true (by kernel_rfl)) k1 bel lt1) (trodAll_cons_mk (shut_int Tryd.underlying3 w2) (trodAll_cons_mk (Below.trod laidOut (by kernel_rfl) (of_decide_eq_true (by kernel_rfl)) k3 bel lt3) trodAll_mk0)))), rfl, bel.frame _, fun h => by cases h⟩

theorem laid_met (os : Os) : laidMetH Tryd.prog laidBoth ((laidWorld os).forCall (fun _ _ => 0) ⟨#[], #[.agg #[.int .i64 0, .int .i64 0, .slice none 0 0], .slice none 0 0, .int .i64 0, .slice none 0 0], []⟩).memory :=
  laidMetH_of_parts3 (fuel := 8) (laidMet_of_run' 8 (by kernel_rfl) (by kernel_rfl)) (by kernel_rfl) (by kernel_rfl)
theorem reads (os : Os) {H : Type} (enc : TypeId × Value → H) : ∃ places, DataW.whole enc Tryd.prog ((laidWorld os).forCall (fun _ _ => 0) ⟨#[], #[.agg #[.int .i64 0, .int .i64 0, .slice none 0 0], .slice none 0 0, .int .i64 0, .slice none 0 0], []⟩).memory Tryd.f8.params.toList Rows.pplSureSpec.vars false (#[.agg #[.int .i64 0, .int .i64 0, .slice none 0 0], .slice none 0 0, .int .i64 0, .slice none 0 0] : Array Value).toList 8 = some ([.agg [.lit (.int .i64 0), .lit (.int .i64 0), .nil], .nil, .lit (.int .i64 0), .nil], [], places) :=
  ⟨[], by kernel_rfl⟩
set_option maxRecDepth 100000 in
theorem lifted (os : Os) (started : os.Started) (H : Type) (enc : TypeId × Value → H) (F : Stop.Interp) :
    ReturnsInHanded {} Tryd.checked os 8 .any ((OpenSpec.ofChange Rows.pplSureSpec).preRow enc Tryd.prog Tryd.f8 Rows.pplSureRow.domain false Rows.pplSureRow.laid) (((OpenSpec.ofChange Rows.pplSureSpec).at F).post enc Tryd.prog Tryd.f8 false true false false) := by
  obtain ⟨places, hx⟩ := reads os enc
  refine returnsInHanded_of_row (C := Tryd.checked) (s := (OpenSpec.ofChange Rows.pplSureSpec)) own started (by kernel_rfl) Tryd.func8
    (witness_row_at (enc := enc) (C := Tryd.checked) false (laidWorld os) #[.agg #[.int .i64 0, .int .i64 0, .slice none 0 0], .slice none 0 0, .int .i64 0, .slice none 0 0] rfl (by kernel_rfl) (by kernel_rfl) (by kernel_rfl)
      (OpenSpec.preRow_of_cond 8 hx (by kernel_rfl) (fun k hk => by cases hk) (by kernel_rfl) (laid_met os))) ?_
  intro W base args ds gs before hval hW _ hcond hsz hL _ _
  exact contract H enc W base args ds gs before hval hW hsz hL
theorem said : Rows.PplSureSaid :=
  OpenClaim.holds_of_cond 8 Tryd.f8 rfl rfl rfl rfl rfl rfl rfl ⟨rfl, rfl, rfl, rfl, rfl⟩ rfl rfl rfl rfl rfl (by kernel_rfl) Tryd.func8 (by kernel_rfl)
    (of_decide_eq_true (by kernel_rfl)) (by unfold Func.isWrapper; first | (rw [if_pos (by decide +kernel)]; kernel_rfl) | (rw [if_neg (by decide +kernel)]; exact ⟨rfl, rfl⟩))
    (fun os started H enc _ F => by rw [OpenClaim.pre_eq_preRow]; exact lifted os started H enc F)
theorem plain (f : FuncId) (fn : Func) (hf : Tryd.pinned.checked.prog.funcNamed "ashlar/ashlarlaw07.PplSure" = some f) (hfn : Tryd.pinned.checked.prog.funcs[f]? = some fn) :
    false = Tryd.pinned.checked.prog.looks [] ∧ ∀ (j : Nat) t, fn.params[j]? = some t → Tryd.pinned.checked.prog.wantsStandIn t = false := by
  obtain rfl : f = 8 := Option.some.inj ((show Tryd.prog.funcNamed "ashlar/ashlarlaw07.PplSure" = some 8 by kernel_rfl).symm.trans hf) |>.symm
  obtain rfl : fn = Tryd.f8 := (Option.some.inj (Tryd.func8.symm.trans hfn)).symm
  refine ⟨by kernel_rfl, fun j t ht => ?_⟩
  rw [Tryd.params8] at ht
  have hm : t ∈ [24, 35, 3, 55] := by simpa using Array.mem_of_getElem? ht
  have hall : ([24, 35, 3, 55].all fun u => !Tryd.prog.wantsStandIn u) = true := by kernel_rfl
  exact (show Tryd.prog.wantsStandIn t = false by simpa using List.all_eq_true.1 hall t hm)

/-- ████ THE CARD ████ -/
theorem card : Rows.PplSureCardSaid :=
  Claim7.holds_tied_plain_at .later [] _ _ _ _ said (fun _ h => by cases h) (by kernel_rfl) (fun _ h => by cases h) pplSure_row_tie rfl ⟨rfl, rfl⟩ (by kernel_rfl) rfl plain (by kernel_rfl)
end Go.Proofs.YtohdieddocogkaaDoor.U.pplSure
