/-
  ppl: Put, Clear, Get.
  Conditions: each theorem's own.
-/
import Derived.Test.YtplbgjjacomceaaGreatDoorQm
namespace Go.Proofs.YtplbgjjacomceaaGreatDoor.U
open Go.RowKit Go.Maps

section
variable (s q : Int) (A : Option Addr) (n0 c : Nat) (w : World)
set_option maxRecDepth 20000 in
theorem put_nil (k : Int) :
    Calls Tryz.prog 146 #[.pointer none, .int .i64 k, .agg #[.int .i64 s, .int .i64 q, .slice A n0 c]] w fun e w' => e = .returned (.int .i64 2) ∧ Below w.heap.size w w' := by
  have hB := Lib.hid (show Below w.heap.size w (w.alloc (.cells #[.int .i64 s, .int .i64 q, .slice A n0 c] 161)) from (Below.refl _ _).alloc (Nat.le_refl _) _)
  have hr := Lib.hid (refusal_nil k)
  go_enter Tryz.func146, Tryz.ntmps146
  go_wp2_with fail
  refine (hr.out _).mono ?_
  rintro e w' ⟨rfl, rfl⟩
  go_wp2
  go_ret
  exact ⟨rfl, hB.out⟩
set_option maxRecDepth 20000 in
theorem put_slot {g a n : Nat} (h : LogIs w g a n) (k : Int) (hk : k < 0 ∨ (0 ≤ k ∧ (n : Int) ≤ k)) :
    Calls Tryz.prog 146 #[.pointer (some ⟨g, 0, none⟩), .int .i64 k, .agg #[.int .i64 s, .int .i64 q, .slice A n0 c]] w fun e w' => e = .returned (.int .i64 1) ∧ Below w.heap.size w w' := by
  have hB := Lib.hid (show Below w.heap.size w (w.alloc (.cells #[.int .i64 s, .int .i64 q, .slice A n0 c] 161)) from (Below.refl _ _).alloc (Nat.le_refl _) _)
  have hr := Lib.hid (refusal_no (h.same (hB.out.block g h.lt)) k hk)
  clear hk h
  go_enter Tryz.func146, Tryz.ntmps146
  go_wp2_with fail
  refine hr.out.mono ?_
  rintro e w' ⟨rfl, rfl⟩
  go_wp2
  go_ret
  exact ⟨rfl, hB.out⟩
set_option maxRecDepth 20000 in
theorem put_no {g a n : Nat} (h : LogIs w g a n) (k : Nat) (hk : k < n) (l : List Nat) (hl : Small l) (hr : Reads w w.heap.size A n0 (bts l)) (hn : n0 ≤ maxLen) (hT : Tabs w) (hF : Flds w) (hm : mayB s q n0 = false) :
    Calls Tryz.prog 146 #[.pointer (some ⟨g, 0, none⟩), .int .i64 k, .agg #[.int .i64 s, .int .i64 q, .slice A n0 c]] w fun e w' => e = .returned (.int .i64 1) ∧ Below w.heap.size w w' := by
  have hb := (show Below w.heap.size w (w.alloc (.cells #[.int .i64 s, .int .i64 q, .slice A n0 c] 161)) from (Below.refl _ _).alloc (Nat.le_refl _) _)
  have hB := Lib.hid hb
  have hR := Lib.hid (refusal_yes (h.same (hb.block g h.lt)) k hk)
  have hE := Lib.hid (encode_no s q A n0 c l _ hl ((hr.below hb).more hb.size) hn (hT.below hT.size hb) (hF.below hF.size hb) hm)
  obtain ⟨k0, k1, k2, _⟩ := cells3_of (heap_alloc_new w (.cells #[.int .i64 s, .int .i64 q, .slice A n0 c] 161))
  have hz0 : w.heap.size ≤ (w.alloc (.cells #[.int .i64 s, .int .i64 q, .slice A n0 c] 161)).heap.size := by simp
  clear hk h hr hT hF hm hb
  go_enter Tryz.func146, Tryz.ntmps146
  go_wp2_with fail
  refine hR.out.mono ?_
  rintro e w' ⟨rfl, rfl⟩
  go_wp2_with fail
  refine hE.out.mono ?_
  rintro e w' ⟨rfl, b1⟩
  have hB1 := hB.out.trans (b1.mono hz0)
  clear k0 k1 k2
  go_wp2
  go_ret
  exact ⟨rfl, hB1⟩
end
/-- What a Put leaves. -/
structure Putted (S : Sh.Sf) (d k : Nat) (l hd : Sh.Bs) (P : Cs) (m : Nat) (y : Int) (o' : Int) (S' : Sh.Sf) : Prop where
  jp : Jp S' d o' (fun c => P c ∨ (S.off = false ∧ (c = upd (vals (dk S d)) (3 + 2 * k) l ∨ c = upd (upd (vals (dk S d)) (3 + 2 * k) l) (2 + 2 * k) hd)))
  now : S'.off = false → vals (dk S' d) = upd (upd (vals (dk S d)) (3 + 2 * k) l) (2 + 2 * k) hd ∧ y = 0
  on : S'.off = false → S.off = false
  sectors : S'.sectors = S.sectors
  calm : Calm S d → y = 0 ∧ Calm S' d
  len : ∀ k ∈ S'.disks, k.waits.length ≤ m + 4
section
variable {B : Nat} {W w w' : World} {g a p d n : Nat} {o : Int} {S S' : Sh.Sf} {F : Nat → Prop} {P : Cs}
theorem goes_only {o' : Int} (hG : Goes B W w w' a p d o' S' F) (b : Nat) (hb : b < w.heap.size) (hn : ¬ With F a b) : w'.heap[b]? = w.heap[b]? := by
  obtain ⟨F', _, m⟩ := hG
  exact m.1.block b hb hn
theorem Wrote.putted {k m : Nat} {l hd : Sh.Bs} {y : Int} {o' : Int} (h : Wrote S d (3 + 2 * k) l P m y o' S') (hy : y ≠ 0) : Putted S d k l hd P m y o' S' :=
  ⟨h.jp.more (fun c e => e.imp id fun ⟨h1, h2⟩ => ⟨h1, .inl h2⟩), fun e => absurd (h.now e).2 hy, h.on, h.sectors, fun hc => absurd (h.calm hc).1 hy, fun k hk => by have := h.len k hk; omega⟩
theorem Wrote.both {k m : Nat} {l hd : Sh.Bs} {y y2 : Int} {o1 o2 : Int} {S1 S2 : Sh.Sf} (h : Wrote S d (3 + 2 * k) l P m y o1 S1)
    (h2 : Wrote S1 d (2 + 2 * k) hd (fun c => P c ∨ (S.off = false ∧ c = upd (vals (dk S d)) (3 + 2 * k) l)) (m + 2) y2 o2 S2) : Putted S d k l hd P m y2 o2 S2 := by
  refine ⟨h2.jp.more ?_, fun e => ?_, fun e => h.on (h2.on e), h2.sectors.trans h.sectors, fun hc => h2.calm (h.calm hc).2, fun k hk => by have := h2.len k hk; omega⟩
  · rintro c ((e | ⟨e1, e2⟩) | ⟨e1, e2⟩)
    · exact .inl e
    · exact .inr ⟨e1, .inl e2⟩
    · refine .inr ⟨h.on e1, .inr ?_⟩
      rw [e2, (h.now e1).1]
  · obtain ⟨h3, h4⟩ := h2.now e
    rw [h3, (h.now (h2.on e)).1]
    exact ⟨rfl, h4⟩
set_option maxRecDepth 20000 in
set_option maxHeartbeats 4000000 in
theorem put_jp (h : Lg B W w g a p d o S F n) (hT : Tabs W) (hTB : max 1 2 + 1 ≤ B) (hFl : Flds W) (hFB : 4 + 1 ≤ B) (hj : Jp S d o P) (k : Nat) (hk : k < n) (hn : n ≤ 8) (hb : 2 + 2 * n ≤ blk S.sectors)
    (x t : Nat) (hx : x < 1024) (ht : t < 15) (A : Option Addr) (c : Nat) (l : List Nat) (hl : Sh.Sec l) (hA : Sh.Beside w (With F a) A l) {m : Nat} (hL : ∀ k ∈ S.disks, k.waits.length ≤ m) (hm : m ≤ 900000) :
    Calls Tryz.prog 146 #[.pointer (some ⟨g, 0, none⟩), .int .i64 k, .agg #[.int .i64 x, .int .i64 t, .slice A 128 c]] w fun e w' => ∃ z : Int, e = .returned (.int .i64 z) ∧ ∃ o' S', Putted S d k l (headL (numF x t (Nums.sum 0 l))) P m z o' S' ∧ LGoes B W w w' g a p d o' S' F n := by
  have hbW := h.dv.on.bel
  have HSZ := Lib.hid h.dv.on.size
  have hb0 := (show Below w.heap.size w (w.alloc (.cells #[.int .i64 x, .int .i64 t, .slice A 128 c] 161)) from (Below.refl _ _).alloc (Nat.le_refl _) _)
  have hTw : Tabs w := hT.below hTB hbW
  have hFw : Flds w := hFl.below hFB hbW
  have hR := Lib.hid (refusal_yes (h.log.same (hb0.block g h.log.lt)) k hk)
  have hE := Lib.hid (encode_ok x t hx ht A c l _ hl.2 ((hA.1.below hb0).more hb0.size) (hTw.below hTw.size hb0) (hFw.below hFw.size hb0))
  have HHS := Lib.hid (headL_small (numF x t (Nums.sum 0 l)))
  have HHL := Lib.hid (headL_length (numF x t (Nums.sum 0 l)))
  have q0 := heap_alloc_new w (.cells #[.int .i64 x, .int .i64 t, .slice A 128 c] 161)
  have hz0 : w.heap.size < (w.alloc (.cells #[.int .i64 x, .int .i64 t, .slice A 128 c] 161)).heap.size := by simp
  have HNB := Lib.hid (show ¬ With F a w.heap.size from fun e => Nat.lt_irrefl _ (h.lt _ e))
  have hk8 : k ≤ 1000 := by omega
  generalize headL (numF x t (Nums.sum 0 l)) = hL2 at *
  have HD0 := Lib.hid (h.grown hb0)
  have HB0 := Lib.hid hb0
  obtain ⟨k0, k1, k2, _⟩ := cells3_of q0
  clear hbW hTw hFw hb0
  go_enter Tryz.func146, Tryz.ntmps146
  go_wp2_with fail
  generalize w.alloc (.cells #[.int .i64 x, .int .i64 t, .slice A 128 c] 161) = W0 at *
  refine hR.out.mono ?_
  rintro e w' ⟨rfl, rfl⟩
  go_wp2_with fail
  refine hE.out.mono ?_
  rintro e w1 ⟨v, rfl, gh, rfl, hgh, hrow, b1⟩
  have HD := Lib.hid ((HD0.out.grown b1).grown (w' := w1.drew) ⟨rfl, rfl, rfl, Nat.le_refl _, fun _ _ => rfl⟩)
  have HB1 := Lib.hid (HB0.out.trans (b1.mono (Nat.le_of_lt hz0)))
  have Q1 := Lib.hid ((b1.block w.heap.size hz0).trans q0)
  have HZ1 := Lib.hid (show w.heap.size < w1.drew.heap.size from Nat.lt_of_lt_of_le hz0 b1.size)
  have hA1 : Sh.Beside w1.drew (With F a) A l := ⟨(hA.1.below HB1.out).more HB1.out.size, hA.2⟩
  have HW := Lib.hid (write_jp HD.out.dv hT hTB hj (3 + 2 * k) (by omega) l (c := c) hl hA1 hL (by omega))
  have HROW := Lib.hid (show w1.drew.heap[gh]? = some (.cells (bts hL2).toArray 5 (0, 0)) from hrow)
  have HGH := Lib.hid (show w.heap.size ≤ gh from Nat.le_trans (Nat.le_of_lt hz0) hgh)
  have HLT := Lib.hid h.lt
  clear k0 k1 k2 q0 b1 hz0 hgh hrow hA1 hR hE HD0
  have j0 := fun (W' : World) (h : LogIs W' g a n ∧ W'.heap[w.heap.size]? = some (.cells #[.int .i64 x, .int .i64 t, .slice A 128 c] 161 (0, 0))) => h.1.c0
  have j2 := fun (W' : World) (h : LogIs W' g a n ∧ W'.heap[w.heap.size]? = some (.cells #[.int .i64 x, .int .i64 t, .slice A 128 c] 161 (0, 0))) => (cells3_of h.2).2.2.1
  go_wp2_with fail
  refine wp_region_held_drew (S := fun (W' : World) => LogIs W' g a n ∧ W'.heap[w.heap.size]? = some (.cells #[.int .i64 x, .int .i64 t, .slice A 128 c] 161 (0, 0))) (by kernel_rfl) ⟨HD.out.log, Q1.out⟩ (fun hHeld => ?_)
  refine wpAnyH_take (i := 0) (oi := ⟨some 25, _, _, _, _, _⟩) (v := ?_) rfl (by kernel_rfl) (by kernel_rfl) (by kernel_rfl) (fun _ _ _ h => h) (Or.inl ⟨by rfl, ?_⟩) (by assumption) ?_
  rotate_left
  · (intro w hSw; (try dsimp only at hSw); go_simp; first | done | with_reducible rfl)
  try simp only [Act.put, List.setIfInBounds_toArray, List.set_cons_zero, List.set_cons_succ]
  refine wpAnyH_take (i := 1) (oi := ⟨some 26, _, _, _, _, _⟩) (v := ?_) rfl (by kernel_rfl) (by kernel_rfl) (by kernel_rfl) (fun _ _ _ h => h) (Or.inl ⟨by rfl, ?_⟩) (by assumption) ?_
  rotate_left
  · (intro w hSw; (try dsimp only at hSw); go_simp; first | done | with_reducible rfl)
  try simp only [Act.put, List.setIfInBounds_toArray, List.set_cons_zero, List.set_cons_succ]
  refine wpAnyH_take (i := 2) (oi := ⟨some 27, _, _, _, _, _⟩) (v := ?_) rfl (by kernel_rfl) (by kernel_rfl) (by kernel_rfl) (fun _ _ _ h => h) (Or.inl ⟨by rfl, ?_⟩) (by assumption) ?_
  rotate_left
  · (intro w hSw; (try dsimp only at hSw); go_simp; first | done | with_reducible rfl)
  try simp only [Act.put, List.setIfInBounds_toArray, List.set_cons_zero, List.set_cons_succ]
  refine wpAnyH_take (i := 3) (oi := ⟨some 28, _, _, _, _, _⟩) (v := ?_) rfl (by kernel_rfl) (by kernel_rfl) (by kernel_rfl) (fun _ _ _ h => h) (Or.inl ⟨by rfl, ?_⟩) (by assumption) ?_
  rotate_left
  · (intro w hSw; (try dsimp only at hSw); go_simp; first | done | with_reducible rfl)
  try simp only [Act.put, List.setIfInBounds_toArray, List.set_cons_zero, List.set_cons_succ]
  refine wpAnyH_take (i := 4) (oi := ⟨some 29, _, _, _, _, _⟩) (v := ?_) rfl (by kernel_rfl) (by kernel_rfl) (by kernel_rfl) (fun _ _ _ h => h) (Or.inl ⟨by rfl, ?_⟩) (by assumption) ?_
  rotate_left
  · (intro w hSw; (try dsimp only at hSw); go_simp; first | done | with_reducible rfl)
  try simp only [Act.put, List.setIfInBounds_toArray, List.set_cons_zero, List.set_cons_succ]
  refine wpAnyH_take (i := 6) (oi := ⟨some 31, _, _, _, _, _⟩) (v := ?_) rfl (by kernel_rfl) (by kernel_rfl) (by kernel_rfl) (fun _ _ _ h => h) (Or.inl ⟨by rfl, ?_⟩) (by assumption) ?_
  rotate_left
  · (intro w hSw; (try dsimp only at hSw); go_simp; first | done | with_reducible rfl)
  try simp only [Act.put, List.setIfInBounds_toArray, List.set_cons_zero, List.set_cons_succ]
  refine wpAnyH_take (i := 7) (oi := ⟨some 32, _, _, _, _, _⟩) (v := ?_) rfl (by kernel_rfl) (by kernel_rfl) (by kernel_rfl) (fun _ _ _ h => h) (Or.inl ⟨by rfl, ?_⟩) (by assumption) ?_
  rotate_left
  · (intro w hSw; (try dsimp only at hSw); go_simp; first | done | with_reducible rfl)
  try simp only [Act.put, List.setIfInBounds_toArray, List.set_cons_zero, List.set_cons_succ]
  refine wpAnyH_ready (rs := [5]) (by kernel_rfl) (by simp) ?_
  refine AllReadyH.cons (o := ⟨some 30, _, _, _, _, _⟩) rfl (fun K hK => ?_) AllReadyH.nil
  go_simp
  refine (partAt_any k hk8 _).mono ?_
  rintro e w3 ⟨rfl, rfl⟩
  refine hK.out _ _ (hHeld) (fun hHeld => ?_)
  clear hK K
  try simp only [Act.put, List.setIfInBounds_toArray, List.set_cons_zero, List.set_cons_succ]
  refine wpAnyH_ready (rs := [8]) (by kernel_rfl) (by simp) ?_
  refine AllReadyH.cons (o := ⟨some 33, _, _, _, _, _⟩) rfl (fun K hK => ?_) AllReadyH.nil
  go_simp
  refine (HW.out).mono ?_
  rintro e w3 ⟨y, rfl, o1, S1, hW1, hG1⟩
  refine hK.out _ _ (⟨(HD.out.goes hG1).choose_spec.1.log, (goes_only hG1 w.heap.size HZ1.out HNB.out).trans Q1.out⟩) (fun hHeld => ?_)
  clear hK K
  try simp only [Act.put, List.setIfInBounds_toArray, List.set_cons_zero, List.set_cons_succ]
  refine wpAnyH_take (i := 9) (oi := ⟨some 10, _, _, _, _, _⟩) (v := ?_) rfl (by kernel_rfl) (by kernel_rfl) (by kernel_rfl) (fun _ _ _ h => h) (Or.inl ⟨by rfl, ?_⟩) (by assumption) ?_
  rotate_left
  · (intro w hSw; (try dsimp only at hSw); go_simp; first | done | with_reducible rfl)
  try simp only [Act.put, List.setIfInBounds_toArray, List.set_cons_zero, List.set_cons_succ]
  refine wpAnyH_done (by kernel_rfl) ?_ _
  obtain ⟨F1, L1, M1⟩ := HD.out.goes hG1
  have M0 := Lib.hid ((moves_below (F := F) (a := a) HB1.out).trans ((moves_drew (F := F) (a := a) (w := w1)).trans M1))
  have hnG : ¬ With F a gh := fun e => by have := HLT.out gh e; have := HGH.out; omega
  have hgl : gh < w1.drew.heap.size := (Array.getElem?_eq_some_iff.1 HROW.out).1
  have hrow3 := (M1.1.block gh hgl hnG).trans HROW.out
  have hnG1 : ¬ With F1 a gh := fun e => (M1.2 gh e).elim hnG (fun e => Nat.lt_irrefl _ (Nat.lt_of_lt_of_le hgl e))
  have hsz3 := M1.1.size
  clear hG1 HW HD M1
  by_cases hy : y = 0
  · subst hy
    have hd3 : Below w3.heap.size w3 w3.drew := ⟨rfl, rfl, rfl, Nat.le_refl _, fun _ _ => rfl⟩
    have HD2 := Lib.hid (L1.grown hd3)
    have hbr : Sh.Beside w3.drew (With F1 a) (some ⟨gh, 0, none⟩) hL2 := by
      refine ⟨⟨(bts_length hL2).trans HHL.out, fun _ => ⟨_, rfl, ?_, fun j u hu => ?_⟩⟩, fun x hx => by injection hx with hx; rw [← hx]; exact hnG1⟩
      · show gh < w3.heap.size
        exact (Array.getElem?_eq_some_iff.1 hrow3).1
      · have e : (⟨gh, 0, none⟩ : Addr).add j = ⟨gh, j, none⟩ := by unfold Addr.add; split <;> simp_all
        rw [e]
        show w3.cell? ⟨gh, j, none⟩ = some u
        rw [cell_of_row _ _ j _ _ _ hrow3, List.getElem?_toArray]
        exact hu
    have HW2 := Lib.hid (write_jp HD2.out.dv hT hTB hW1.jp (2 + 2 * k) (by rw [hW1.sectors]; omega) hL2 (c := 128) ⟨HHL.out, HHS.out⟩ hbr hW1.len (by omega))
    have i0 := fun (W' : World) (h : LogIs W' g a n) => h.c0
    clear hbr hrow3 hnG1 hnG hgl j0 j2 L1
    go_wp2_with fail
    refine wp_region_held_drew (S := fun (W' : World) => LogIs W' g a n) (by kernel_rfl) HD2.out.log (fun hHeld => ?_)
    refine wpAnyH_take (i := 0) (oi := ⟨some 37, _, _, _, _, _⟩) (v := ?_) rfl (by kernel_rfl) (by kernel_rfl) (by kernel_rfl) (fun _ _ _ h => h) (Or.inl ⟨by rfl, ?_⟩) (by assumption) ?_
    rotate_left
    · (intro w hSw; (try dsimp only at hSw); go_simp; first | done | with_reducible rfl)
    try simp only [Act.put, List.setIfInBounds_toArray, List.set_cons_zero, List.set_cons_succ]
    refine wpAnyH_take (i := 1) (oi := ⟨some 38, _, _, _, _, _⟩) (v := ?_) rfl (by kernel_rfl) (by kernel_rfl) (by kernel_rfl) (fun _ _ _ h => h) (Or.inl ⟨by rfl, ?_⟩) (by assumption) ?_
    rotate_left
    · (intro w hSw; (try dsimp only at hSw); go_simp; first | done | with_reducible rfl)
    try simp only [Act.put, List.setIfInBounds_toArray, List.set_cons_zero, List.set_cons_succ]
    refine wpAnyH_take (i := 2) (oi := ⟨some 39, _, _, _, _, _⟩) (v := ?_) rfl (by kernel_rfl) (by kernel_rfl) (by kernel_rfl) (fun _ _ _ h => h) (Or.inl ⟨by rfl, ?_⟩) (by assumption) ?_
    rotate_left
    · (intro w hSw; (try dsimp only at hSw); go_simp; first | done | with_reducible rfl)
    try simp only [Act.put, List.setIfInBounds_toArray, List.set_cons_zero, List.set_cons_succ]
    refine wpAnyH_take (i := 3) (oi := ⟨some 40, _, _, _, _, _⟩) (v := ?_) rfl (by kernel_rfl) (by kernel_rfl) (by kernel_rfl) (fun _ _ _ h => h) (Or.inl ⟨by rfl, ?_⟩) (by assumption) ?_
    rotate_left
    · (intro w hSw; (try dsimp only at hSw); go_simp; first | done | with_reducible rfl)
    try simp only [Act.put, List.setIfInBounds_toArray, List.set_cons_zero, List.set_cons_succ]
    refine wpAnyH_take (i := 4) (oi := ⟨some 41, _, _, _, _, _⟩) (v := ?_) rfl (by kernel_rfl) (by kernel_rfl) (by kernel_rfl) (fun _ _ _ h => h) (Or.inl ⟨by rfl, ?_⟩) (by assumption) ?_
    rotate_left
    · (intro w hSw; (try dsimp only at hSw); go_simp; first | done | with_reducible rfl)
    try simp only [Act.put, List.setIfInBounds_toArray, List.set_cons_zero, List.set_cons_succ]
    refine wpAnyH_take (i := 6) (oi := ⟨some 43, _, _, _, _, _⟩) (v := ?_) rfl (by kernel_rfl) (by kernel_rfl) (by kernel_rfl) (fun _ _ _ h => h) (Or.inl ⟨by rfl, ?_⟩) (by assumption) ?_
    rotate_left
    · (intro w hSw; (try dsimp only at hSw); go_simp; first | done | with_reducible rfl)
    try simp only [Act.put, List.setIfInBounds_toArray, List.set_cons_zero, List.set_cons_succ]
    refine wpAnyH_ready (rs := [5]) (by kernel_rfl) (by simp) ?_
    refine AllReadyH.cons (o := ⟨some 42, _, _, _, _, _⟩) rfl (fun K hK => ?_) AllReadyH.nil
    go_simp
    refine (headAt_any k hk8 _).mono ?_
    rintro e w5 ⟨rfl, rfl⟩
    refine hK.out _ _ (hHeld) (fun hHeld => ?_)
    clear hK K
    try simp only [Act.put, List.setIfInBounds_toArray, List.set_cons_zero, List.set_cons_succ]
    refine wpAnyH_ready (rs := [7]) (by kernel_rfl) (by simp) ?_
    refine AllReadyH.cons (o := ⟨some 44, _, _, _, _, _⟩) rfl (fun K hK => ?_) AllReadyH.nil
    go_simp
    refine (HW2.out).mono ?_
    rintro e w5 ⟨y2, rfl, o2, S2, hW2, hG2⟩
    refine hK.out _ _ ((HD2.out.goes hG2).choose_spec.1.log) (fun hHeld => ?_)
    clear hK K
    try simp only [Act.put, List.setIfInBounds_toArray, List.set_cons_zero, List.set_cons_succ]
    refine wpAnyH_take (i := 8) (oi := ⟨some 6, _, _, _, _, _⟩) (v := ?_) rfl (by kernel_rfl) (by kernel_rfl) (by kernel_rfl) (fun _ _ _ h => h) (Or.inl ⟨by rfl, ?_⟩) (by assumption) ?_
    rotate_left
    · (intro w hSw; (try dsimp only at hSw); go_simp; first | done | with_reducible rfl)
    try simp only [Act.put, List.setIfInBounds_toArray, List.set_cons_zero, List.set_cons_succ]
    refine wpAnyH_done (by kernel_rfl) ?_ _
    obtain ⟨F2, L2, M2⟩ := HD2.out.goes hG2
    have M3 := Lib.hid (M0.out.trans ((moves_drew (F := F1) (a := a) (w := w3)).trans M2))
    clear hG2 HW2 HD2 M2
    go_wp2_with fail
    go_ret
    exact ⟨y2, rfl, o2, S2, hW1.both hW2, F2, L2, M3.out⟩
  · have hq : (y != 0) = true := by simpa using hy
    have hq2 : (y == 0) = false := by simpa using hy
    go_wp2_with fail
    go_ret
    exact ⟨y, rfl, o1, S1, hW1.putted hy, F1, L1, M0.out⟩
end
end Go.Proofs.YtplbgjjacomceaaGreatDoor.U
namespace Go.Proofs.YtplbgjjacomceaaGreatDoor.U
open Go.RowKit Go.Maps

theorem pad_noughts {w : World} {g : Nat} (h : Pad w g []) : Reads w w.heap.size (some ⟨g, 0, none⟩) 128 (bts Sh.noughts) := by
  have h2 := h.more 128 (by decide)
  have := h2.reads
  exact this
theorem wp_make_noughts {o : Oper} {a : Act} {w : World} {K : Act → World → Prop} {Q : Exit → Act → World → Prop} (l c : Operand) (hop : o.op = Op.makeSlice 45 l c) (hl : a.eval l = .int .i64 128) (hc : a.eval c = .int .i64 128)
    (hK : ∀ w', Pad w' w.heap.size [] → Below w.heap.size w w' → K (a.put o.dst (.slice (some ⟨w.heap.size, 0, none⟩) 128 128)) w') : Oper.wp Tryz.prog o a w K Q := by
  obtain ⟨i, hi, hz, hsz, hby⟩ := info_parts info_u8
  have hrun := run_make (P := Tryz.prog) w 45 5 i (.int .u8 0) Tryz.underlying45 hi hz .i64 .i64 128 128 (by decide) (by decide) (by rw [hby]; decide) (by decide)
  rw [hsz] at hrun
  unfold Oper.wp
  simp only [execOp, hop, hl, hc, Sem.run_bind, hrun, Result.andThen_ok]
  exact hK _ pad_zero ((Below.refl _ _).alloc (Nat.le_refl _) _)
theorem clear_nil (k : Int) (w : World) : Calls Tryz.prog 106 #[.pointer none, .int .i64 k] w fun e w' => e = .returned (.int .i64 2) ∧ w = w' := by
  have hr := Lib.hid (refusal_nil k)
  go_enter Tryz.func106, Tryz.ntmps106
  go_wp2_with fail
  refine (hr.out _).mono ?_
  rintro e w' ⟨rfl, rfl⟩
  go_wp2
  go_ret
  exact ⟨rfl, rfl⟩
theorem clear_slot {w : World} {g a n : Nat} (h : LogIs w g a n) (k : Int) (hk : k < 0 ∨ (0 ≤ k ∧ (n : Int) ≤ k)) : Calls Tryz.prog 106 #[.pointer (some ⟨g, 0, none⟩), .int .i64 k] w fun e w' => e = .returned (.int .i64 1) ∧ w = w' := by
  have hr := Lib.hid (refusal_no h k hk)
  clear hk h
  go_enter Tryz.func106, Tryz.ntmps106
  go_wp2_with fail
  refine hr.out.mono ?_
  rintro e w' ⟨rfl, rfl⟩
  go_wp2
  go_ret
  exact ⟨rfl, rfl⟩
section
variable {B : Nat} {W w w' : World} {g a p d n : Nat} {o : Int} {S S' : Sh.Sf} {F : Nat → Prop} {P : Cs}
set_option maxRecDepth 20000 in
set_option maxHeartbeats 4000000 in
theorem clear_jp (h : Lg B W w g a p d o S F n) (hT : Tabs W) (hTB : max 1 2 + 1 ≤ B) (hj : Jp S d o P) (k : Nat) (hk : k < n) (hn : n ≤ 8) (hb : 2 + 2 * n ≤ blk S.sectors)
    {m : Nat} (hL : ∀ k ∈ S.disks, k.waits.length ≤ m) (hm : m ≤ 900000) :
    Calls Tryz.prog 106 #[.pointer (some ⟨g, 0, none⟩), .int .i64 k] w fun e w' => ∃ z : Int, e = .returned (.int .i64 z) ∧ ∃ o' S', Wrote S d (2 + 2 * k) Sh.noughts P m z o' S' ∧ LGoes B W w w' g a p d o' S' F n := by
  have hR := Lib.hid (refusal_yes h.log k hk)
  have hk8 : k ≤ 1000 := by omega
  have HD := Lib.hid (h.grown (w' := w.drew) ⟨rfl, rfl, rfl, Nat.le_refl _, fun _ _ => rfl⟩)
  have HW0 := Lib.hid (fun w4 (p4 : Pad w4 w.heap.size []) (b4 : Below w.heap.size w.drew w4) => (write_jp (HD.out.grown b4).dv hT hTB hj (2 + 2 * k) (by omega) Sh.noughts (A := some ⟨w.heap.size, 0, none⟩) (c := 128) Sh.noughts_sec ⟨pad_noughts p4, fun x hx => by injection hx with hx; rw [← hx]; exact fun e => Nat.lt_irrefl _ (h.lt _ e)⟩ hL (by omega)).mono (fun e w5 ⟨y, h1, o1, S1, h2, h3⟩ => (⟨y, h1, o1, S1, h2, by
    obtain ⟨F1, L1, M1⟩ := (HD.out.grown b4).goes h3
    exact ⟨F1, L1, (moves_drew (F := F) (a := a) (w := w)).trans ((moves_below b4).trans M1)⟩⟩ : ∃ y : Int, e = Ending.returned (.int .i64 y) ∧ ∃ o1 S1, Wrote S d (2 + 2 * k) Sh.noughts P m y o1 S1 ∧ LGoes B W w w5 g a p d o1 S1 F n)))
  have i0 := fun (W' : World) (h : LogIs W' g a n) => h.c0
  clear hb hk hj hT h
  go_enter Tryz.func106, Tryz.ntmps106
  go_wp2_with fail
  refine hR.out.mono ?_
  rintro e w' ⟨rfl, rfl⟩
  go_wp2_with fail
  refine wp_region_held_drew (S := fun (W' : World) => LogIs W' g a n) (by kernel_rfl) HD.out.log (fun hHeld => ?_)
  refine wpAnyH_take (i := 0) (oi := ⟨some 12, _, _, _, _, _⟩) (v := ?_) rfl (by kernel_rfl) (by kernel_rfl) (by kernel_rfl) (fun _ _ _ h => h) (Or.inl ⟨by rfl, ?_⟩) (by assumption) ?_
  rotate_left
  · (intro w hSw; (try dsimp only at hSw); go_simp; first | done | with_reducible rfl)
  try simp only [Act.put, List.setIfInBounds_toArray, List.set_cons_zero, List.set_cons_succ]
  refine wpAnyH_take (i := 1) (oi := ⟨some 13, _, _, _, _, _⟩) (v := ?_) rfl (by kernel_rfl) (by kernel_rfl) (by kernel_rfl) (fun _ _ _ h => h) (Or.inl ⟨by rfl, ?_⟩) (by assumption) ?_
  rotate_left
  · (intro w hSw; (try dsimp only at hSw); go_simp; first | done | with_reducible rfl)
  try simp only [Act.put, List.setIfInBounds_toArray, List.set_cons_zero, List.set_cons_succ]
  refine wpAnyH_take (i := 2) (oi := ⟨some 14, _, _, _, _, _⟩) (v := ?_) rfl (by kernel_rfl) (by kernel_rfl) (by kernel_rfl) (fun _ _ _ h => h) (Or.inl ⟨by rfl, ?_⟩) (by assumption) ?_
  rotate_left
  · (intro w hSw; (try dsimp only at hSw); go_simp; first | done | with_reducible rfl)
  try simp only [Act.put, List.setIfInBounds_toArray, List.set_cons_zero, List.set_cons_succ]
  refine wpAnyH_take (i := 3) (oi := ⟨some 15, _, _, _, _, _⟩) (v := ?_) rfl (by kernel_rfl) (by kernel_rfl) (by kernel_rfl) (fun _ _ _ h => h) (Or.inl ⟨by rfl, ?_⟩) (by assumption) ?_
  rotate_left
  · (intro w hSw; (try dsimp only at hSw); go_simp; first | done | with_reducible rfl)
  try simp only [Act.put, List.setIfInBounds_toArray, List.set_cons_zero, List.set_cons_succ]
  refine wpAnyH_take (i := 4) (oi := ⟨some 16, _, _, _, _, _⟩) (v := ?_) rfl (by kernel_rfl) (by kernel_rfl) (by kernel_rfl) (fun _ _ _ h => h) (Or.inl ⟨by rfl, ?_⟩) (by assumption) ?_
  rotate_left
  · (intro w hSw; (try dsimp only at hSw); go_simp; first | done | with_reducible rfl)
  try simp only [Act.put, List.setIfInBounds_toArray, List.set_cons_zero, List.set_cons_succ]
  refine wpAnyH_ready (rs := [5, 6]) (by kernel_rfl) (by simp) ?_
  refine AllReadyH.cons (o := ⟨some 17, _, _, _, _, _⟩) rfl (fun K hK => ?_) (AllReadyH.cons (o := ⟨some 18, _, _, _, _, _⟩) rfl (fun K hK => ?_) AllReadyH.nil)
  · go_simp
    refine (headAt_any k hk8 _).mono ?_
    rintro e w3 ⟨rfl, rfl⟩
    refine hK.out _ _ (hHeld) (fun hHeld => ?_)
    clear hK K
    try simp only [Act.put, List.setIfInBounds_toArray, List.set_cons_zero, List.set_cons_succ]
    refine wpAnyH_ready (rs := [6]) (by kernel_rfl) (by simp) ?_
    refine AllReadyH.cons (o := ⟨some 18, _, _, _, _, _⟩) rfl (fun K hK => ?_) AllReadyH.nil
    rw [if_pos (by rfl)]
    refine wp_make_noughts _ _ rfl rfl rfl (fun w4 p4 b4 => ?_)
    refine hK.out _ _ (hHeld.same (b4.block g hHeld.lt)) (fun hHeld => ?_)
    clear hK K
    try simp only [Act.put, List.setIfInBounds_toArray, List.set_cons_zero, List.set_cons_succ]
    have HW := Lib.hid (HW0.out w4 p4 b4)
    refine wpAnyH_ready (rs := [7]) (by kernel_rfl) (by simp) ?_
    refine AllReadyH.cons (o := ⟨some 19, _, _, _, _, _⟩) rfl (fun K hK => ?_) AllReadyH.nil
    go_simp
    refine (HW.out).mono ?_
    rintro e w5 ⟨y, rfl, o1, S1, hW1, G1⟩
    refine hK.out _ _ (G1.choose_spec.1.log) (fun hHeld => ?_)
    clear hK K
    try simp only [Act.put, List.setIfInBounds_toArray, List.set_cons_zero, List.set_cons_succ]
    refine wpAnyH_take (i := 8) (oi := ⟨some 4, _, _, _, _, _⟩) (v := ?_) rfl (by kernel_rfl) (by kernel_rfl) (by kernel_rfl) (fun _ _ _ h => h) (Or.inl ⟨by rfl, ?_⟩) (by assumption) ?_
    rotate_left
    · (intro w hSw; (try dsimp only at hSw); go_simp; first | done | with_reducible rfl)
    try simp only [Act.put, List.setIfInBounds_toArray, List.set_cons_zero, List.set_cons_succ]
    refine wpAnyH_done (by kernel_rfl) ?_ _
    obtain ⟨F1, L1, M1⟩ := G1
    clear HW
    go_wp2_with fail
    go_ret
    exact ⟨y, rfl, o1, S1, hW1, F1, L1, M1⟩
  · rw [if_pos (by rfl)]
    refine wp_make_noughts _ _ rfl rfl rfl (fun w4 p4 b4 => ?_)
    refine hK.out _ _ (hHeld.same (b4.block g hHeld.lt)) (fun hHeld => ?_)
    clear hK K
    try simp only [Act.put, List.setIfInBounds_toArray, List.set_cons_zero, List.set_cons_succ]
    refine wpAnyH_ready (rs := [5]) (by kernel_rfl) (by simp) ?_
    refine AllReadyH.cons (o := ⟨some 17, _, _, _, _, _⟩) rfl (fun K hK => ?_) AllReadyH.nil
    go_simp
    refine (headAt_any k hk8 _).mono ?_
    rintro e w3 ⟨rfl, rfl⟩
    refine hK.out _ _ (hHeld) (fun hHeld => ?_)
    clear hK K
    try simp only [Act.put, List.setIfInBounds_toArray, List.set_cons_zero, List.set_cons_succ]
    have HW := Lib.hid (HW0.out w4 p4 b4)
    refine wpAnyH_ready (rs := [7]) (by kernel_rfl) (by simp) ?_
    refine AllReadyH.cons (o := ⟨some 19, _, _, _, _, _⟩) rfl (fun K hK => ?_) AllReadyH.nil
    go_simp
    refine (HW.out).mono ?_
    rintro e w5 ⟨y, rfl, o1, S1, hW1, G1⟩
    refine hK.out _ _ (G1.choose_spec.1.log) (fun hHeld => ?_)
    clear hK K
    try simp only [Act.put, List.setIfInBounds_toArray, List.set_cons_zero, List.set_cons_succ]
    refine wpAnyH_take (i := 8) (oi := ⟨some 4, _, _, _, _, _⟩) (v := ?_) rfl (by kernel_rfl) (by kernel_rfl) (by kernel_rfl) (fun _ _ _ h => h) (Or.inl ⟨by rfl, ?_⟩) (by assumption) ?_
    rotate_left
    · (intro w hSw; (try dsimp only at hSw); go_simp; first | done | with_reducible rfl)
    try simp only [Act.put, List.setIfInBounds_toArray, List.set_cons_zero, List.set_cons_succ]
    refine wpAnyH_done (by kernel_rfl) ?_ _
    obtain ⟨F1, L1, M1⟩ := G1
    clear HW
    go_wp2_with fail
    go_ret
    exact ⟨y, rfl, o1, S1, hW1, F1, L1, M1⟩
end
end Go.Proofs.YtplbgjjacomceaaGreatDoor.U
namespace Go.Proofs.YtplbgjjacomceaaGreatDoor.U
open Go.RowKit Go.Maps

set_option maxRecDepth 20000 in
theorem isNoughts_any (ad : Addr) (c : Nat) (b : Sh.Bs) (w : World) (hr : Reads w w.heap.size (some ad) 128 (bts b)) :
    Calls Tryz.prog 165 #[.slice (some ad) 128 c] w fun e w' => e = .returned (.bool (decide (b = Sh.noughts))) ∧ w = w' := by
  have hl := hr.len
  have he := arr_eql w hl (show Sh.noughts.length = 128 from by simp [Sh.noughts])
  have hld := load_arr hr
  have hz := zero_bytes
  have hat := run_arrayAt ad c
  have hzn := zcB_ne
  rw [← zcB_bts] at he
  have hq : (b == Sh.noughts) = decide (b = Sh.noughts) := by rw [Bool.eq_iff_iff, beq_iff_eq, decide_eq_true_iff]
  rw [hq] at he
  generalize decide (b = Sh.noughts) = q at *
  clear hq hr hl
  generalize (bts b).toArray = X at *
  go_enter Tryz.func165, Tryz.ntmps165
  go_wp2_with (refine loadKnown (o := ⟨some 5, _, _, _, _, _⟩) (by rfl) 118 (.tmp 4) rfl ad rfl (.agg X) hld ?_)
  go_ret
  exact ⟨rfl, rfl⟩
set_option maxRecDepth 20000 in
theorem get_nil (k : Int) (w : World) : Calls Tryz.prog 159 #[.pointer none, .int .i64 k] w fun e w' => e = .returned (.tuple #[.agg #[.int .i64 0, .int .i64 0, .slice none 0 0], .int .i64 2]) ∧ Below w.heap.size w w' := by
  have hr := Lib.hid (refusal_nil k)
  have q0 := heap_alloc_new w (.cells #[.int .i64 0, .int .i64 0, .slice none 0 0] 161)
  have HLV := Lib.hid (load_rec q0)
  have HB := Lib.hid (show Below w.heap.size w (w.alloc (.cells #[.int .i64 0, .int .i64 0, .slice none 0 0] 161)) from (Below.refl _ _).alloc (Nat.le_refl _) _)
  clear q0
  go_enter Tryz.func159, Tryz.ntmps159
  go_wp2_with fail
  refine (hr.out _).mono ?_
  rintro e w' ⟨rfl, rfl⟩
  go_wp2_with fail
  refine bodyPost_ret (results_cell2 (g := w.heap.size) Tryz.results159 rfl HLV.out rfl) rfl ?_
  exact ⟨rfl, HB.out⟩
set_option maxRecDepth 20000 in
theorem get_slot {w : World} {g a n : Nat} (h : LogIs w g a n) (k : Int) (hk : k < 0 ∨ (0 ≤ k ∧ (n : Int) ≤ k)) : Calls Tryz.prog 159 #[.pointer (some ⟨g, 0, none⟩), .int .i64 k] w fun e w' => e = .returned (.tuple #[.agg #[.int .i64 0, .int .i64 0, .slice none 0 0], .int .i64 1]) ∧ Below w.heap.size w w' := by
  have q0 := heap_alloc_new w (.cells #[.int .i64 0, .int .i64 0, .slice none 0 0] 161)
  have HLV := Lib.hid (load_rec q0)
  have hb := (show Below w.heap.size w (w.alloc (.cells #[.int .i64 0, .int .i64 0, .slice none 0 0] 161)) from (Below.refl _ _).alloc (Nat.le_refl _) _)
  have hr := Lib.hid (refusal_no (h.same (hb.block g h.lt)) k hk)
  have HB := Lib.hid hb
  clear q0 hk h hb
  go_enter Tryz.func159, Tryz.ntmps159
  go_wp2_with fail
  refine hr.out.mono ?_
  rintro e w' ⟨rfl, rfl⟩
  go_wp2_with fail
  refine bodyPost_ret (results_cell2 (g := w.heap.size) Tryz.results159 rfl HLV.out rfl) rfl ?_
  exact ⟨rfl, HB.out⟩
/-- What a Get tells of a slot whose head and part are these blocks. -/
def GotIs (h l : Sh.Bs) (w : World) (e : Ending) (w' : World) : Prop :=
  (h = Sh.noughts ∧ e = .returned (.tuple #[.agg #[.int .i64 0, .int .i64 0, .slice none 0 0], .int .i64 7])) ∨
  (h ≠ Sh.noughts ∧ okD h l 128 = false ∧ e = .returned (.tuple #[.agg #[.int .i64 0, .int .i64 0, .slice none 0 0], .int .i64 8])) ∨
  (h ≠ Sh.noughts ∧ okD h l 128 = true ∧ ∃ A c, e = .returned (.tuple #[.agg #[.int .i64 (numAt h 0 : Nat), .int .i64 (numAt h 1 : Nat), .slice A 128 c], .int .i64 0]) ∧ w'.ownsRow w.heap.size 5 1 (.slice A 128 c) 128 (bts l))
/-- A shelf that was only read. -/
structure Read (S S' : Sh.Sf) : Prop where
  disks : S'.disks = S.disks
  sectors : S'.sectors = S.sectors
  off : S'.off = S.off
  left : S'.left = S.left
theorem read_looked (S : Sh.Sf) (d : Nat) : Read S (Looked S d) := ⟨looked_disks S d, looked_sectors S d, (looked_off S d).1, (looked_off S d).2⟩
theorem Read.trans {S S1 S2 : Sh.Sf} (h : Read S S1) (k : Read S1 S2) : Read S S2 := ⟨k.disks.trans h.disks, k.sectors.trans h.sectors, k.off.trans h.off, k.left.trans h.left⟩
theorem Read.dk {S S1 : Sh.Sf} (h : Read S S1) (d : Nat) : dk S1 d = dk S d := by unfold U.dk; rw [h.disks]
theorem Read.jp {S S1 : Sh.Sf} {d : Nat} {o : Int} {P : Cs} (h : Read S S1) (j : Jp S d o P) : Jp S1 d o P := by
  have hd := h.dk d
  refine ⟨⟨by rw [h.disks]; exact j.one.lt, by rw [hd]; exact j.one.alive, by rw [hd, h.sectors]; exact j.one.len⟩, by rw [hd, h.sectors]; exact j.safe, fun e => by rw [hd, h.sectors]; exact j.neat (h.off.symm.trans e)⟩
theorem Read.calm {S S1 : Sh.Sf} {d : Nat} (h : Read S S1) (c : Calm S d) : Calm S1 d :=
  ⟨by rw [h.disks]; exact c.lt, h.off.trans c.on, h.left.trans c.left, by rw [h.disks]; exact c.alive, by rw [h.disks, h.sectors]; exact c.len⟩
theorem Lg.over {B : Nat} {W w w' : World} {g a p d n q : Nat} {o : Int} {S : Sh.Sf} {F : Nat → Prop} (h : Lg B W w g a p d o S F n) (ho : Sh.Only (fun b => b = q) w w') (hn : ¬ With F a q) (hq : B ≤ q) (hg : g ≠ q) : Lg B W w' g a p d o S F n :=
  ⟨dv_over h.dv ho hn hq, h.log.same (ho.block g h.log.lt hg), h.apart, h.low⟩
theorem Read.refl (S : Sh.Sf) : Read S S := ⟨rfl, rfl, rfl, rfl⟩
section
variable {B : Nat} {W w w' : World} {g a p d n : Nat} {o : Int} {S S' : Sh.Sf} {F : Nat → Prop} {P : Cs}
set_option maxRecDepth 20000 in
set_option maxHeartbeats 4000000 in
theorem get_calm (h : Lg B W w g a p d o S F n) (hT : Tabs W) (hTB : max 1 2 + 1 ≤ B) (hFl : Flds W) (hFB : 4 + 1 ≤ B) (hc : Calm S d) (k : Nat) (hk : k < n) (hn : n ≤ 8) (hb : 2 + 2 * n ≤ blk S.sectors)
    (hg1 : goodAt S d (2 + 2 * k) = true) (hg2 : goodAt S d (3 + 2 * k) = true) :
    Calls Tryz.prog 159 #[.pointer (some ⟨g, 0, none⟩), .int .i64 k] w fun e w' => GotIs (V S d (dataOf (2 + 2 * k))) (V S d (dataOf (3 + 2 * k))) w e w' ∧ ∃ S', Read S S' ∧ Lg B W w' g a p d o S' F n ∧ Sh.Only F w w' := by
  have hb0 := (show Below w.heap.size w (w.alloc (.cells #[.int .i64 0, .int .i64 0, .slice none 0 0] 161)) from (Below.refl _ _).alloc (Nat.le_refl _) _)
  have hR := Lib.hid (refusal_yes (h.log.same (hb0.block g h.log.lt)) k hk)
  have q0 := heap_alloc_new w (.cells #[.int .i64 0, .int .i64 0, .slice none 0 0] 161)
  have hz0 : w.heap.size < (w.alloc (.cells #[.int .i64 0, .int .i64 0, .slice none 0 0] 161)).heap.size := by simp
  have HNB := Lib.hid (show ¬ With F a w.heap.size from fun e => Nat.lt_irrefl _ (h.lt _ e))
  have HNG := Lib.hid h.apart
  have hk8 : k ≤ 1000 := by omega
  have HLT := Lib.hid h.lt
  have hv1 := V_sec h.dv.on.shelf hc.lt (n := dataOf (2 + 2 * k)) (sum_of_lt (by omega)).1
  have hv2 := V_sec h.dv.on.shelf hc.lt (n := dataOf (3 + 2 * k)) (sum_of_lt (by omega)).1
  have HD := Lib.hid ((h.grown hb0).grown (w' := (w.alloc (.cells #[.int .i64 0, .int .i64 0, .slice none 0 0] 161)).drew) ⟨rfl, rfl, rfl, Nat.le_refl _, fun _ _ => rfl⟩)
  have HB0 := Lib.hid hb0
  have HRD := Lib.hid (read_calm HD.out.dv hT hTB hc (2 + 2 * k) (by omega) hg1)
  have HG2 := Lib.hid (show goodAt (Looked S d) d (3 + 2 * k) = true from by unfold goodAt; rw [looked_V, looked_V]; exact hg2)
  have HV2 := Lib.hid (show V (Looked S d) d (dataOf (3 + 2 * k)) = V S d (dataOf (3 + 2 * k)) from looked_V _ _ _ _)
  have hc1 := hc.looked d
  have HBK := Lib.hid (show 3 + 2 * k < blk (Looked S d).sectors by rw [looked_sectors]; omega)
  have RS1 := Lib.hid (read_looked S d)
  have RS2 := Lib.hid (read_looked (Looked S d) d)
  have HTw := Lib.hid (fun w' (hb : Below B W w') => hT.below hTB hb)
  have HFw := Lib.hid (fun w' (hb : Below B W w') => hFl.below hFB hb)
  have HSZ := Lib.hid h.dv.on.size
  have HLOG := Lib.hid h.log
  have HAP := Lib.hid h.apart
  have HLOW := Lib.hid h.low
  generalize V S d (dataOf (2 + 2 * k)) = hL at *
  generalize V S d (dataOf (3 + 2 * k)) = l at *
  clear hb0 hg1 hg2 h hb
  go_enter Tryz.func159, Tryz.ntmps159
  go_wp2_with fail
  generalize w.alloc (.cells #[.int .i64 0, .int .i64 0, .slice none 0 0] 161) = W0 at *
  refine hR.out.mono ?_
  rintro e w' ⟨rfl, rfl⟩
  have Q0 := Lib.hid q0
  have HZ1 := Lib.hid (show w.heap.size < W0.drew.heap.size from hz0)
  clear q0 hz0 hR
  have j0 := fun (W' : World) (h : LogIs W' g a n ∧ W'.heap[w.heap.size]? = some (.cells #[.int .i64 0, .int .i64 0, .slice none 0 0] 161 (0, 0))) => h.1.c0
  go_wp2_with fail
  refine wp_region_held_drew (S := fun (W' : World) => LogIs W' g a n ∧ W'.heap[w.heap.size]? = some (.cells #[.int .i64 0, .int .i64 0, .slice none 0 0] 161 (0, 0))) (by kernel_rfl) ⟨HD.out.log, Q0.out⟩ (fun hHeld => ?_)
  refine wpAnyH_take (i := 0) (oi := ⟨some 18, _, _, _, _, _⟩) (v := ?_) rfl (by kernel_rfl) (by kernel_rfl) (by kernel_rfl) (fun _ _ _ h => h) (Or.inl ⟨by rfl, ?_⟩) (by assumption) ?_
  rotate_left
  · (intro w hSw; (try dsimp only at hSw); go_simp; first | done | with_reducible rfl)
  try simp only [Act.put, List.setIfInBounds_toArray, List.set_cons_zero, List.set_cons_succ]
  refine wpAnyH_take (i := 1) (oi := ⟨some 19, _, _, _, _, _⟩) (v := ?_) rfl (by kernel_rfl) (by kernel_rfl) (by kernel_rfl) (fun _ _ _ h => h) (Or.inl ⟨by rfl, ?_⟩) (by assumption) ?_
  rotate_left
  · (intro w hSw; (try dsimp only at hSw); go_simp; first | done | with_reducible rfl)
  try simp only [Act.put, List.setIfInBounds_toArray, List.set_cons_zero, List.set_cons_succ]
  refine wpAnyH_take (i := 2) (oi := ⟨some 20, _, _, _, _, _⟩) (v := ?_) rfl (by kernel_rfl) (by kernel_rfl) (by kernel_rfl) (fun _ _ _ h => h) (Or.inl ⟨by rfl, ?_⟩) (by assumption) ?_
  rotate_left
  · (intro w hSw; (try dsimp only at hSw); go_simp; first | done | with_reducible rfl)
  try simp only [Act.put, List.setIfInBounds_toArray, List.set_cons_zero, List.set_cons_succ]
  refine wpAnyH_take (i := 3) (oi := ⟨some 21, _, _, _, _, _⟩) (v := ?_) rfl (by kernel_rfl) (by kernel_rfl) (by kernel_rfl) (fun _ _ _ h => h) (Or.inl ⟨by rfl, ?_⟩) (by assumption) ?_
  rotate_left
  · (intro w hSw; (try dsimp only at hSw); go_simp; first | done | with_reducible rfl)
  try simp only [Act.put, List.setIfInBounds_toArray, List.set_cons_zero, List.set_cons_succ]
  refine wpAnyH_take (i := 4) (oi := ⟨some 22, _, _, _, _, _⟩) (v := ?_) rfl (by kernel_rfl) (by kernel_rfl) (by kernel_rfl) (fun _ _ _ h => h) (Or.inl ⟨by rfl, ?_⟩) (by assumption) ?_
  rotate_left
  · (intro w hSw; (try dsimp only at hSw); go_simp; first | done | with_reducible rfl)
  try simp only [Act.put, List.setIfInBounds_toArray, List.set_cons_zero, List.set_cons_succ]
  refine wpAnyH_ready (rs := [5]) (by kernel_rfl) (by simp) ?_
  refine AllReadyH.cons (o := ⟨some 23, _, _, _, _, _⟩) rfl (fun K hK => ?_) AllReadyH.nil
  go_simp
  refine (headAt_any k hk8 _).mono ?_
  rintro e w3 ⟨rfl, rfl⟩
  refine hK.out _ _ (hHeld) (fun hHeld => ?_)
  clear hK K
  try simp only [Act.put, List.setIfInBounds_toArray, List.set_cons_zero, List.set_cons_succ]
  refine wpAnyH_ready (rs := [6]) (by kernel_rfl) (by simp) ?_
  refine AllReadyH.cons (o := ⟨some 24, _, _, _, _, _⟩) rfl (fun K hK => ?_) AllReadyH.nil
  go_simp
  refine (HRD.out).mono ?_
  rintro e w3 ⟨A3, c3, rfl, y3, D3, O3⟩
  refine hK.out _ _ (⟨hHeld.1.same (O3.block g hHeld.1.lt (fun e => HNG.out (.inl e))), (O3.block w.heap.size HZ1.out (fun e => HNB.out (.inl e))).trans hHeld.2⟩) (fun hHeld => ?_)
  clear hK K
  try simp only [Act.put, List.setIfInBounds_toArray, List.set_cons_zero, List.set_cons_succ]
  refine wpAnyH_take (i := 7) (oi := ⟨some 17, _, _, _, _, _⟩) (v := ?_) rfl (by kernel_rfl) (by kernel_rfl) (by kernel_rfl) (fun _ _ _ h => h) (Or.inl ⟨by rfl, ?_⟩) (by assumption) ?_
  rotate_left
  · (intro w hSw; (try dsimp only at hSw); go_simp; first | done | with_reducible rfl)
  try simp only [Act.put, List.setIfInBounds_toArray, List.set_cons_zero, List.set_cons_succ]
  refine wpAnyH_take (i := 8) (oi := ⟨some 25, _, _, _, _, _⟩) (v := ?_) rfl (by kernel_rfl) (by kernel_rfl) (by kernel_rfl) (fun _ _ _ h => h) (Or.inl ⟨by rfl, ?_⟩) (by assumption) ?_
  rotate_left
  · (intro w hSw; (try dsimp only at hSw); go_simp; first | done | with_reducible rfl)
  try simp only [Act.put, List.setIfInBounds_toArray, List.set_cons_zero, List.set_cons_succ]
  refine wpAnyH_take (i := 9) (oi := ⟨some 26, _, _, _, _, _⟩) (v := ?_) rfl (by kernel_rfl) (by kernel_rfl) (by kernel_rfl) (fun _ _ _ h => h) (Or.inl ⟨by rfl, ?_⟩) (by assumption) ?_
  rotate_left
  · (intro w hSw; (try dsimp only at hSw); go_simp; first | done | with_reducible rfl)
  try simp only [Act.put, List.setIfInBounds_toArray, List.set_cons_zero, List.set_cons_succ]
  refine wpAnyH_take (i := 10) (oi := ⟨some 7, _, _, _, _, _⟩) (v := ?_) rfl (by kernel_rfl) (by kernel_rfl) (by kernel_rfl) (fun _ _ _ h => h) (Or.inl ⟨by rfl, ?_⟩) (by assumption) ?_
  rotate_left
  · (intro w hSw; (try dsimp only at hSw); go_simp; first | done | with_reducible rfl)
  try simp only [Act.put, List.setIfInBounds_toArray, List.set_cons_zero, List.set_cons_succ]
  refine wpAnyH_take (i := 11) (oi := ⟨some 8, _, _, _, _, _⟩) (v := ?_) rfl (by kernel_rfl) (by kernel_rfl) (by kernel_rfl) (fun _ _ _ h => h) (Or.inl ⟨by rfl, ?_⟩) (by assumption) ?_
  rotate_left
  · (intro w hSw; (try dsimp only at hSw); go_simp; first | done | with_reducible rfl)
  try simp only [Act.put, List.setIfInBounds_toArray, List.set_cons_zero, List.set_cons_succ]
  refine wpAnyH_done (by kernel_rfl) ?_ _
  obtain ⟨ad3, rfl⟩ := bytes_some y3
  have L3 := Lib.hid (show Lg B W w3 g a p d o (Looked S d) F n from ⟨D3, hHeld.1, HAP.out, HLOW.out⟩)
  have R3 := Lib.hid hHeld.2
  have Y3 := Lib.hid y3
  have O03 := Lib.hid ((only_below F HB0.out).trans (show Sh.Only F W0 w3 from ⟨O3.os, O3.tape, O3.output, O3.size, O3.block⟩) (fun b hb => .inl hb))
  have HZ3 := Lib.hid (show w.heap.size < w3.drew.heap.size from Nat.lt_of_lt_of_le HZ1.out O3.size)
  have HIS := Lib.hid (isNoughts_any ad3 c3 hL w3 y3.1)
  have hgr : g ≠ w.heap.size := Nat.ne_of_lt HLOG.out.lt
  clear D3 O3 y3 hHeld j0 HRD HD Q0 HB0
  by_cases hz : hL = Sh.noughts
  · rw [decide_eq_true hz] at HIS
    have q3 := R3.out
    obtain ⟨k0, k1, k2, f⟩ := cells3_of q3
    have f0 := f 0
    have f1 := f 1
    have f2 := f 2
    have s0 := store3_0 q3 (.int .i64 0) (by rfl)
    have O4 := put3_only w3 w.heap.size (.int .i64 0) (.int .i64 0) (.slice none 0 0)
    have HLV := Lib.hid (load_rec (put3_row q3 (.int .i64 0) (.int .i64 0) (.slice none 0 0)))
    have L4 := Lib.hid (L3.out.over O4 HNB.out HSZ.out hgr)
    have O5 := Lib.hid (O03.out.trans O4 (fun b hb => .inr (Nat.le_of_eq hb.symm)))
    have HZQ := Lib.hid hz
    clear q3 f O4 hz hgr
    go_wp2_with (go_at_call 165; refine HIS.out.mono ?_; rintro e w' ⟨rfl, rfl⟩)
    refine bodyPost_ret (results_cell2 (g := w.heap.size) Tryz.results159 rfl HLV.out rfl) rfl ?_
    exact ⟨.inl ⟨HZQ.out, rfl⟩, _, RS1.out, L4.out, O5.out⟩
  · rw [decide_eq_false hz] at HIS
    have HZQ := Lib.hid hz
    have hd3 : Below w3.heap.size w3 w3.drew := ⟨rfl, rfl, rfl, Nat.le_refl _, fun _ _ => rfl⟩
    have HRD2 := Lib.hid (read_calm (L3.out.grown hd3).dv hT hTB hc1 (3 + 2 * k) HBK.out HG2.out)
    rw [HV2.out] at HRD2
    have j0 := fun (W' : World) (h : LogIs W' g a n ∧ W'.heap[w.heap.size]? = some (.cells #[.int .i64 0, .int .i64 0, .slice none 0 0] 161 (0, 0))) => h.1.c0
    clear hz
    go_wp2_with (go_at_call 165; refine HIS.out.mono ?_; rintro e w' ⟨rfl, rfl⟩)
    refine wp_region_held_drew (S := fun (W' : World) => LogIs W' g a n ∧ W'.heap[w.heap.size]? = some (.cells #[.int .i64 0, .int .i64 0, .slice none 0 0] 161 (0, 0))) (by kernel_rfl) ⟨L3.out.log, R3.out⟩ (fun hHeld => ?_)
    refine wpAnyH_take (i := 0) (oi := ⟨some 37, _, _, _, _, _⟩) (v := ?_) rfl (by kernel_rfl) (by kernel_rfl) (by kernel_rfl) (fun _ _ _ h => h) (Or.inl ⟨by rfl, ?_⟩) (by assumption) ?_
    rotate_left
    · (intro w hSw; (try dsimp only at hSw); go_simp; first | done | with_reducible rfl)
    try simp only [Act.put, List.setIfInBounds_toArray, List.set_cons_zero, List.set_cons_succ]
    refine wpAnyH_take (i := 1) (oi := ⟨some 38, _, _, _, _, _⟩) (v := ?_) rfl (by kernel_rfl) (by kernel_rfl) (by kernel_rfl) (fun _ _ _ h => h) (Or.inl ⟨by rfl, ?_⟩) (by assumption) ?_
    rotate_left
    · (intro w hSw; (try dsimp only at hSw); go_simp; first | done | with_reducible rfl)
    try simp only [Act.put, List.setIfInBounds_toArray, List.set_cons_zero, List.set_cons_succ]
    refine wpAnyH_take (i := 2) (oi := ⟨some 39, _, _, _, _, _⟩) (v := ?_) rfl (by kernel_rfl) (by kernel_rfl) (by kernel_rfl) (fun _ _ _ h => h) (Or.inl ⟨by rfl, ?_⟩) (by assumption) ?_
    rotate_left
    · (intro w hSw; (try dsimp only at hSw); go_simp; first | done | with_reducible rfl)
    try simp only [Act.put, List.setIfInBounds_toArray, List.set_cons_zero, List.set_cons_succ]
    refine wpAnyH_take (i := 3) (oi := ⟨some 40, _, _, _, _, _⟩) (v := ?_) rfl (by kernel_rfl) (by kernel_rfl) (by kernel_rfl) (fun _ _ _ h => h) (Or.inl ⟨by rfl, ?_⟩) (by assumption) ?_
    rotate_left
    · (intro w hSw; (try dsimp only at hSw); go_simp; first | done | with_reducible rfl)
    try simp only [Act.put, List.setIfInBounds_toArray, List.set_cons_zero, List.set_cons_succ]
    refine wpAnyH_take (i := 4) (oi := ⟨some 41, _, _, _, _, _⟩) (v := ?_) rfl (by kernel_rfl) (by kernel_rfl) (by kernel_rfl) (fun _ _ _ h => h) (Or.inl ⟨by rfl, ?_⟩) (by assumption) ?_
    rotate_left
    · (intro w hSw; (try dsimp only at hSw); go_simp; first | done | with_reducible rfl)
    try simp only [Act.put, List.setIfInBounds_toArray, List.set_cons_zero, List.set_cons_succ]
    refine wpAnyH_ready (rs := [5]) (by kernel_rfl) (by simp) ?_
    refine AllReadyH.cons (o := ⟨some 42, _, _, _, _, _⟩) rfl (fun K hK => ?_) AllReadyH.nil
    go_simp
    refine (partAt_any k hk8 _).mono ?_
    rintro e w5 ⟨rfl, rfl⟩
    refine hK.out _ _ (hHeld) (fun hHeld => ?_)
    clear hK K
    try simp only [Act.put, List.setIfInBounds_toArray, List.set_cons_zero, List.set_cons_succ]
    refine wpAnyH_ready (rs := [6]) (by kernel_rfl) (by simp) ?_
    refine AllReadyH.cons (o := ⟨some 43, _, _, _, _, _⟩) rfl (fun K hK => ?_) AllReadyH.nil
    go_simp
    refine (HRD2.out).mono ?_
    rintro e w5 ⟨A5, c5, rfl, y5, D5, O5⟩
    refine hK.out _ _ (⟨hHeld.1.same (O5.block g hHeld.1.lt (fun e => HNG.out (.inl e))), (O5.block w.heap.size HZ3.out (fun e => HNB.out (.inl e))).trans hHeld.2⟩) (fun hHeld => ?_)
    clear hK K
    try simp only [Act.put, List.setIfInBounds_toArray, List.set_cons_zero, List.set_cons_succ]
    refine wpAnyH_take (i := 7) (oi := ⟨some 36, _, _, _, _, _⟩) (v := ?_) rfl (by kernel_rfl) (by kernel_rfl) (by kernel_rfl) (fun _ _ _ h => h) (Or.inl ⟨by rfl, ?_⟩) (by assumption) ?_
    rotate_left
    · (intro w hSw; (try dsimp only at hSw); go_simp; first | done | with_reducible rfl)
    try simp only [Act.put, List.setIfInBounds_toArray, List.set_cons_zero, List.set_cons_succ]
    refine wpAnyH_take (i := 8) (oi := ⟨some 44, _, _, _, _, _⟩) (v := ?_) rfl (by kernel_rfl) (by kernel_rfl) (by kernel_rfl) (fun _ _ _ h => h) (Or.inl ⟨by rfl, ?_⟩) (by assumption) ?_
    rotate_left
    · (intro w hSw; (try dsimp only at hSw); go_simp; first | done | with_reducible rfl)
    try simp only [Act.put, List.setIfInBounds_toArray, List.set_cons_zero, List.set_cons_succ]
    refine wpAnyH_take (i := 9) (oi := ⟨some 45, _, _, _, _, _⟩) (v := ?_) rfl (by kernel_rfl) (by kernel_rfl) (by kernel_rfl) (fun _ _ _ h => h) (Or.inl ⟨by rfl, ?_⟩) (by assumption) ?_
    rotate_left
    · (intro w hSw; (try dsimp only at hSw); go_simp; first | done | with_reducible rfl)
    try simp only [Act.put, List.setIfInBounds_toArray, List.set_cons_zero, List.set_cons_succ]
    refine wpAnyH_take (i := 10) (oi := ⟨some 9, _, _, _, _, _⟩) (v := ?_) rfl (by kernel_rfl) (by kernel_rfl) (by kernel_rfl) (fun _ _ _ h => h) (Or.inl ⟨by rfl, ?_⟩) (by assumption) ?_
    rotate_left
    · (intro w hSw; (try dsimp only at hSw); go_simp; first | done | with_reducible rfl)
    try simp only [Act.put, List.setIfInBounds_toArray, List.set_cons_zero, List.set_cons_succ]
    refine wpAnyH_take (i := 11) (oi := ⟨some 8, _, _, _, _, _⟩) (v := ?_) rfl (by kernel_rfl) (by kernel_rfl) (by kernel_rfl) (fun _ _ _ h => h) (Or.inl ⟨by rfl, ?_⟩) (by assumption) ?_
    rotate_left
    · (intro w hSw; (try dsimp only at hSw); go_simp; first | done | with_reducible rfl)
    try simp only [Act.put, List.setIfInBounds_toArray, List.set_cons_zero, List.set_cons_succ]
    refine wpAnyH_done (by kernel_rfl) ?_ _
    obtain ⟨ad5, rfl⟩ := bytes_some y5
    have L5 := Lib.hid (show Lg B W w5 g a p d o (Looked (Looked S d) d) F n from ⟨D5, hHeld.1, HAP.out, HLOW.out⟩)
    have q5 := hHeld.2
    have hF3 : ∀ x, some ad3 = some x → ¬ F x.block := fun x hx e => by
      have h1 := (Y3.out.2 x hx).1
      have h2 := HLT.out _ (.inl e)
      have h3 := HZ1.out
      omega
    have y3 := bytes_only (show Sh.Bytes W0.drew w3.drew (some ad3) hL from Y3.out) hF3 O5
    have O05 := O03.out.trans (show Sh.Only F w3 w5 from ⟨O5.os, O5.tape, O5.output, O5.size, O5.block⟩) (fun b hb => .inl hb)
    have HZ5 := Lib.hid (show w.heap.size < w5.heap.size from Nat.lt_of_lt_of_le HZ3.out O5.size)
    have hBW := D5.on.bel
    have HDEC := Lib.hid (decode_any (some ad3) (some ad5) 128 c3 128 c5 hL l w5 hv1.2 hv2.2 y3.1 y5.1 (by decide) (by decide) (HTw.out w5 hBW) (HFw.out w5 hBW))
    have RS := Lib.hid (RS1.out.trans RS2.out)
    have Q5 := Lib.hid q5
    have O5' := Lib.hid O05
    clear D5 O5 y5 y3 hHeld j0 HRD2 hF3 hBW q5 O05
    go_wp2_with fail
    refine HDEC.out.mono ?_
    rintro e w6 (⟨hok, rfl, b6⟩ | ⟨hok, v, rfl, own6, b6⟩)
    · have q6 := (b6.block w.heap.size HZ5.out).trans Q5.out
      obtain ⟨k0, k1, k2, f⟩ := cells3_of q6
      have f0 := f 0
      have f1 := f 1
      have f2 := f 2
      have s0 := store3_0 q6 (.int .i64 0) (by rfl)
      have O7 := put3_only w6 w.heap.size (.int .i64 0) (.int .i64 0) (.slice none 0 0)
      have HLV := Lib.hid (load_rec (put3_row q6 (.int .i64 0) (.int .i64 0) (.slice none 0 0)))
      have L7 := Lib.hid ((L5.out.grown b6).over O7 HNB.out HSZ.out hgr)
      have O8 := Lib.hid ((O5'.out.trans (only_below F b6) (fun b hb => .inl hb)).trans O7 (fun b hb => .inr (Nat.le_of_eq hb.symm)))
      have HOK := Lib.hid hok
      clear q6 f O7 hok b6 hgr
      go_wp2_with fail
      refine bodyPost_ret (results_cell2 (g := w.heap.size) Tryz.results159 rfl HLV.out rfl) rfl ?_
      exact ⟨.inr (.inl ⟨HZQ.out, HOK.out, rfl⟩), _, RS.out, L7.out, O8.out⟩
    · have q6 := (b6.block w.heap.size HZ5.out).trans Q5.out
      obtain ⟨A6, c6, rfl, _, _, _⟩ := own_shape own6
      obtain ⟨k0, k1, k2, f⟩ := cells3_of q6
      have f0 := f 0
      have f1 := f 1
      have f2 := f 2
      have s0 := store3_0 q6 (.int .i64 ((numAt hL 0 : Nat) : Int)) (by rfl)
      have O7 := put3_only w6 w.heap.size (.int .i64 ((numAt hL 0 : Nat) : Int)) (.int .i64 ((numAt hL 1 : Nat) : Int)) (.slice A6 128 c6)
      have HLV := Lib.hid (load_rec (put3_row q6 (.int .i64 ((numAt hL 0 : Nat) : Int)) (.int .i64 ((numAt hL 1 : Nat) : Int)) (.slice A6 128 c6)))
      have L7 := Lib.hid ((L5.out.grown b6).over O7 HNB.out HSZ.out hgr)
      have O8 := Lib.hid ((O5'.out.trans (only_below F b6) (fun b hb => .inl hb)).trans O7 (fun b hb => .inr (Nat.le_of_eq hb.symm)))
      have OWN := Lib.hid (own_low (Sh.same_row own6 (fun x hx => O7.block x ((own6.lt x hx).2) (by have := (own6.lt x hx).1; have := HZ5.out; omega))) (Nat.le_of_lt HZ5.out))
      have HOK := Lib.hid hok
      generalize hx0 : numAt hL 0 = x0 at *
      generalize hx1 : numAt hL 1 = x1 at *
      have HX0 := Lib.hid hx0
      have HX1 := Lib.hid hx1
      clear q6 f O7 hok b6 own6 hx0 hx1 hgr
      go_wp2_with fail
      refine bodyPost_ret (results_cell2 (g := w.heap.size) Tryz.results159 rfl HLV.out rfl) rfl ?_
      exact ⟨.inr (.inr ⟨HZQ.out, HOK.out, A6, c6, by rw [HX0.out, HX1.out]; rfl, OWN.out⟩), _, RS.out, L7.out, O8.out⟩
end
end Go.Proofs.YtplbgjjacomceaaGreatDoor.U
