/-
  The contracts of Corrupt: what it refuses, what it says of a sector that waits, and what is left behind one that is done.
  Conditions: the shelf lies in memory.
-/
import Derived.Test.YtbkcdomapdflaaaIk
namespace Go.Proofs.Ytbkcdomapdflaaa.Sh
open Go.RowKit Go.Maps

/-- A sector of which a byte was turned. -/
def turnB (b : Bs) (i x : Nat) : Bs := b.set i (b.getD i 0 ^^^ x)
def Dk.turn (k : Dk) (n i x : Nat) : Dk := { k with sure := k.sure.set n (turnB (k.sure.getD n []) i x) }
def Sf.doCorrupt (S : Sf) (d n i x : Nat) : Sf := { S with disks := S.disks.set d ((S.disks.getD d default).turn n i x) }
theorem turnB_sec {b : Bs} (h : Sec b) {i x : Nat} (hx : x < 256) : Sec (turnB b i x) := by
  refine ⟨by unfold turnB; rw [List.length_set]; exact h.1, fun y hy => ?_⟩
  rcases List.mem_or_eq_of_mem_set hy with hy | rfl
  · exact h.2 y hy
  · exact Nat.xor_lt_two_pow (n := 8) (h.2.get i) hx
theorem corrupt_refused (w : World) (p : Nat) (d n i : Int) (x : Nat) {S : Sf} {F : Nat → Prop} (h : Shelf w p S F) (hno : ¬ hasS S d n ∨ i < 0 ∨ 127 < i) :
    Calls Try.prog 33 #[.pointer (some ⟨p, 0, none⟩), .int .i64 d, .int .i64 n, .int .i64 i, .int .u8 x] w fun e w' => e = .returned (.int .i64 1) ∧ w = w' := by
  obtain ⟨D, gs, h⟩ := h
  by_cases hs : hasS S d n
  · have hs2 := hs
    obtain ⟨a1, a2, a3, a4⟩ := hs
    obtain ⟨d, rfl⟩ : ∃ m : Nat, d = (m : Int) := ⟨d.toNat, by omega⟩
    obtain ⟨n, rfl⟩ : ∃ m : Nat, n = (m : Int) := ⟨n.toNat, by omega⟩
    have hc := Lib.hid (hasSector_yes h d n (by omega) (by omega))
    have hi : i < 0 ∨ (0 ≤ i ∧ 128 ≤ i) := by
      rcases hno with e | e
      · exact absurd hs2 e
      · omega
    clear h hno hs2 a1 a2 a3 a4
    rcases hi with hi | ⟨hi0, hi⟩
    · go_enter Try.func33, Try.ntmps33
      go_wp2_with (go_at_call 21; refine hc.out.mono ?_; rintro e w' ⟨rfl, rfl⟩)
      go_ret
      exact ⟨rfl, rfl⟩
    · have hq : decide (i < 0) = false := by simpa using hi0
      go_enter Try.func33, Try.ntmps33
      go_wp2_with (go_at_call 21; refine hc.out.mono ?_; rintro e w' ⟨rfl, rfl⟩)
      go_ret
      exact ⟨rfl, rfl⟩
  · have hc := Lib.hid (hasSector_no h d n hs)
    clear h hno hs
    go_enter Try.func33, Try.ntmps33
    go_wp2_with (go_at_call 21; refine hc.out.mono ?_; rintro e w' ⟨rfl, rfl⟩)
    go_ret
    exact ⟨rfl, rfl⟩
set_option maxRecDepth 20000 in
theorem corrupt_waits (w : World) (p d n i : Nat) (x : Nat) {S : Sf} {F : Nat → Prop} (h : Shelf w p S F) (hd : d < S.disks.length) (hn : n < S.sectors) (hi : i < 128) (hw : (lastOf (S.disks.getD d default).waits n).isSome = true) :
    Calls Try.prog 33 #[.pointer (some ⟨p, 0, none⟩), .int .i64 d, .int .i64 n, .int .i64 i, .int .u8 x] w fun e w' => e = .returned (.int .i64 9) ∧ w = w' := by
  obtain ⟨D, gs, h⟩ := h
  have hc := Lib.hid (hasSector_yes h d n hd hn)
  have c2 := h.c2
  have hm := h.most
  have hsM := h.secM
  have m2 : w.cell? ⟨D, d * 4 + 2, none⟩ = some (.map (some (gs d).m)) := h.dc hd (by decide)
  obtain ⟨Dm, hown, hf⟩ := (h.diskOf hd).map
  have hh : Maps.has Dm (.int .i64 (n : Int)) = true := by rw [(hf n).1]; exact hw
  have hkey := keyInt n (by omega)
  have t0 : decide ((i : Int) < 0) = false := by simp
  have t1 : decide ((i : Int) ≥ 128) = false := by simp; omega
  clear h hf hw
  generalize (S.disks.getD d default).waits.length = L at *
  generalize S.disks.length = k at *
  go_enter Try.func33, Try.ntmps33
  go_wp2_with (first
    | (go_at_call 21; refine hc.out.mono ?_; rintro e w' ⟨rfl, rfl⟩)
    | (at_lookup; refine wpList_lookup_own_ok_int _ rfl _ _ 51 rfl 3 3 .i64 lawInt Try.underlying51 Try.underlying3 (zeroInt _) (gs d).m L Dm rfl hown _ _ rfl hkey ?_; intro c hat hwc; clear hat hwc)
    | go_in)
  go_ret
  exact ⟨rfl, rfl⟩
theorem getD_memB {l : List Bs} {n : Nat} (h : n < l.length) : l.getD n [] ∈ l := by
  rw [List.getD, List.getElem?_eq_getElem h]; exact List.getElem_mem h
theorem sv_at {l : List Bs} {n : Nat} (h : n < l.length) : (l.map sv)[n]? = some (sv (l.getD n [])) := by
  rw [List.getElem?_map, List.getD, List.getElem?_eq_getElem h]; rfl
theorem map_set_sv (l : List Bs) (n : Nat) (b : Bs) : (l.map sv).set n (sv b) = (l.set n b).map sv := by rw [List.map_set]
/-- A sector was turned. -/
theorem corrupted {w w2 : World} {p D : Nat} {S : Sf} {F : Nat → Prop} {gs : Nat → Gh} (h : ShelfIs w p S F D gs) {d n i x gb cap : Nat} (hd : d < S.disks.length) (hn : n < S.sectors) (hx : x < 256) (hv : (gs d).s = .slice (some ⟨gb, 0, none⟩) S.sectors cap)
    (hO : Only (fun _ => False) w w2) : Left F w p (S.doCorrupt d n i x) (w2.setCell ⟨gb, n, none⟩ (sv (turnB ((S.disks.getD d default).sure.getD n []) i x))) := by
  have hdk := h.diskOf hd
  have hgbhas : (gs d).has gb := .inl (by rw [hv]; rfl)
  have hgbF : F gb := h.inF.2.2 d gb hd hgbhas
  have hgbp : gb ≠ p := by rintro rfl; exact h.np hd hgbhas
  have hgbD : gb ≠ D := by rintro rfl; exact h.nD hd hgbhas
  have hk2 : ∀ b, F b → w2.heap[b]? = w.heap[b]? := fun b hb => hO.block b (h.ltF b hb) (fun e => e)
  have hdk2 : DiskIs w2 S.sectors (gs d) (S.disks.getD d default) := hdk.same fun b hb => hk2 b (h.inF.2.2 d b hd hb)
  have hsec : Sec ((S.disks.getD d default).sure.getD n []) := hdk.secs _ (getD_memB (by rw [hdk.len]; exact hn))
  have hO2 : Only F w (w2.setCell ⟨gb, n, none⟩ (sv (turnB ((S.disks.getD d default).sure.getD n []) i x))) := (hO.mono (fun _ e => e.elim)).setCell (.inl hgbF) _
  have hs0 : w2.ownsRow 0 9 1 (.slice (some ⟨gb, 0, none⟩) S.sectors cap) S.sectors ((S.disks.getD d default).sure.map sv) := by rw [← hv]; exact hdk2.sure
  have hst := (hs0.stored n (sv (turnB ((S.disks.getD d default).sure.getD n []) i x))).1
  rw [map_set_sv] at hst
  have ht := h.turned (w' := w2.setCell ⟨gb, n, none⟩ (sv (turnB ((S.disks.getD d default).sure.getD n []) i x))) hd (gs d) ((S.disks.getD d default).turn n i x) S.off S.left S.count h.left ?_ ?_ ?_ ?_ hO2.size (fun b hb => .inl hb)
  · refine ⟨_, ⟨D, _, ht⟩, hO2, ?_⟩
    rintro b (hb | hb)
    · exact .inl hb
    · exact .inl (h.inF.2.2 d b hd hb)
  · exact (heap_set_other _ _ _ (Ne.symm hgbp)).trans ((hk2 p h.inF.1).trans h.root)
  · refine same_row (w := w) ?_ fun b hb => by
      injection hb with hb
      subst hb
      exact (heap_set_other _ _ _ (Ne.symm hgbD)).trans (hk2 _ h.inF.2.1)
    refine Eq.mp ?_ h.row
    congr 1
    refine rowOf_congr (by decide) fun a c _ hc => ?_
    by_cases ea : a = d
    · subst ea; rw [if_pos rfl]; rfl
    · rw [if_neg ea]
  · refine ⟨by show ((S.disks.getD d default).sure.set n _).length = S.sectors; rw [List.length_set]; exact hdk.len, by rw [hv]; exact hst, ?_, ?_, hdk.fits, ?_⟩
    · intro b hb
      rcases List.mem_or_eq_of_mem_set hb with hb | rfl
      · exact hdk.secs b hb
      · exact turnB_sec hsec hx
    · refine same_row hdk2.waits fun b hb => heap_set_other _ _ _ (fun e => ?_)
      exact row_ne_row hdk2.sure hdk2.waits (by decide) (b := gb) (by rw [hv]; rfl) (by rw [hb, e])
    · refine hdk2.map.same (heap_set_other _ _ _ (fun e => ?_))
      exact row_ne_map hdk2.sure hdk2.map (by rw [hv, e]; rfl)
  · intro b hb hbp hbD hbg
    have hne : b ≠ gb := by rintro rfl; exact hbg hgbhas
    exact (heap_set_other _ _ _ hne).trans (hk2 b hb)
set_option maxRecDepth 20000 in
set_option maxHeartbeats 2000000 in
theorem corrupt_done (w : World) (p d n i : Nat) (x : Nat) (hx : x < 256) {S : Sf} {F : Nat → Prop} (h : Shelf w p S F) (hd : d < S.disks.length) (hn : n < S.sectors) (hi : i < 128) (hw : lastOf (S.disks.getD d default).waits n = none) :
    Calls Try.prog 33 #[.pointer (some ⟨p, 0, none⟩), .int .i64 d, .int .i64 n, .int .i64 i, .int .u8 x] w fun e w' => e = .returned (.int .i64 0) ∧ Left F w p (S.doCorrupt d n i x) w' := by
  obtain ⟨D, gs, h⟩ := h
  have hc := Lib.hid (hasSector_yes h d n hd hn)
  have c2 := h.c2
  have hm := h.most
  have hsM := h.secM
  have hdk := h.diskOf hd
  have m2 : w.cell? ⟨D, d * 4 + 2, none⟩ = some (.map (some (gs d).m)) := h.dc hd (by decide)
  have m0 : w.cell? ⟨D, d * 4, none⟩ = some (gs d).s := h.dc (c := 0) hd (by decide)
  obtain ⟨Dm, hown, hf⟩ := hdk.map
  have hh : Maps.has Dm (.int .i64 (n : Int)) = false := by rw [(hf n).1, hw]; rfl
  have hkey := keyInt n (by omega)
  obtain ⟨gb, cap, hv, hgb, hlc, hcm⟩ := own_form hdk.sure (by omega)
  have hr := hdk.sure
  rw [hv] at hr m0
  have hcell := cell_at hr (j := n) (u := sv ((S.disks.getD d default).sure.getD n [])) (sv_at (by rw [hdk.len]; exact hn))
  have hfz := hr.frozenAt n
  have hsec : Sec ((S.disks.getD d default).sure.getD n []) := hdk.secs _ (getD_memB (by rw [hdk.len]; exact hn))
  have t0 : decide ((i : Int) < 0) = false := by simp
  have t1 : decide ((i : Int) ≥ 128) = false := by simp; omega
  have t2 : (i : Int) < 128 := by omega
  have hDlt := h.Dlt
  have hD1 : D ≠ gb := by rintro rfl; exact h.nD hd (.inl (by rw [hv]; rfl))
  have HEND := Lib.hid (fun w2 (hO : Only (fun _ => False) w w2) => corrupted (i := i) h hd hn hx hv hO)
  have kb := bytes_of w ((S.disks.getD d default).sure.getD n []) hsec.1
  have hby := bytes_new w ((S.disks.getD d default).sure.getD n []) hsec (grownCap w 128 0 5)
  have hO1 : Only (fun _ => False) w (w.drew.alloc (.cells (bytesRow (strL ((S.disks.getD d default).sure.getD n [])) (grownCap w 128 0 5)) 5 ((bytesRow (strL ((S.disks.getD d default).sure.getD n [])) (grownCap w 128 0 5)).size, (bytesRow (strL ((S.disks.getD d default).sure.getD n [])) (grownCap w 128 0 5)).size + 1))) := ((Only.refl _ w).drew).alloc _
  unfold turnB at HEND
  have hy := hsec.2.get i
  have hxor : bits .xor .u8 (((((S.disks.getD d default).sure.getD n []).getD i 0 : Nat)) : Int) (x : Int) = ((((S.disks.getD d default).sure.getD n []).getD i 0 ^^^ x : Nat) : Int) := u8_xor_nat _ x hy hx
  have hl128 := hsec.1
  clear h hdk hf hw hv hr hsec
  unfold sv at hcell
  generalize (S.disks.getD d default).waits.length = L at *
  generalize (S.disks.getD d default).sure.getD n [] = b at *
  generalize S.disks.length = k at *
  generalize S.sectors = sec at *
  generalize hW1 : w.drew.alloc (.cells (bytesRow (strL b) (grownCap w 128 0 5)) 5 ((bytesRow (strL b) (grownCap w 128 0 5)).size, (bytesRow (strL b) (grownCap w 128 0 5)).size + 1)) = W1 at *
  have hsz1 : w.heap.size < W1.heap.size := by rw [← hW1]; simp
  clear hW1
  obtain ⟨hrd, hfr⟩ := hby
  have e : ∀ j, (⟨w.heap.size, 0, none⟩ : Addr).add j = ⟨w.heap.size, j, none⟩ := fun j => by unfold Addr.add; split <;> simp_all
  have f1 : W1.frozen? ⟨w.heap.size, i, none⟩ = false := by have := (hfr _ rfl).2 i hi; rwa [e] at this
  obtain ⟨ad, had, hadl, hcells⟩ := hrd.2 (by decide)
  injection had with had
  subst had
  have kk1 : W1.cell? ⟨w.heap.size, i, none⟩ = some (.int .u8 ((b.getD i 0 : Nat) : Int)) := by
    have := hcells i _ (bts_get b i (by omega))
    rwa [e] at this
  have a0 : W1.cell? ⟨D, d * 4, none⟩ = _ := (hO1.cell (p := ⟨D, d * 4, none⟩) hDlt (fun e => e)).trans m0
  have an : W1.cell? ⟨gb, n, none⟩ = _ := (hO1.cell (p := ⟨gb, n, none⟩) hgb (fun e => e)).trans hcell
  have af : W1.frozen? ⟨gb, n, none⟩ = _ := (hO1.frozen (p := ⟨gb, n, none⟩) hgb (fun e => e)).trans hfz
  have hO2 : Only (fun _ => False) w (W1.setCell ⟨w.heap.size, i, none⟩ (.int .u8 ((b.getD i 0 ^^^ x : Nat) : Int))) := hO1.setCell (p := ⟨w.heap.size, i, none⟩) (.inr (Nat.le_refl _)) _
  have hrd2 : Reads (W1.setCell ⟨w.heap.size, i, none⟩ (.int .u8 ((b.getD i 0 ^^^ x : Nat) : Int))) (w.heap.size + 1) (some ⟨w.heap.size, 0, none⟩) 128 (bts (b.set i (b.getD i 0 ^^^ x))) := by
    refine ⟨by rw [bts_length, List.length_set, hl128], fun _ => ⟨_, rfl, Nat.lt_succ_self _, fun j u hu => ?_⟩⟩
    rw [e]
    rw [bts_set] at hu
    by_cases hji : j = i
    · subst hji
      rw [List.getElem?_set_self (by rw [bts_length]; omega)] at hu
      rw [World.cell?_setCell_same' W1 ⟨w.heap.size, j, none⟩ _ (by rw [kk1]; rfl)]
      exact hu
    · rw [List.getElem?_set_ne (Ne.symm hji)] at hu
      rw [World.cell?_setCell_other W1 ⟨w.heap.size, i, none⟩ ⟨w.heap.size, j, none⟩ _ (by intro e2; apply hji; injection e2 with _ e3 _; first | exact e3 | exact e3.symm)]
      have := hcells j u hu
      rwa [e] at this
  have hconv := run_str (grownCap w 128 0 5) (w := (W1.setCell ⟨w.heap.size, i, none⟩ (.int .u8 ((b.getD i 0 ^^^ x : Nat) : Int))).drew) (show Reads (W1.setCell ⟨w.heap.size, i, none⟩ (.int .u8 ((b.getD i 0 ^^^ x : Nat) : Int))).drew _ _ _ _ from hrd2)
  have a0' := (cell_set_other W1 ⟨w.heap.size, i, none⟩ ⟨D, d * 4, none⟩ (.int .u8 ((b.getD i 0 ^^^ x : Nat) : Int)) (Nat.ne_of_lt hDlt)).trans a0
  have an' := (cell_set_other W1 ⟨w.heap.size, i, none⟩ ⟨gb, n, none⟩ (.int .u8 ((b.getD i 0 ^^^ x : Nat) : Int)) (Nat.ne_of_lt hgb)).trans an
  have af' := (frozen_set W1 ⟨w.heap.size, i, none⟩ ⟨gb, n, none⟩ (.int .u8 ((b.getD i 0 ^^^ x : Nat) : Int)) (Nat.ne_of_lt hgb)).trans af
  have HF := Lib.hid (HEND.out _ hO2.drew)
  unfold sv at HF
  clear HEND hcells hrd hfr hO1 hO2 hrd2 hl128 hy
  generalize b.getD i 0 = y at *
  go_enter Try.func33, Try.ntmps33
  go_wp2_with (first
    | (go_at_call 21; refine hc.out.mono ?_; rintro e w' ⟨rfl, rfl⟩)
    | (at_lookup; refine wpList_lookup_own_ok_int _ rfl _ _ 51 rfl 3 3 .i64 lawInt Try.underlying51 Try.underlying3 (zeroInt _) (gs d).m L Dm rfl hown _ _ rfl hkey ?_; intro c hat hwc; clear hat hwc)
    | go_in)
  generalize W1.setCell ⟨w.heap.size, i, none⟩ (.int .u8 ((y ^^^ x : Nat) : Int)) = W2 at *
  clear kk1 f1 a0 an af kb hxor
  generalize strL (b.set i (y ^^^ x)) = sb at *
  go_still_tail 8, (by kernel_rfl)
  change wpList _ _ _ _ _ W2.drew
  go_wp2
  go_ret
  exact ⟨rfl, HF.out⟩
end Go.Proofs.Ytbkcdomapdflaaa.Sh
