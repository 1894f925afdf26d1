/-
  The contracts of Write: what it refuses, and what is left behind one that is done.
  Conditions: the shelf lies in memory; what is written reads as bytes.
-/
import Derived.Test.YtbkcdomapdflaaaHi
namespace Go.Proofs.Ytbkcdomapdflaaa.Sh
open Go.RowKit Go.Maps

def Sf.doWrite (S : Sf) (d n : Nat) (b : Bs) : Sf :=
  { disks := S.disks.set d ((S.disks.getD d default).write n b), sectors := S.sectors, count := wrap64 (S.count + 1), off := offAt S.left S.off, left := S.left - 1 }

theorem write_refused (w : World) (p : Nat) (d n : Int) {A : Option Addr} {m c : Nat} {S : Sf} {F : Nat → Prop} (h : Shelf w p S F) (hno : ¬ hasS S d n ∨ m ≠ 128) :
    Calls Try.prog 8 #[.pointer (some ⟨p, 0, none⟩), .int .i64 d, .int .i64 n, .slice A m c] w fun e w' => e = .returned (.int .i64 1) ∧ w = w' := by
  obtain ⟨D, gs, h⟩ := h
  have hr := Lib.hid (refusal_no w p d)
  by_cases hs : hasS S d n
  · have hs2 := hs
    obtain ⟨a1, a2, a3, a4⟩ := hs
    obtain ⟨d, rfl⟩ : ∃ m : Nat, d = (m : Int) := ⟨d.toNat, by omega⟩
    obtain ⟨n, rfl⟩ : ∃ m : Nat, n = (m : Int) := ⟨n.toNat, by omega⟩
    have hc := Lib.hid (hasSector_yes h d n (by omega) (by omega))
    have hq : ((m : Int) == 128) = false := by
      rw [beq_eq_false_iff_ne]
      rcases hno with e | e
      · exact absurd hs2 e
      · omega
    clear h hno hs2 a1 a2 a3 a4
    go_enter Try.func8, Try.ntmps8
    go_wp2_with (first
      | (go_at_call 21; refine hc.out.mono ?_; rintro e w' ⟨rfl, rfl⟩)
      | (go_at_call 20; refine hr.out.mono ?_; rintro e w' ⟨rfl, rfl⟩))
    go_ret
    exact ⟨rfl, rfl⟩
  · have hc := Lib.hid (hasSector_no h d n hs)
    clear h hno hs
    go_enter Try.func8, Try.ntmps8
    go_wp2_with (first
      | (go_at_call 21; refine hc.out.mono ?_; rintro e w' ⟨rfl, rfl⟩)
      | (go_at_call 20; refine hr.out.mono ?_; rintro e w' ⟨rfl, rfl⟩))
    go_ret
    exact ⟨rfl, rfl⟩
theorem write_why (w : World) (p d n : Nat) {A : Option Addr} {c : Nat} {S : Sf} {F : Nat → Prop} (h : Shelf w p S F) (hd : d < S.disks.length) (hn : n < S.sectors) (hw : why S d ≠ 0) :
    Calls Try.prog 8 #[.pointer (some ⟨p, 0, none⟩), .int .i64 d, .int .i64 n, .slice A 128 c] w fun e w' => e = .returned (.int .i64 (why S d)) ∧ w = w' := by
  obtain ⟨D, gs, h⟩ := h
  have hr := Lib.hid (refusal_any h d hd)
  have hc := Lib.hid (hasSector_yes h d n hd hn)
  have hq : (why S d == 0) = false := by rw [beq_eq_false_iff_ne]; exact hw
  clear h
  unfold RefusedAs at hr
  generalize why S d = y at *
  clear hw
  go_enter Try.func8, Try.ntmps8
  go_wp2_with (first
    | (go_at_call 21; refine hc.out.mono ?_; rintro e w' ⟨rfl, rfl⟩)
    | (go_at_call 20; refine hr.out.mono ?_; rintro e w' ⟨rfl, rfl⟩))
  go_ret
  exact ⟨rfl, rfl⟩
set_option maxRecDepth 20000 in
set_option maxHeartbeats 800000 in
theorem write_done (w : World) (p d n : Nat) (b : Bs) {A : Option Addr} {c : Nat} {S : Sf} {F : Nat → Prop} (h : Shelf w p S F) (hd : d < S.disks.length) (hn : n < S.sectors) (hw : why S d = 0) (hL : (S.disks.getD d default).waits.length < 4398046511104)
    (hb : Sec b) (hr : Reads w w.heap.size A 128 (bts b)) (hA : ∀ a, A = some a → ¬ F a.block) :
    Calls Try.prog 8 #[.pointer (some ⟨p, 0, none⟩), .int .i64 d, .int .i64 n, .slice A 128 c] w fun e w' => e = .returned (.int .i64 0) ∧ Left F w p (S.doWrite d n b) w' := by
  obtain ⟨D, gs, h⟩ := h
  have hrf := refusal_any h d hd
  unfold RefusedAs at hrf
  rw [hw] at hrf
  have HR := Lib.hid hrf
  have HC := Lib.hid (hasSector_yes h d n hd hn)
  have c4 := h.c4
  have f4 := h.free 4
  have c2 := h.c2
  have hm := h.most
  have hpD := h.pD
  have hnD := h.nD hd
  have hnp := h.np hd
  have hplt := h.plt
  have hDlt := h.Dlt
  -- the world behind the count
  have hroot1 := cells_set (i := 4) (.int .i64 (wrap64 (S.count + 1))) h.root
  have hO1 : Only F w (w.setCell ⟨p, 4, none⟩ (.int .i64 (wrap64 (S.count + 1)))) := (Only.refl F w).setCell (.inl h.inF.1) _
  have hrd : Reads (w.setCell ⟨p, 4, none⟩ (.int .i64 (wrap64 (S.count + 1)))) w.heap.size A 128 (bts b) := by
    refine ⟨hr.1, fun h0 => ?_⟩
    obtain ⟨ad, e, hlt, hc⟩ := hr.2 h0
    exact ⟨ad, e, hlt, fun j u hu => (cell_set_other w ⟨p, 4, none⟩ (ad.add j) _ (by rw [block_of_add]; rintro rfl; exact hA ad e h.inF.1)).trans (hc j u hu)⟩
  generalize hc1 : S.count = cnt at *
  go_enter Try.func8, Try.ntmps8
  go_wp2_with (first
    | (go_at_call 21; refine HC.out.mono ?_; rintro e w' ⟨rfl, rfl⟩)
    | (go_at_call 20; refine HR.out.mono ?_; rintro e w' ⟨rfl, rfl⟩))
  have hdisk : DiskIs (w.setCell ⟨p, 4, none⟩ (.int .i64 (wrap64 (cnt + 1)))) S.sectors (gs d) (S.disks.getD d default) := (h.diskOf hd).same fun b' hb' => heap_set_other w ⟨p, 4, none⟩ _ (by rintro rfl; exact hnp hb')
  have hrow1 : (w.setCell ⟨p, 4, none⟩ (.int .i64 (wrap64 (cnt + 1)))).ownsRow 0 54 4 (.slice (some ⟨D, 0, none⟩) S.disks.length S.disks.length) S.disks.length (rowOf (fun i c => diskV (gs i) ((S.disks.getD i default).dead) c) S.disks.length 4) :=
    same_row h.row fun b' hb' => heap_set_other w ⟨p, 4, none⟩ _ (by injection hb' with e; subst e; exact Ne.symm hpD)
  have hc2 := cell_of_row _ _ 2 _ _ _ hroot1
  have hsame1 : ∀ b', b' ≠ p → (w.setCell ⟨p, 4, none⟩ (.int .i64 (wrap64 (cnt + 1)))).heap[b']? = w.heap[b']? := fun b' hb' => heap_set_other w ⟨p, 4, none⟩ _ hb'
  have hsz1 : (w.setCell ⟨p, 4, none⟩ (.int .i64 (wrap64 (cnt + 1)))).heap.size = w.heap.size := by simp
  clear c4 f4 c2 HR HC
  generalize w.setCell ⟨p, 4, none⟩ (.int .i64 (wrap64 (cnt + 1))) = w1 at *
  have kd1 := cell_at hrow1 (rowOf_at _ hd (c := 1) (by decide))
  have kd2 := cell_at hrow1 (rowOf_at _ hd (c := 2) (by decide))
  have kf1 := hrow1.frozenAt (d * 4 + 1)
  have HDW := Lib.hid (dwrite_any w1.drew D (d * 4) S.sectors n b (gs d) (S.disks.getD d default) (hdisk.same fun _ _ => rfl) hn h.secM hnD hL kd1 kf1 kd2)
  have hstr := run_str c (w := w1.drew) (show Reads w1.drew _ _ _ _ from hrd)
  have HO1 := Lib.hid hO1
  have HD := Lib.hid hdisk
  have HROOT := Lib.hid hroot1
  have HH := Lib.hid h
  have HS1 := Lib.hid hsame1
  have HS := Lib.hid (show sv b = .string (strL b) from rfl)
  clear hO1 hdisk hrow1 hroot1 h hsame1 hr hA hnD hnp kd1 kd2 kf1
  rw [HS.out] at HDW
  generalize strL b = s at *
  generalize hk : S.disks.length = k at *
  go_still_tail 9, (by kernel_rfl)
  change wpList _ _ _ _ _ w1.drew
  go_wp2_with (go_at_call 22; refine HDW.out.mono ?_; rintro e w' ⟨rfl, w2, v, rfl, hO2, hrow2, hmap2, hlie2⟩)
  subst hk
  have hp2 : ¬ (p = (gs d).m ∨ (gs d).v.ownBlock = some p) := fun e => HH.out.np hd (e.elim (fun e => .inr (.inl e.symm)) (fun e => .inr (.inr e)))
  have hroot2 : w2.heap[p]? = some (.cells #[.bool S.off, .int .i64 (S.left : Int), .slice (some ⟨D, 0, none⟩) S.disks.length S.disks.length, .int .i64 (S.sectors : Int), .int .i64 (wrap64 (cnt + 1))] 48 (0, 0)) := (hO2.block p (by show p < w1.heap.size; omega) hp2).trans HROOT.out
  have hroot3 : (w2.setCell ⟨D, d * 4 + 1, none⟩ v).heap[p]? = _ := (heap_set_other w2 ⟨D, d * 4 + 1, none⟩ v hpD).trans hroot2
  have hO : Only (oneF p (gs d)) w w2 := by
    refine Only.trans (F' := fun b' => b' = (gs d).m ∨ (gs d).v.ownBlock = some b') (w1 := w1.drew) ?_ hO2 (fun b' hb' => .inl (.inr (hb'.elim (fun e => .inr (.inl e.symm)) (fun e => .inr (.inr e)))))
    exact ⟨HO1.out.os, HO1.out.tape, HO1.out.output, HO1.out.size, fun k hk hn => HS1.out k (fun e => hn (.inl e))⟩
  have hsm : ∀ b', (gs d).s.ownBlock = some b' → w2.heap[b']? = w1.drew.heap[b']? := fun b' hb' => hO2.block b' (HD.out.lt (.inl hb')) (fun e => e.elim (fun e => row_ne_map HD.out.sure HD.out.map (by rw [hb', e])) (row_ne_row HD.out.sure HD.out.waits (by decide) hb'))
  have hdisk2 : DiskIs w2 S.sectors { s := (gs d).s, m := (gs d).m, v := v } ((S.disks.getD d default).write n b) := by
    refine ⟨HD.out.len, same_row HD.out.sure hsm, HD.out.secs, ?_, ?_, ?_⟩
    · have e : ((S.disks.getD d default).write n b).waits.length = (S.disks.getD d default).waits.length + 1 := by simp [Dk.write]
      rw [e]
      exact hrow2
    · intro x hx
      rcases List.mem_append.1 hx with hx | hx
      · exact HD.out.fits x hx
      · simp at hx; subst hx; exact ⟨hn, hb⟩
    · have e : ((S.disks.getD d default).write n b).waits.length = (S.disks.getD d default).waits.length + 1 := by simp [Dk.write]
      rw [e]
      exact hmap2
  have hnew : ∀ b', v.ownBlock = some b' → (gs d).v.ownBlock = some b' ∨ w.heap.size ≤ b' := fun b' hb' => (hlie2 b' hb').imp id (fun e => by have e2 : w1.drew.heap.size = w1.heap.size := rfl; omega)
  refine (spend_any _ p S.left S.off HH.out.left (cell_of_row _ _ 0 _ _ _ hroot3) (cell_of_row _ _ 1 _ _ _ hroot3) (frozen_of_row _ _ _ _ _ hroot3) (frozen_of_row _ _ _ _ _ hroot3)).mono ?_
  rintro e w' ⟨rfl, rfl⟩
  have hend := turn_disk HH.out hd ((S.disks.getD d default).write n b) v (wrap64 (cnt + 1)) rfl hO hroot2 hdisk2 hnew
  rw [← hc1] at hend
  clear hsm hnew hO hdisk2 hroot2 hroot3
  go_wp2
  go_ret
  exact ⟨rfl, hend⟩
end Go.Proofs.Ytbkcdomapdflaaa.Sh
