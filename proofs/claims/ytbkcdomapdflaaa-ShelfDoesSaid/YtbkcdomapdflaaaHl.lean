/-
  The contracts of Flush: what it refuses, and what is left behind one that is done.
  Conditions: the shelf lies in memory.
-/
import Derived.Test.YtbkcdomapdflaaaHk
namespace Go.Proofs.Ytbkcdomapdflaaa.Sh
open Go.RowKit Go.Maps

theorem settled_disk {w w2 : World} {sectors : Nat} {g : Gh} {k : Dk} (kp : Nat → Bool) (h : DiskIs w sectors g k) (hr : SetRel w w2 g k kp sectors k.waits.length) :
    DiskIs w2 sectors { s := g.s, m := g.m, v := .slice none 0 0 } (k.settle kp) where
  len := by show (stl kp k.waits 0 k.sure).length = sectors; rw [stl_length]; exact h.len
  sure := by have := hr.sure; rw [stlTo_all] at this; exact this
  secs := stl_all (p := Sec) kp k.waits 0 k.sure (fun x hx => (h.fits x hx).2) h.secs
  waits := World.ownsRow_nil _ _ _ _
  fits := fun x hx => by cases hx
  map := by
    have := hr.map
    rw [leftOf_all] at this
    exact this.empty
theorem flush_refused (w : World) (p : Nat) (d : Int) {S : Sf} {F : Nat → Prop} (h : Shelf w p S F) (hno : ¬ hasD S d) :
    Calls Try.prog 10 #[.pointer (some ⟨p, 0, none⟩), .int .i64 d] w fun e w' => e = .returned (.int .i64 1) ∧ w = w' := by
  obtain ⟨D, gs, h⟩ := h
  have hr := Lib.hid (refusal_no w p d)
  have hc := Lib.hid (hasDisk_no h d hno)
  clear h hno
  go_enter Try.func10, Try.ntmps10
  go_wp2_with (first
    | (go_at_call 24; refine hc.out.mono ?_; rintro e w' ⟨rfl, rfl⟩)
    | (go_at_call 20; refine hr.out.mono ?_; rintro e w' ⟨rfl, rfl⟩))
  go_ret
  exact ⟨rfl, rfl⟩
theorem flush_why (w : World) (p d : Nat) {S : Sf} {F : Nat → Prop} (h : Shelf w p S F) (hd : d < S.disks.length) (hw : why S d ≠ 0) :
    Calls Try.prog 10 #[.pointer (some ⟨p, 0, none⟩), .int .i64 d] w fun e w' => e = .returned (.int .i64 (why S d)) ∧ w = w' := by
  obtain ⟨D, gs, h⟩ := h
  have hr := Lib.hid (refusal_any h d hd)
  have hc := Lib.hid (hasDisk_yes h d hd)
  have hq : (why S d == 0) = false := by rw [beq_eq_false_iff_ne]; exact hw
  clear h
  unfold RefusedAs at hr
  generalize why S d = y at *
  clear hw
  go_enter Try.func10, Try.ntmps10
  go_wp2_with (first
    | (go_at_call 24; refine hc.out.mono ?_; rintro e w' ⟨rfl, rfl⟩)
    | (go_at_call 20; refine hr.out.mono ?_; rintro e w' ⟨rfl, rfl⟩))
  go_ret
  exact ⟨rfl, rfl⟩
def Sf.doFlush (S : Sf) (d : Nat) : Sf :=
  { disks := S.disks.set d ((S.disks.getD d default).settle (fun _ => true)), sectors := S.sectors, count := wrap64 (S.count + 1), off := offAt S.left S.off, left := S.left - 1 }
set_option maxRecDepth 20000 in
set_option maxHeartbeats 800000 in
theorem flush_done (w : World) (p d : Nat) {S : Sf} {F : Nat → Prop} (h : Shelf w p S F) (hd : d < S.disks.length) (hw : why S d = 0) (hL : (S.disks.getD d default).waits.length < 4398046511104) :
    Calls Try.prog 10 #[.pointer (some ⟨p, 0, none⟩), .int .i64 d] w fun e w' => e = .returned (.int .i64 0) ∧ Left F w p (S.doFlush d) w' := by
  obtain ⟨D, gs, h⟩ := h
  have hrf := refusal_any h d hd
  unfold RefusedAs at hrf
  rw [hw] at hrf
  have HR := Lib.hid hrf
  have HC := Lib.hid (hasDisk_yes h d hd)
  have c4 := h.c4
  have f4 := h.free 4
  have c2 := h.c2
  have hm := h.most
  have hpD := h.pD
  have h1 : ShelfIs (w.setCell ⟨p, 4, none⟩ (.int .i64 (wrap64 (S.count + 1)))) p S.doRead F D gs := by
    refine h.rooted S.off S.left (wrap64 (S.count + 1)) h.left ?_ (fun b _ hb => heap_set_other w ⟨p, 4, none⟩ _ hb) (by simp)
    rw [cells_set _ h.root]; rfl
  have hO1 : Only (oneF p (gs d)) w (w.setCell ⟨p, 4, none⟩ (.int .i64 (wrap64 (S.count + 1)))) := (Only.refl _ w).setCell (.inl (.inl rfl)) _
  have HDW := Lib.hid (settle_all (w.setCell ⟨p, 4, none⟩ (.int .i64 (wrap64 (S.count + 1)))) D (d * 4) S.sectors (gs d) (S.disks.getD d default) (h1.diskOf hd) h.secM (h.nD hd) hL (h1.dc hd (c := 0) (by decide)) (h1.dc hd (c := 1) (by decide)) (h1.dfree (d * 4 + 1)) (h1.dc hd (c := 2) (by decide)))
  have H0 := Lib.hid h
  have H1 := Lib.hid h1
  have HO := Lib.hid hO1
  clear h1 hO1 h hrf
  generalize hcn : S.count = cnt at *
  generalize hk : S.disks.length = k at *
  go_enter Try.func10, Try.ntmps10
  go_wp2_with (first
    | (go_at_call 24; refine HC.out.mono ?_; rintro e w' ⟨rfl, rfl⟩)
    | (go_at_call 20; refine HR.out.mono ?_; rintro e w' ⟨rfl, rfl⟩)
    | (go_at_call 25; refine HDW.out.mono ?_; rintro e w' ⟨rfl, w2, rfl, hrel⟩))
  subst hk
  have hroot2 : w2.heap[p]? = some (.cells #[.bool S.off, .int .i64 (S.left : Int), .slice (some ⟨D, 0, none⟩) S.disks.length S.disks.length, .int .i64 (S.sectors : Int), .int .i64 (wrap64 (cnt + 1))] 48 (0, 0)) := by
    refine (hrel.only.block p H1.out.plt (fun e => H0.out.np hd (e.elim (fun e => .inr (.inl e.symm)) .inl))).trans ?_
    have hx := H1.out.root
    rw [show S.doRead.count = wrap64 (cnt + 1) by rw [← hcn]; rfl] at hx
    exact hx
  have hroot3 : (w2.setCell ⟨D, d * 4 + 1, none⟩ (.slice none 0 0)).heap[p]? = _ := (heap_set_other w2 ⟨D, d * 4 + 1, none⟩ (.slice none 0 0) hpD).trans hroot2
  have hO : Only (oneF p (gs d)) w w2 := HO.out.trans hrel.only (fun b hb => .inl (.inr (hb.elim (fun e => .inr (.inl e.symm)) .inl)))
  have hdisk2 := settled_disk (fun _ => true) (H1.out.diskOf hd) hrel
  have hend := turn_disk H0.out hd ((S.disks.getD d default).settle (fun _ => true)) (.slice none 0 0) (wrap64 (cnt + 1)) rfl hO hroot2 hdisk2 (fun b hb => by cases hb)
  refine (spend_any _ p S.left S.off H0.out.left (cell_of_row _ _ 0 _ _ _ hroot3) (cell_of_row _ _ 1 _ _ _ hroot3) (frozen_of_row _ _ _ _ _ hroot3) (frozen_of_row _ _ _ _ _ hroot3)).mono ?_
  rintro e w' ⟨rfl, rfl⟩
  rw [← hcn] at hend
  clear hO hdisk2 hroot2 hroot3
  go_wp2
  go_ret
  exact ⟨rfl, hend⟩

/-! ### Kill and Stop -/
theorem kill_no (w : World) (p : Nat) (d : Int) {S : Sf} {F : Nat → Prop} (h : Shelf w p S F) (hno : ¬ hasD S d) :
    Calls Try.prog 11 #[.pointer (some ⟨p, 0, none⟩), .int .i64 d] w fun e w' => e = .returned (.int .i64 1) ∧ w = w' := by
  obtain ⟨D, gs, h⟩ := h
  have hc := Lib.hid (hasDisk_no h d hno)
  clear h hno
  go_enter Try.func11, Try.ntmps11
  go_wp2_with (go_at_call 24; refine hc.out.mono ?_; rintro e w' ⟨rfl, rfl⟩)
  go_ret
  exact ⟨rfl, rfl⟩
def Sf.doKill (S : Sf) (d : Nat) : Sf := { S with disks := S.disks.set d { S.disks.getD d default with dead := true } }
theorem killed {w : World} {p D : Nat} {S : Sf} {F : Nat → Prop} {gs : Nat → Gh} (h : ShelfIs w p S F D gs) {d : Nat} (hd : d < S.disks.length) : Left F w p (S.doKill d) (w.setCell ⟨D, d * 4 + 3, none⟩ (.bool true)) := by
  have hrow := (h.row.stored (d * 4 + 3) (.bool true)).1
  rw [rowOf_set _ (by decide)] at hrow
  have hO : Only F w (w.setCell ⟨D, d * 4 + 3, none⟩ (.bool true)) := (Only.refl F w).setCell (.inl h.inF.2.1) _
  have ht := h.turned (w' := w.setCell ⟨D, d * 4 + 3, none⟩ (.bool true)) hd (gs d) { S.disks.getD d default with dead := true } S.off S.left S.count h.left ?_ ?_ ?_ ?_ (by simp) (fun b hb => .inl hb)
  · refine ⟨_, ⟨D, _, ht⟩, hO, ?_⟩
    rintro b (hb | hb)
    · exact .inl hb
    · exact .inl (h.inF.2.2 d b hd hb)
  · exact (heap_set_other _ _ _ h.pD).trans h.root
  · refine Eq.mp ?_ hrow
    congr 1
    refine rowOf_congr (by decide) fun a c _ hc => ?_
    by_cases ea : a = d
    · subst ea
      match c, hc with
      | 0, _ => simp [diskV]
      | 1, _ => simp [diskV]
      | 2, _ => simp [diskV]
      | 3, _ => simp [diskV]
    · rw [if_neg ea, if_neg (fun h => ea h.1)]
  · exact ((h.diskOf hd).dead true).same fun b hb => heap_set_other _ _ _ (by rintro rfl; exact h.nD hd hb)
  · intro b _ _ hbD _
    exact heap_set_other _ _ _ hbD
set_option maxRecDepth 20000 in
theorem kill_done (w : World) (p d : Nat) {S : Sf} {F : Nat → Prop} (h : Shelf w p S F) (hd : d < S.disks.length) :
    Calls Try.prog 11 #[.pointer (some ⟨p, 0, none⟩), .int .i64 d] w fun e w' => e = .returned (.int .i64 0) ∧ Left F w p (S.doKill d) w' := by
  obtain ⟨D, gs, h⟩ := h
  have hc := Lib.hid (hasDisk_yes h d hd)
  have hk := Lib.hid (killed h hd)
  have c2 := h.c2
  have c3 := h.dc hd (c := 3) (by decide)
  have f3 := h.dfree (d * 4 + 3)
  have hm := h.most
  clear h
  generalize S.disks.length = k at *
  generalize diskV (gs d) (S.disks.getD d default).dead 3 = old at *
  go_enter Try.func11, Try.ntmps11
  go_wp2_with (go_at_call 24; refine hc.out.mono ?_; rintro e w' ⟨rfl, rfl⟩)
  go_ret
  exact ⟨rfl, hk.out⟩
end Go.Proofs.Ytbkcdomapdflaaa.Sh
