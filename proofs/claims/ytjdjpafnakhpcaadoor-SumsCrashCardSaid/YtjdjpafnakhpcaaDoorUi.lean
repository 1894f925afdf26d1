/-
  The contract of the shelf's Read, with the slice's place told.
  Conditions: the shelf lies in memory.
-/
import Derived.Test.YtjdjpafnakhpcaaDoorUj
namespace Go.Proofs.YtjdjpafnakhpcaaDoor.Sh
open Go.RowKit Go.Maps

def ReadAt (F : Nat → Prop) (w : World) (p : Nat) (S : Sf) (b : Bs) (e : Ending) (w' : World) : Prop :=
  ∃ g c, e = .returned (.tuple #[.slice (some ⟨g, 0, none⟩) 128 c, .int .i64 0]) ∧ Bytes w w' (some ⟨g, 0, none⟩) b ∧ Shelf w' p S.doRead F ∧ Only F w w'
set_option maxRecDepth 20000 in
set_option maxHeartbeats 800000 in
theorem read_at (w : World) (p d n : Nat) {S : Sf} {F : Nat → Prop} (h : Shelf w p S F) (hd : d < S.disks.length) (hn : n < S.sectors) (hw : why S d = 0) :
    Calls Tryd.prog 35 #[.pointer (some ⟨p, 0, none⟩), .int .i64 d, .int .i64 n] w (ReadAt F w p S ((S.disks.getD d default).val n)) := by
  obtain ⟨D, gs, h⟩ := h
  have hrf := refusal_any h d hd
  unfold RefusedAs at hrf
  rw [hw] at hrf
  have HR := Lib.hid hrf
  have HC := Lib.hid (hasSector_yes h d n hd hn)
  have c4 := h.c4
  have f4 := h.free 4
  have hm := h.most
  have hval := (h.diskOf hd).val hn
  have HB := Lib.hid (fun w => bytes_of w ((S.disks.getD d default).val n) hval.1)
  have h1 : ShelfIs (w.setCell ⟨p, 4, none⟩ (.int .i64 (wrap64 (S.count + 1)))) p S.doRead F D gs := by
    refine h.rooted S.off S.left (wrap64 (S.count + 1)) h.left ?_ (fun b _ hb => heap_set_other w ⟨p, 4, none⟩ _ hb) (by simp)
    rw [cells_set _ h.root]; rfl
  have hO1 : Only F w (w.setCell ⟨p, 4, none⟩ (.int .i64 (wrap64 (S.count + 1)))) := (Only.refl F w).setCell (.inl h.inF.1) _
  have HD := Lib.hid (fun c0 c1 c2 => dread_any (w.setCell ⟨p, 4, none⟩ (.int .i64 (wrap64 (S.count + 1)))) D (d * 4) S.sectors n (gs d) (S.disks.getD d default) (h1.diskOf hd) hn h.secM c0 c1 c2)
  have c2 := h.c2
  have HSZ := Lib.hid (show (w.setCell ⟨p, 4, none⟩ (.int .i64 (wrap64 (S.count + 1)))).heap.size = w.heap.size by simp)
  have HDW := Lib.hid (HD.out (h1.dc hd (c := 0) (by decide)) (h1.dc hd (c := 1) (by decide)) (h1.dc hd (c := 2) (by decide)))
  clear HD
  have kb := HB.out (w.setCell ⟨p, 4, none⟩ (.int .i64 (wrap64 (S.count + 1))))
  have H1 := Lib.hid h1
  have HO := Lib.hid hO1
  have HV := Lib.hid hval
  have HE := Lib.hid (bytes_new2 (w.setCell ⟨p, 4, none⟩ (.int .i64 (wrap64 (S.count + 1)))) _ hval (grownCap (w.setCell ⟨p, 4, none⟩ (.int .i64 (wrap64 (S.count + 1)))) 128 0 5) w.heap.size HSZ.out)
  clear h1 hO1 hval HB h hrf
  unfold sv at HDW
  generalize (S.disks.getD d default).val n = b at *
  generalize strL b = s at *
  generalize S.count = cnt at *
  generalize S.disks.length = k at *
  go_enter Tryd.func35, Tryd.ntmps35
  go_wp2_with (first
    | (go_at_call 66; refine HC.out.mono ?_; rintro e w' ⟨rfl, rfl⟩)
    | (go_at_call 67; refine HR.out.mono ?_; rintro e w' ⟨rfl, rfl⟩)
    | (go_at_call 68; refine HDW.out.mono ?_; rintro e w' ⟨rfl, rfl⟩))
  go_ret2
  exact ⟨_, _, rfl, ⟨HE.out.1, fun a ha => ⟨by rw [← HSZ.out]; exact (HE.out.2 a ha).1, (HE.out.2 a ha).2⟩⟩, ⟨D, gs, H1.out.same (fun x hx => (Below.heap_alloc _ _ _ (H1.out.ltF x hx))) (by simp)⟩, (HO.out.drew.alloc _)⟩
end Go.Proofs.YtjdjpafnakhpcaaDoor.Sh
