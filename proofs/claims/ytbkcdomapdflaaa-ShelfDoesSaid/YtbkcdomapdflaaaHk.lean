/-
  The contracts of Read: what it refuses, and what is told else.
  Conditions: the shelf lies in memory.
-/
import Derived.Test.YtbkcdomapdflaaaHj
import Derived.Laws.IdiomStrings
namespace Go.Proofs.Ytbkcdomapdflaaa.Sh
open Go.RowKit Go.Maps

theorem strL_data (l : List Nat) : (strL l).data.toList = l.map fun x => UInt8.ofNat x := by
  unfold strL strOfNums
  simp [Function.comp_def]
theorem strL_size (l : List Nat) : (strL l).size = l.length := by
  have := congrArg List.length (strL_data l)
  simpa using this
theorem bytesRow_at (l : List Nat) (h : Small l) (G j : Nat) (v : Value) (hj : (bts l)[j]? = some v) : (bytesRow (strL l) G)[j]? = some v := by
  have hlt : j < l.length := by rw [← bts_length l]; exact (List.getElem?_eq_some_iff.1 hj).1
  have hv : v = .int .u8 ((l[j] : Nat) : Int) := by
    simp [bts, hlt] at hj
    exact hj.symm
  subst hv
  have h1 : (strL l).data[j]? = some (UInt8.ofNat l[j]) := by
    rw [← Array.getElem?_toList, strL_data]
    simp [hlt]
  have hb : l[j] < 256 := h _ (List.getElem_mem hlt)
  have hsz : j < (strL l).data.size := by
    have := (Array.getElem?_eq_some_iff.1 h1).1
    exact this
  unfold bytesRow
  rw [Array.getElem?_append_left (by simpa using hsz), Array.getElem?_map, h1]
  simp [Nat.mod_eq_of_lt hb]
theorem bytes_of (w : World) (l : List Nat) (h : l.length = 128) : (convert 9 36 (.string (strL l))).run Try.prog w = .ok (.slice (some ⟨w.heap.size, 0, none⟩) 128 (grownCap w 128 0 5))
      (w.drew.alloc (.cells (bytesRow (strL l) (grownCap w 128 0 5)) 5 ((bytesRow (strL l) (grownCap w 128 0 5)).size, (bytesRow (strL l) (grownCap w 128 0 5)).size + 1))) := by
  have := run_bytes_of_string (P := Try.prog) w 9 36 5 (strL l) Try.underlying9 Try.underlying36 Try.underlying5
  rw [strL_size, h] at this
  exact this
/-- A slice of bytes of the caller's own: new, and free. -/
def Bytes (w0 w : World) (A : Option Addr) (l : Bs) : Prop :=
  Reads w w.heap.size A 128 (bts l) ∧ ∀ a, A = some a → w0.heap.size ≤ a.block ∧ ∀ j, j < 128 → w.frozen? (a.add j) = false
theorem bytes_new (w : World) (l : Bs) (h : Sec l) (G : Nat) :
    Bytes w (w.drew.alloc (.cells (bytesRow (strL l) G) 5 ((bytesRow (strL l) G).size, (bytesRow (strL l) G).size + 1))) (some ⟨w.heap.size, 0, none⟩) l := by
  have e : ∀ j, (⟨w.heap.size, 0, none⟩ : Addr).add j = ⟨w.heap.size, j, none⟩ := fun j => by unfold Addr.add; split <;> simp_all
  have hb : (w.drew.alloc (.cells (bytesRow (strL l) G) 5 ((bytesRow (strL l) G).size, (bytesRow (strL l) G).size + 1))).heap[w.heap.size]? = _ := heap_alloc_new w.drew _
  have hs : 128 ≤ (bytesRow (strL l) G).size := by
    have := strL_size l
    rw [h.1] at this
    unfold bytesRow
    have h2 : (strL l).data.size = 128 := this
    simp [h2]
  refine ⟨⟨by rw [bts_length, h.1], fun _ => ⟨_, rfl, by simp, fun j u hu => ?_⟩⟩, fun a ha => ?_⟩
  · rw [e]
    rw [cell_of_row _ _ j _ _ _ hb]
    exact bytesRow_at l h.2 G j u hu
  · injection ha with ha
    subst ha
    refine ⟨Nat.le_refl _, fun j hj => ?_⟩
    rw [e]
    simp only [World.frozen?, hb]
    simp
    omega
theorem bytes_new2 (w : World) (l : Bs) (h : Sec l) (G q : Nat) (hq : w.heap.size = q) :
    Bytes w (w.alloc (.cells (bytesRow (strL l) G) 5 ((bytesRow (strL l) G).size, (bytesRow (strL l) G).size + 1))).drew (some ⟨q, 0, none⟩) l := by
  subst hq
  exact bytes_new w l h G
def Sf.doRead (S : Sf) : Sf := { S with count := wrap64 (S.count + 1) }
def nilB : Value := .slice none 0 0
theorem read_refused (w : World) (p : Nat) (d n : Int) {S : Sf} {F : Nat → Prop} (h : Shelf w p S F) (hno : ¬ hasS S d n) :
    Calls Try.prog 17 #[.pointer (some ⟨p, 0, none⟩), .int .i64 d, .int .i64 n] w fun e w' => e = .returned (.tuple #[.slice none 0 0, .int .i64 1]) ∧ w = w' := by
  obtain ⟨D, gs, h⟩ := h
  have hr := Lib.hid (refusal_no w p d)
  have hc := Lib.hid (hasSector_no h d n hno)
  clear h hno
  go_enter Try.func17, Try.ntmps17
  go_wp2_with (first
    | (go_at_call 21; refine hc.out.mono ?_; rintro e w' ⟨rfl, rfl⟩)
    | (go_at_call 20; refine hr.out.mono ?_; rintro e w' ⟨rfl, rfl⟩))
  go_ret2
  exact ⟨rfl, rfl⟩
theorem read_why (w : World) (p d n : Nat) {S : Sf} {F : Nat → Prop} (h : Shelf w p S F) (hd : d < S.disks.length) (hn : n < S.sectors) (hw : why S d ≠ 0) :
    Calls Try.prog 17 #[.pointer (some ⟨p, 0, none⟩), .int .i64 d, .int .i64 n] w fun e w' => e = .returned (.tuple #[.slice none 0 0, .int .i64 (why S d)]) ∧ w = w' := by
  obtain ⟨D, gs, h⟩ := h
  have hr := Lib.hid (refusal_any h d hd)
  have hc := Lib.hid (hasSector_yes h d n hd hn)
  have hq : (why S d == 0) = false := by rw [beq_eq_false_iff_ne]; exact hw
  clear h
  unfold RefusedAs at hr
  generalize why S d = y at *
  clear hw
  go_enter Try.func17, Try.ntmps17
  go_wp2_with (first
    | (go_at_call 21; refine hc.out.mono ?_; rintro e w' ⟨rfl, rfl⟩)
    | (go_at_call 20; refine hr.out.mono ?_; rintro e w' ⟨rfl, rfl⟩))
  go_ret2
  exact ⟨rfl, rfl⟩
def ReadIs (F : Nat → Prop) (w : World) (p : Nat) (S : Sf) (b : Bs) (e : Ending) (w' : World) : Prop :=
  ∃ A c, e = .returned (.tuple #[.slice A 128 c, .int .i64 0]) ∧ Bytes w w' A b ∧ Shelf w' p S.doRead F ∧ Only F w w'
theorem DiskIs.val {w : World} {sectors n : Nat} {g : Gh} {k : Dk} (h : DiskIs w sectors g k) (hn : n < sectors) : Sec (k.val n) := by
  have hm : k.sure.getD n [] ∈ k.sure := by
    have : n < k.sure.length := by rw [h.len]; exact hn
    simp [List.getD, this]
  have hs := h.secs _ hm
  rcases hj : lastOf k.waits n with _ | j
  · show Sec (latest k.waits n (k.sure.getD n []))
    rw [lastOf_none _ hj]; exact hs
  · have := (lastOf_some (k.sure.getD n []) hj).2
    exact (h.fits _ (List.mem_of_getElem? this)).2
set_option maxRecDepth 20000 in
set_option maxHeartbeats 800000 in
theorem read_done (w : World) (p d n : Nat) {S : Sf} {F : Nat → Prop} (h : Shelf w p S F) (hd : d < S.disks.length) (hn : n < S.sectors) (hw : why S d = 0) :
    Calls Try.prog 17 #[.pointer (some ⟨p, 0, none⟩), .int .i64 d, .int .i64 n] w (ReadIs F w p S ((S.disks.getD d default).val n)) := by
  obtain ⟨D, gs, h⟩ := h
  have hrf := refusal_any h d hd
  unfold RefusedAs at hrf
  rw [hw] at hrf
  have HR := Lib.hid hrf
  have HC := Lib.hid (hasSector_yes h d n hd hn)
  have c4 := h.c4
  have f4 := h.free 4
  have hm := h.most
  have hval := (h.diskOf hd).val hn
  have HB := Lib.hid (fun w => bytes_of w ((S.disks.getD d default).val n) hval.1)
  have h1 : ShelfIs (w.setCell ⟨p, 4, none⟩ (.int .i64 (wrap64 (S.count + 1)))) p S.doRead F D gs := by
    refine h.rooted S.off S.left (wrap64 (S.count + 1)) h.left ?_ (fun b _ hb => heap_set_other w ⟨p, 4, none⟩ _ hb) (by simp)
    rw [cells_set _ h.root]; rfl
  have hO1 : Only F w (w.setCell ⟨p, 4, none⟩ (.int .i64 (wrap64 (S.count + 1)))) := (Only.refl F w).setCell (.inl h.inF.1) _
  have HD := Lib.hid (fun c0 c1 c2 => dread_any (w.setCell ⟨p, 4, none⟩ (.int .i64 (wrap64 (S.count + 1)))) D (d * 4) S.sectors n (gs d) (S.disks.getD d default) (h1.diskOf hd) hn h.secM c0 c1 c2)
  have c2 := h.c2
  have HSZ := Lib.hid (show (w.setCell ⟨p, 4, none⟩ (.int .i64 (wrap64 (S.count + 1)))).heap.size = w.heap.size by simp)
  have HDW := Lib.hid (HD.out (h1.dc hd (c := 0) (by decide)) (h1.dc hd (c := 1) (by decide)) (h1.dc hd (c := 2) (by decide)))
  clear HD
  have kb := HB.out (w.setCell ⟨p, 4, none⟩ (.int .i64 (wrap64 (S.count + 1))))
  have H1 := Lib.hid h1
  have HO := Lib.hid hO1
  have HV := Lib.hid hval
  have HE := Lib.hid (bytes_new2 (w.setCell ⟨p, 4, none⟩ (.int .i64 (wrap64 (S.count + 1)))) _ hval (grownCap (w.setCell ⟨p, 4, none⟩ (.int .i64 (wrap64 (S.count + 1)))) 128 0 5) w.heap.size HSZ.out)
  clear h1 hO1 hval HB h hrf
  unfold sv at HDW
  generalize (S.disks.getD d default).val n = b at *
  generalize strL b = s at *
  generalize S.count = cnt at *
  generalize S.disks.length = k at *
  go_enter Try.func17, Try.ntmps17
  go_wp2_with (first
    | (go_at_call 21; refine HC.out.mono ?_; rintro e w' ⟨rfl, rfl⟩)
    | (go_at_call 20; refine HR.out.mono ?_; rintro e w' ⟨rfl, rfl⟩)
    | (go_at_call 42; refine HDW.out.mono ?_; rintro e w' ⟨rfl, rfl⟩))
  go_ret2
  exact ⟨_, _, rfl, ⟨HE.out.1, fun a ha => ⟨by rw [← HSZ.out]; exact (HE.out.2 a ha).1, (HE.out.2 a ha).2⟩⟩, ⟨D, gs, H1.out.same (fun x hx => (Below.heap_alloc _ _ _ (H1.out.ltF x hx))) (by simp)⟩, (HO.out.drew.alloc _)⟩
end Go.Proofs.Ytbkcdomapdflaaa.Sh
