/-
  What must come of every program (lives of the statements on path).
  Conditions: none.
-/
import Derived.Test.YtblkfiaeifckjaaN10
namespace Go.Proofs.Ytblkfiaeifckjaa
open Go.RowKit Go.Shelf

theorem split_eq (p : ByteArray) (r : Int × List Bs) (w : World) (hs : p.size ≤ 4611686018427387904) (hr : splitE p.data.toList = r) :
    Calls Try.prog 13 #[.string p] w fun e W' => ∃ A c, e = .returned (.tuple #[.slice A r.2.length c, .int .i64 r.1]) ∧ r.2.length ≤ c ∧ Reads W' W'.heap.size A r.2.length (svs r.2) ∧ Below w.heap.size w W' := by
  subst hr
  refine (split p w hs).mono ?_
  rintro e W' ⟨v, rfl, hrow, hb⟩
  obtain ⟨A, c, hv, hc⟩ := own_slice hrow
  subst hv
  exact ⟨A, c, rfl, hc, Reads.of_own hrow, hb⟩
theorem parent_eq (p : ByteArray) (r : Int × List Bs × Bs) (w : World) (hs : p.size ≤ 4611686018427387904) (hr : parentE p.data.toList = r) :
    Calls Try.prog 15 #[.string p] w fun e W' => ∃ A, e = .returned (.tuple #[.slice A r.2.1.length r.2.1.length, sv r.2.2, .int .i64 r.1]) ∧ Reads W' W'.heap.size A r.2.1.length (svs r.2.1) ∧ Below w.heap.size w W' := by
  subst hr
  exact parent p w hs
theorem lit_reads (W : World) (l : List Bs) : Reads (W.alloc (.cells (svs l).toArray 9)) (W.heap.size + 1) (some ⟨W.heap.size, 0, none⟩) l.length (svs l) := by
  refine ⟨svs_length l, fun _ => ⟨_, rfl, by show W.heap.size < _; omega, fun j u hu => ?_⟩⟩
  rw [addr_add_plain, World.cell?_alloc_at _ _ _ _ (by simp)]
  simpa using hu

set_option maxRecDepth 100000 in
set_option maxHeartbeats 4000000 in
theorem lives (w : World) : Calls Try.prog 10 #[] w fun e w' => e = .returned (.bool true) ∧ Below w.heap.size w w' := by
  have hA : splitE (⟨#[47, 47, 97, 47, 98, 47]⟩ : ByteArray).data.toList = (0, [[97], [98]]) := by decide
  have hB : splitE (⟨#[97]⟩ : ByteArray).data.toList = (25, []) := by decide
  have hC : parentE (⟨#[47, 97, 47, 98]⟩ : ByteArray).data.toList = (0, [[97]], [98]) := by decide
  have hD : joinE [[120], [121, 122]] = (0, [47, 120, 47, 121, 122]) := by decide
  have HS1 := Lib.hid (fun w => split_eq ⟨#[47, 47, 97, 47, 98, 47]⟩ _ w (by decide) hA)
  have HS2 := Lib.hid (fun w => split_eq ⟨#[97]⟩ _ w (by decide) hB)
  have HP := Lib.hid (fun w => parent_eq ⟨#[47, 97, 47, 98]⟩ _ w (by decide) hC)
  clear hA hB hC
  go_enter Try.func10, Try.ntmps10
  go_wp2_with (fail)
  refine (HS1.out _).mono ?_
  rintro e w1 ⟨A1, c1, rfl, hc1, hr1, hb1⟩
  go_wp2_with (fail)
  refine (HS2.out _).mono ?_
  rintro e w2 ⟨A2, c2, rfl, hc2, hr2, hb2⟩
  go_wp2_with (fail)
  refine (HP.out _).mono ?_
  rintro e w3 ⟨A3, rfl, hr3, hb3⟩
  have hl1 := lit_reads w3 [[120], [121, 122]]
  have HJ := Lib.hid ((join (some ⟨w3.heap.size, 0, none⟩) 2 2 [[120], [121, 122]] (w3.alloc (.cells (svs [[120], [121, 122]]).toArray 9)) (by simpa using hl1) (by
    intro j x hx
    have : x ∈ [[120], [121, 122]] := List.mem_of_getElem? hx
    rcases List.mem_cons.1 this with rfl | h
    · simp
    · rcases List.mem_cons.1 h with rfl | h
      · simp
      · cases h) (by decide) (by decide)))
  rw [hD] at HJ
  clear hl1 hD
  go_wp2_with (fail)
  refine HJ.out.mono ?_
  rintro e w4 ⟨rfl, hb4⟩
  have b34 : Below w3.heap.size w3 w4 := ((Below.refl _ w3).alloc (Nat.le_refl _) _).trans (hb4.mono (by simp))
  have b24 : Below w2.heap.size w2 w4 := hb3.trans (b34.mono hb3.size)
  have b14 : Below w1.heap.size w1 w4 := hb2.trans (b24.mono hb2.size)
  have b04 : Below w.heap.size w w4 := hb1.trans (b14.mono hb1.size)
  have r1 := (hr1.below b14).more b14.size
  have r3 := (hr3.below b34).more b34.size
  have HB := Lib.hid b04
  have R1 := Lib.hid r1
  have R3 := Lib.hid r3
  have hc1z : 2 ≤ c1 := hc1
  clear HS1 HS2 HP HJ hr1 hr3 hr2 hb1 hb2 hb3 hb4 b34 b24 b14 b04 r1 r3 hc1
  simp only [sv]
  go_wp2_with (fail)
  refine (refSame A1 (some ⟨w4.heap.size, 0, none⟩) 2 2 c1 2 [[97], [98]] [[97], [98]] _ _ _ (R1.out.alloc (Nat.le_refl _) _) (lit_reads w4 [[97], [98]]) (by decide)).mono ?_
  rintro e w5 ⟨rfl, q1, rfl⟩
  have B5 := Lib.hid (((Below.refl w4.heap.size w4).alloc (Nat.le_refl _) (.cells (svs [[97], [98]]).toArray 9)).trans (drew_below q1))
  obtain ⟨W5, hW5⟩ : ∃ W5, (w4.alloc (.cells (svs [[97], [98]]).toArray 9)).drewN q1 = W5 := ⟨_, rfl⟩
  rw [hW5] at B5 ⊢
  clear hW5
  rw [show decide (([[97], [98]] : List Bs) = [[97], [98]]) = true from rfl]
  go_wp2_with (fail)
  refine (refSame A3 (some ⟨W5.heap.size, 0, none⟩) 1 1 1 1 [[97]] [[97]] _ _ _ ((R3.out.below B5.out).alloc B5.out.size _) (lit_reads W5 [[97]]) (by decide)).mono ?_
  rintro e w6 ⟨rfl, q2, rfl⟩
  have B6 := Lib.hid (B5.out.trans (((Below.refl w4.heap.size W5).alloc B5.out.size (.cells (svs [[97]]).toArray 9)).trans (drew_below q2)))
  obtain ⟨W6, hW6⟩ : ∃ W6, (W5.alloc (.cells (svs [[97]]).toArray 9)).drewN q2 = W6 := ⟨_, rfl⟩
  rw [hW6] at B6 ⊢
  clear hW6
  rw [show decide (([[97]] : List Bs) = [[97]]) = true from rfl]
  go_wp2_with (fail)
  refine (below (some ⟨W6.heap.size, 0, none⟩) A1 1 2 1 c1 [[97]] [[97], [98]] _ _ _ (lit_reads W6 [[97]]) ((R1.out.below B6.out).alloc B6.out.size _) (by decide) hc1z).mono ?_
  rintro e w7 ⟨rfl, q3, rfl⟩
  have B7 := Lib.hid (B6.out.trans (((Below.refl w4.heap.size W6).alloc B6.out.size (.cells (svs [[97]]).toArray 9)).trans (drew_below q3)))
  obtain ⟨W7, hW7⟩ : ∃ W7, (W6.alloc (.cells (svs [[97]]).toArray 9)).drewN q3 = W7 := ⟨_, rfl⟩
  rw [hW7] at B7 ⊢
  clear hW7
  rw [show belowB [[97]] [[97], [98]] = true from rfl]
  go_wp2_with (fail)
  refine (name_of (x := [46, 46]) (by decide) _).mono ?_
  rintro e w8 ⟨rfl, hb8⟩
  rw [show nameE [46, 46] = 25 from rfl]
  go_wp2
  go_ret
  exact ⟨rfl, HB.out.trans ((B7.out.trans (hb8.mono B7.out.size)).mono HB.out.size)⟩
end Go.Proofs.Ytblkfiaeifckjaa
