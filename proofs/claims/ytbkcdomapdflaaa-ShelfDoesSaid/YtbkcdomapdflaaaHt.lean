/-
  The contract of a disk's settle behind a crash: those writes are sure whose numbers are kept.
  Conditions: the disk lies in memory as 'DiskIs' says; the closure tells of each number whether it is kept.
-/
import Derived.Test.YtbkcdomapdflaaaHs
namespace Go.Proofs.Ytbkcdomapdflaaa.Sh
open Go.RowKit Go.Maps

set_option maxRecDepth 20000 in
set_option maxHeartbeats 800000 in
theorem settle_kept (kp : Nat → Bool) (qc : Nat) (w : World) (D o sectors : Nat) (g : Gh) (k : Dk) (h : DiskIs w sectors g k) (hs : sectors ≤ 4096) (hD : ¬ g.has D) (hL : k.waits.length < 4398046511104)
    (hk : ∀ j, j < k.waits.length → ∀ w', Only (setF g) w w' → Calls Try.prog 46 #[.int .i64 (j : Int), .pointer (some ⟨qc, 0, none⟩)] w' fun e w'' => e = .returned (.bool (kp j)) ∧ w' = w'')
    (c0 : w.cell? ⟨D, o, none⟩ = some g.s) (c1 : w.cell? ⟨D, o + 1, none⟩ = some g.v) (f1 : w.frozen? ⟨D, o + 1, none⟩ = false) (c2 : w.cell? ⟨D, o + 2, none⟩ = some (.map (some g.m))) :
    Calls Try.prog 25 #[.pointer (some ⟨D, o, none⟩), .func (.func 46) #[] #[.pointer (some ⟨qc, 0, none⟩)]] w fun e w' => e = .returned (.tuple #[]) ∧
      ∃ w1, w' = w1.setCell ⟨D, o + 1, none⟩ (.slice none 0 0) ∧ SetRel w w1 g k kp sectors k.waits.length := by
  have hD1 : g.m ≠ D := fun e => hD (.inr (.inl e))
  have hD3 : g.s.ownBlock ≠ some D := fun e => hD (.inl e)
  have hDF : ¬ setF g D := fun e => e.elim (fun e => hD1 e.symm) hD3
  have hDlt := block_lt_of_cell c1
  have hVF : ∀ b, g.v.ownBlock = some b → ¬ setF g b := fun b hb e => e.elim (fun e => row_ne_map h.waits h.map (by rw [hb, e])) (row_ne_row h.waits h.sure (by decide) hb)
  obtain ⟨A, cap, hv⟩ := own_shape2 h.waits
  have hrow := h.waits
  have hst := SetRel.start h kp
  have hfits := h.fits
  rw [hv] at c1 hrow hVF
  generalize hLL : k.waits.length = L at *
  have HL := Lib.hid hLL
  clear hLL
  have HST := Lib.hid hst
  clear hst
  go_enter Try.func25, Try.ntmps25
  go_wp2
  go_loopw [11] (fun i wr => ∃ j : Nat, j ≤ L ∧ i = .int .i64 j ∧ Hid (SetRel w wr g k kp sectors j)) (fun i _ => L - (intOf i).toNat)
  case atStart => exact ⟨0, Nat.zero_le _, rfl, HST⟩
  case round =>
    obtain ⟨j, hj, rfl, hrel⟩ := hrel
    by_cases hlt : j < L
    · obtain ⟨n, b, hjw⟩ : ∃ n b, k.waits[j]? = some (n, b) := ⟨_, _, List.getElem?_eq_getElem (by rw [HL.out]; exact hlt)⟩
      obtain ⟨gv, cap2, he, hgvlt, hlc, hcm⟩ := own_form hrow (by omega)
      simp only [Value.slice.injEq, true_and] at he
      obtain ⟨rfl, rfl⟩ := he
      have hmem := hfits _ (List.mem_of_getElem? hjw)
      obtain ⟨gs, capS, hsv, hgslt, hslc, hscm⟩ := own_form h.sure (by have := hmem.1; omega)
      have hO := hrel.out.only
      have hsure := hrel.out.sure
      have hgD : gs ≠ D := fun e => hD3 (by rw [hsv, e]; rfl)
      have hgm : gs ≠ g.m := fun e => row_ne_map h.sure h.map (by rw [hsv, e]; rfl)
      have k0 : wr.cell? ⟨D, o, none⟩ = some (.slice (some ⟨gs, 0, none⟩) sectors capS) := (hO.cell hDlt hDF).trans (by rw [c0, hsv])
      have k1 : wr.cell? ⟨D, o + 1, none⟩ = some (.slice (some ⟨gv, 0, none⟩) L cap) := (hO.cell hDlt hDF).trans c1
      have k2 : wr.cell? ⟨D, o + 2, none⟩ = some (.map (some g.m)) := (hO.cell hDlt hDF).trans c2
      have hgvF := hVF gv rfl
      have hfl := flat_at _ _ _ _ hjw
      have kn : wr.cell? ⟨gv, j * 2, none⟩ = some (.int .i64 (n : Int)) := (hO.cell hgvlt hgvF).trans (cell_at hrow hfl.1)
      have kb : wr.cell? ⟨gv, j * 2 + 1, none⟩ = some (.string (strL b)) := (hO.cell hgvlt hgvF).trans (cell_at hrow hfl.2)
      have hn := hmem.1
      rw [hsv] at hsure
      have fs : ∀ i, wr.frozen? ⟨gs, i, none⟩ = false := fun i => hsure.frozenAt i
      have fs0 := fs n
      obtain ⟨old, ko⟩ : ∃ old, wr.cell? ⟨gs, n, none⟩ = some old := by
        have hlen : n < ((stlTo kp k.waits j k.sure).map sv).length := by rw [hsure.1]; omega
        exact ⟨_, cell_at hsure (List.getElem?_eq_getElem hlen)⟩
      obtain ⟨Dm, hown, hf⟩ := hrel.out.map
      have hkey := keyInt n (by omega)
      have hsz := hO.size
      have HSV := Lib.hid hsv
      have HF := Lib.hid hf
      have HW := Lib.hid hjw
      have HSU := Lib.hid hsure
      have HOO := Lib.hid hO
      have hk1 := Lib.hid (hk j hlt)
      clear hsv hf hjw hsure hO hfl fs hmem hfits hrow hrel hVF h c0 c1 c2 f1 hv HST hD hk
      have HS := Lib.hid (show sv b = .string (strL b) from rfl)
      generalize strL b = s at *
      rcases hkp : kp j with _ | _
      case true =>
        rw [hkp] at hk1
        have HKP := Lib.hid hkp
        clear hkp
        go_wp2_with (go_at_call 46; refine (hk1.out _ (HOO.out.alloc _)).mono ?_; rintro e w' ⟨rfl, rfl⟩)
        have hgs := block_lt_of_cell k0
        have hq0 : (wr.alloc (.cells #[.int .i64 (n : Int), .string s] 87)).cell? ⟨wr.heap.size, 0, none⟩ = some (.int .i64 (n : Int)) := by rw [World.cell?_alloc_at _ _ _ _ rfl]; rfl
        have hq1 : (wr.alloc (.cells #[.int .i64 (n : Int), .string s] 87)).cell? ⟨wr.heap.size, 1, none⟩ = some (.string s) := by rw [World.cell?_alloc_at _ _ _ _ rfl]; rfl
        have hqb := heap_alloc_new wr (.cells #[.int .i64 (n : Int), .string s] 87)
        have m0 : (wr.alloc (.cells #[.int .i64 (n : Int), .string s] 87)).cell? ⟨D, o, none⟩ = some (.slice (some ⟨gs, 0, none⟩) sectors capS) := (World.cell?_alloc_lt wr _ ⟨D, o, none⟩ hgs).trans k0
        have m2 : (wr.alloc (.cells #[.int .i64 (n : Int), .string s] 87)).cell? ⟨D, o + 2, none⟩ = some (.map (some g.m)) := (World.cell?_alloc_lt wr _ ⟨D, o + 2, none⟩ hgs).trans k2
        have hgsl : gs < wr.heap.size := (HSU.out.lt gs rfl).2
        have mf : (wr.alloc (.cells #[.int .i64 (n : Int), .string s] 87)).frozen? ⟨gs, n, none⟩ = false := (World.frozen?_of_block (w := wr) (Below.heap_alloc _ _ _ hgsl)).trans fs0
        have mo : (wr.alloc (.cells #[.int .i64 (n : Int), .string s] 87)).cell? ⟨gs, n, none⟩ = some old := (World.cell?_alloc_lt wr _ ⟨gs, n, none⟩ hgsl).trans ko
        have hqs : wr.heap.size ≠ gs := by omega
        have hqm : wr.heap.size ≠ g.m := by have := hown.lt; omega
        have hOn := Lib.hid (HOO.out.alloc (.cells #[.int .i64 (n : Int), .string s] 87))
        have hSu := Lib.hid (HSU.out.alloc (.cells #[.int .i64 (n : Int), .string s] 87))
        have hMa := hown.alloc (.cells #[.int .i64 (n : Int), .string s] 87)
        clear k0 k1 k2 fs0 kn kb ko hown HOO HSU hgs hgsl hqb
        generalize wr.alloc (.cells #[.int .i64 (n : Int), .string s] 87) = w2 at *
        generalize wr.heap.size = q at *
        go_still_tail 9, (by kernel_rfl)
        change wpList _ _ _ _ _ w2.drew
        go_wp2
        have n0 : (w2.setCell ⟨gs, n, none⟩ (.string s)).drew.cell? ⟨q, 0, none⟩ = some (.int .i64 (n : Int)) := (cell_set_other w2 ⟨gs, n, none⟩ ⟨q, 0, none⟩ _ hqs).trans hq0
        have n2 : (w2.setCell ⟨gs, n, none⟩ (.string s)).drew.cell? ⟨D, o + 2, none⟩ = some (.map (some g.m)) := (cell_set_other w2 ⟨gs, n, none⟩ ⟨D, o + 2, none⟩ _ (fun e => hgD e.symm)).trans m2
        have hOn3 := Lib.hid ((hOn.out.setCell (p := ⟨gs, n, none⟩) (.inl (.inr (by rw [HSV.out]; rfl))) (.string s)).drew)
        have hSu3 : Hid ((w2.setCell ⟨gs, n, none⟩ (.string s)).drew.ownsRow 0 9 1 (.slice (some ⟨gs, 0, none⟩) sectors capS) sectors (((stlTo kp k.waits j k.sure).map sv).set n (.string s))) := Lib.hid (hSu.out.stored n (.string s)).1
        have hMa3 : (w2.setCell ⟨gs, n, none⟩ (.string s)).drew.ownsMap Try.prog 3 (plainElem Try.prog 3) g.m k.waits.length Dm := hMa.setCell (a := ⟨gs, n, none⟩) (fun e => hgm e.symm) (.string s)
        clear m0 m2 mf mo hq0 hq1 hOn hSu hMa
        generalize (w2.setCell ⟨gs, n, none⟩ (.string s)).drew = w3 at *
        go_still_tail 6, (by kernel_rfl)
        change wpList _ _ _ _ _ w3.drew
        refine wpList_delete_own _ rfl _ _ 51 3 rfl 3 lawInt Try.underlying51 _ g.m _ Dm rfl hMa3.drew _ _ rfl hkey ?_
        intro w4 hown4 hturn4
        have hOn4 := Lib.hid (hOn3.out.drew.grown hturn4.grown (fun b e => .inl (.inl (by injection e with e; exact e.symm))))
        have hSu4 := Lib.hid (hSu3.out.kept (w := w3.drew) hturn4.grown (.inr (fun e => hgm (by injection e))))
        clear n0 n2 hOn3 hSu3 hMa3 hturn4
        go_wp2
        go_roundw
        case rel =>
          refine ⟨j + 1, by omega, by go_num, ?_⟩
          refine Lib.hid ⟨hOn4.out, ?_, _, hown4, ?_⟩
          · rw [stlTo_succ _ _ _ _ HW.out, if_pos HKP.out, HSV.out, List.map_set, HS.out]
            exact hSu4.out
          · rw [leftOf_succ _ _ HW.out]
            exact del_is n HF.out
        case measure => simp [intOf]; omega
      case false =>
        rw [hkp] at hk1
        have HKP := Lib.hid hkp
        clear hkp
        go_wp2_with (go_at_call 46; refine (hk1.out _ (HOO.out.alloc _)).mono ?_; rintro e w' ⟨rfl, rfl⟩)
        have hgs := block_lt_of_cell k0
        have hq0 : (wr.alloc (.cells #[.int .i64 (n : Int), .string s] 87)).cell? ⟨wr.heap.size, 0, none⟩ = some (.int .i64 (n : Int)) := by rw [World.cell?_alloc_at _ _ _ _ rfl]; rfl
        have hq1 : (wr.alloc (.cells #[.int .i64 (n : Int), .string s] 87)).cell? ⟨wr.heap.size, 1, none⟩ = some (.string s) := by rw [World.cell?_alloc_at _ _ _ _ rfl]; rfl
        have hqb := heap_alloc_new wr (.cells #[.int .i64 (n : Int), .string s] 87)
        have m0 : (wr.alloc (.cells #[.int .i64 (n : Int), .string s] 87)).cell? ⟨D, o, none⟩ = some (.slice (some ⟨gs, 0, none⟩) sectors capS) := (World.cell?_alloc_lt wr _ ⟨D, o, none⟩ hgs).trans k0
        have m2 : (wr.alloc (.cells #[.int .i64 (n : Int), .string s] 87)).cell? ⟨D, o + 2, none⟩ = some (.map (some g.m)) := (World.cell?_alloc_lt wr _ ⟨D, o + 2, none⟩ hgs).trans k2
        have hgsl : gs < wr.heap.size := (HSU.out.lt gs rfl).2
        have mf : (wr.alloc (.cells #[.int .i64 (n : Int), .string s] 87)).frozen? ⟨gs, n, none⟩ = false := (World.frozen?_of_block (w := wr) (Below.heap_alloc _ _ _ hgsl)).trans fs0
        have mo : (wr.alloc (.cells #[.int .i64 (n : Int), .string s] 87)).cell? ⟨gs, n, none⟩ = some old := (World.cell?_alloc_lt wr _ ⟨gs, n, none⟩ hgsl).trans ko
        have hqs : wr.heap.size ≠ gs := by omega
        have hqm : wr.heap.size ≠ g.m := by have := hown.lt; omega
        have hOn := Lib.hid (HOO.out.alloc (.cells #[.int .i64 (n : Int), .string s] 87))
        have hSu := Lib.hid (HSU.out.alloc (.cells #[.int .i64 (n : Int), .string s] 87))
        have hMa := hown.alloc (.cells #[.int .i64 (n : Int), .string s] 87)
        clear k0 k1 k2 fs0 kn kb ko hown HOO HSU hgs hgsl hqb
        generalize wr.alloc (.cells #[.int .i64 (n : Int), .string s] 87) = w2 at *
        generalize wr.heap.size = q at *
        have n0 := hq0
        have n2 := m2
        have hOn3 := hOn
        have hSu3 := hSu
        have hMa3 := hMa
        clear hq0 hq1 m0 m2 mo mf hOn hSu hMa
        go_still_tail 6, (by kernel_rfl)
        change wpList _ _ _ _ _ w2.drew
        refine wpList_delete_own _ rfl _ _ 51 3 rfl 3 lawInt Try.underlying51 _ g.m _ Dm rfl hMa3.drew _ _ rfl hkey ?_
        intro w4 hown4 hturn4
        have hOn4 := Lib.hid (hOn3.out.drew.grown hturn4.grown (fun b e => .inl (.inl (by injection e with e; exact e.symm))))
        have hSu4 := Lib.hid (hSu3.out.kept (w := w2.drew) hturn4.grown (.inr (fun e => hgm (by injection e))))
        clear n0 n2 hOn3 hSu3 hMa3 hturn4
        go_wp2
        go_roundw
        case rel =>
          refine ⟨j + 1, by omega, by go_num, ?_⟩
          refine Lib.hid ⟨hOn4.out, ?_, _, hown4, ?_⟩
          · rw [stlTo_succ _ _ _ _ HW.out, if_neg (by rw [HKP.out]; decide), HSV.out]
            exact hSu4.out
          · rw [leftOf_succ _ _ HW.out]
            exact del_is n HF.out
        case measure => simp [intOf]; omega
    · obtain rfl : j = L := by omega
      have hO := hrel.out.only
      have k1 : wr.cell? ⟨D, o + 1, none⟩ = some (.slice A j cap) := (hO.cell hDlt hDF).trans c1
      have kf : wr.frozen? ⟨D, o + 1, none⟩ = false := (hO.frozen hDlt hDF).trans f1
      clear hk hrow hVF h c0 c1 c2 f1 hv HST hD hfits hO
      go_wp2
      go_end0
      exact ⟨rfl, wr, rfl, hrel.out⟩
end Go.Proofs.Ytbkcdomapdflaaa.Sh
