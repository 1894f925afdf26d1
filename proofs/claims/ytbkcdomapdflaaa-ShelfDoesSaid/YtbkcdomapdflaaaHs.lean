/-
  The contracts of a disk's settle: all waiting ends; those writes are sure that are kept (behind a Flush: all; behind a crash: those whose numbers stand in the list).
  Conditions: the disk lies in memory as 'DiskIs' says.
-/
import Derived.Test.YtbkcdomapdflaaaHw
namespace Go.Proofs.Ytbkcdomapdflaaa.Sh
open Go.RowKit Go.Maps

theorem row_ne_row {w : World} {base base2 : Nat} {e e2 : TypeId} {size size2 : Nat} {v v2 : Value} {n n2 b : Nat} {xs xs2 : List Value} (h : w.ownsRow base e size v n xs) (h2 : w.ownsRow base2 e2 size2 v2 n2 xs2) (hne : e ≠ e2) (hb : v.ownBlock = some b) : v2.ownBlock ≠ some b := by
  intro e
  rcases h.2 with ⟨rfl, rfl⟩ | ⟨g, cap, cur, rfl, _, hh, _⟩
  · cases hb
  · rcases h2.2 with ⟨rfl, rfl⟩ | ⟨g2, cap2, cur2, rfl, _, hh2, _⟩
    · cases e
    · simp only [Value.ownBlock, Option.some.injEq] at e hb
      subst hb
      subst e
      rw [hh] at hh2
      injection hh2 with hh2
      injection hh2 with _ hh2 _
      exact hne hh2
/-- Where a disk may be written while all waiting ends. -/
def setF (g : Gh) (b : Nat) : Prop := b = g.m ∨ g.s.ownBlock = some b
/-- What the map tells when so many writes have been looked at. -/
def leftOf (l : List (Nat × Bs)) (j : Nat) (y : Int) : Option Nat := if stillIn l j y then lastOf l y else none
theorem leftOf_zero (l : List (Nat × Bs)) : leftOf l 0 = lastOf l := by
  funext y
  unfold leftOf
  rw [stillIn_zero]
  cases h : lastOf l y <;> rfl
theorem leftOf_all (l : List (Nat × Bs)) : leftOf l l.length = fun _ => none := by
  funext y
  unfold leftOf
  rw [stillIn_all]; rfl
theorem leftOf_succ (l : List (Nat × Bs)) (j : Nat) {n : Nat} {b : Bs} (h : l[j]? = some (n, b)) : leftOf l (j + 1) = fun y => if (n : Int) = y then none else leftOf l j y := by
  funext y
  unfold leftOf
  rw [stillIn_succ l j y h]
  by_cases e : (n : Int) = y
  · rw [if_pos e, if_pos e]; rfl
  · rw [if_neg e, if_neg e]
structure SetRel (w wr : World) (g : Gh) (k : Dk) (kp : Nat → Bool) (sectors j : Nat) : Prop where
  only : Only (setF g) w wr
  sure : wr.ownsRow 0 9 1 g.s sectors ((stlTo kp k.waits j k.sure).map sv)
  map : MapIs wr g.m k.waits.length (leftOf k.waits j)
theorem SetRel.start {w : World} {g : Gh} {k : Dk} {sectors : Nat} (h : DiskIs w sectors g k) (kp : Nat → Bool) : SetRel w w g k kp sectors 0 :=
  ⟨Only.refl _ _, by rw [stlTo_zero]; exact h.sure, by rw [leftOf_zero]; exact h.map⟩
set_option maxRecDepth 20000 in
set_option maxHeartbeats 800000 in
theorem settle_all (w : World) (D o sectors : Nat) (g : Gh) (k : Dk) (h : DiskIs w sectors g k) (hs : sectors ≤ 4096) (hD : ¬ g.has D) (hL : k.waits.length < 4398046511104)
    (c0 : w.cell? ⟨D, o, none⟩ = some g.s) (c1 : w.cell? ⟨D, o + 1, none⟩ = some g.v) (f1 : w.frozen? ⟨D, o + 1, none⟩ = false) (c2 : w.cell? ⟨D, o + 2, none⟩ = some (.map (some g.m))) :
    Calls Try.prog 25 #[.pointer (some ⟨D, o, none⟩), .func (.func 26) #[] #[]] w fun e w' => e = .returned (.tuple #[]) ∧
      ∃ w1, w' = w1.setCell ⟨D, o + 1, none⟩ (.slice none 0 0) ∧ SetRel w w1 g k (fun _ => true) sectors k.waits.length := by
  have hD1 : g.m ≠ D := fun e => hD (.inr (.inl e))
  have hD3 : g.s.ownBlock ≠ some D := fun e => hD (.inl e)
  have hDF : ¬ setF g D := fun e => e.elim (fun e => hD1 e.symm) hD3
  have hDlt := block_lt_of_cell c1
  have hVF : ∀ b, g.v.ownBlock = some b → ¬ setF g b := fun b hb e => e.elim (fun e => row_ne_map h.waits h.map (by rw [hb, e])) (row_ne_row h.waits h.sure (by decide) hb)
  obtain ⟨A, cap, hv⟩ := own_shape2 h.waits
  have hrow := h.waits
  have hst := SetRel.start h (fun _ => true)
  have hfits := h.fits
  rw [hv] at c1 hrow hVF
  generalize hLL : k.waits.length = L at *
  have HL := Lib.hid hLL
  clear hLL
  have HST := Lib.hid hst
  clear hst
  go_enter Try.func25, Try.ntmps25
  go_wp2
  go_loopw [11] (fun i wr => ∃ j : Nat, j ≤ L ∧ i = .int .i64 j ∧ Hid (SetRel w wr g k (fun _ => true) sectors j)) (fun i _ => L - (intOf i).toNat)
  case atStart => exact ⟨0, Nat.zero_le _, rfl, HST⟩
  case round =>
    obtain ⟨j, hj, rfl, hrel⟩ := hrel
    by_cases hlt : j < L
    · obtain ⟨n, b, hjw⟩ : ∃ n b, k.waits[j]? = some (n, b) := ⟨_, _, List.getElem?_eq_getElem (by rw [HL.out]; exact hlt)⟩
      obtain ⟨gv, cap2, he, hgvlt, hlc, hcm⟩ := own_form hrow (by omega)
      simp only [Value.slice.injEq, true_and] at he
      obtain ⟨rfl, rfl⟩ := he
      have hmem := hfits _ (List.mem_of_getElem? hjw)
      obtain ⟨gs, capS, hsv, hgslt, hslc, hscm⟩ := own_form h.sure (by have := hmem.1; omega)
      have hO := hrel.out.only
      have hsure := hrel.out.sure
      have hgD : gs ≠ D := fun e => hD3 (by rw [hsv, e]; rfl)
      have hgm : gs ≠ g.m := fun e => row_ne_map h.sure h.map (by rw [hsv, e]; rfl)
      have k0 : wr.cell? ⟨D, o, none⟩ = some (.slice (some ⟨gs, 0, none⟩) sectors capS) := (hO.cell hDlt hDF).trans (by rw [c0, hsv])
      have k1 : wr.cell? ⟨D, o + 1, none⟩ = some (.slice (some ⟨gv, 0, none⟩) L cap) := (hO.cell hDlt hDF).trans c1
      have k2 : wr.cell? ⟨D, o + 2, none⟩ = some (.map (some g.m)) := (hO.cell hDlt hDF).trans c2
      have hgvF := hVF gv rfl
      have hfl := flat_at _ _ _ _ hjw
      have kn : wr.cell? ⟨gv, j * 2, none⟩ = some (.int .i64 (n : Int)) := (hO.cell hgvlt hgvF).trans (cell_at hrow hfl.1)
      have kb : wr.cell? ⟨gv, j * 2 + 1, none⟩ = some (.string (strL b)) := (hO.cell hgvlt hgvF).trans (cell_at hrow hfl.2)
      have hn := hmem.1
      rw [hsv] at hsure
      have fs : ∀ i, wr.frozen? ⟨gs, i, none⟩ = false := fun i => hsure.frozenAt i
      have fs0 := fs n
      obtain ⟨old, ko⟩ : ∃ old, wr.cell? ⟨gs, n, none⟩ = some old := by
        have hlen : n < ((stlTo (fun _ => true) k.waits j k.sure).map sv).length := by rw [hsure.1]; omega
        exact ⟨_, cell_at hsure (List.getElem?_eq_getElem hlen)⟩
      obtain ⟨Dm, hown, hf⟩ := hrel.out.map
      have hkey := keyInt n (by omega)
      have hsz := hO.size
      have HSV := Lib.hid hsv
      have HF := Lib.hid hf
      have HW := Lib.hid hjw
      have HSU := Lib.hid hsure
      have HOO := Lib.hid hO
      clear hsv hf hjw hsure hO hfl fs hmem hfits hrow hrel hVF h c0 c1 c2 f1 hv HST hD
      have HS := Lib.hid (show sv b = .string (strL b) from rfl)
      generalize strL b = s at *
      go_wp2_with (first | go_in)
      have hgs := block_lt_of_cell k0
      have hq0 : (wr.alloc (.cells #[.int .i64 (n : Int), .string s] 87)).cell? ⟨wr.heap.size, 0, none⟩ = some (.int .i64 (n : Int)) := by rw [World.cell?_alloc_at _ _ _ _ rfl]; rfl
      have hq1 : (wr.alloc (.cells #[.int .i64 (n : Int), .string s] 87)).cell? ⟨wr.heap.size, 1, none⟩ = some (.string s) := by rw [World.cell?_alloc_at _ _ _ _ rfl]; rfl
      have hqb := heap_alloc_new wr (.cells #[.int .i64 (n : Int), .string s] 87)
      have m0 : (wr.alloc (.cells #[.int .i64 (n : Int), .string s] 87)).cell? ⟨D, o, none⟩ = some (.slice (some ⟨gs, 0, none⟩) sectors capS) := (World.cell?_alloc_lt wr _ ⟨D, o, none⟩ hgs).trans k0
      have m2 : (wr.alloc (.cells #[.int .i64 (n : Int), .string s] 87)).cell? ⟨D, o + 2, none⟩ = some (.map (some g.m)) := (World.cell?_alloc_lt wr _ ⟨D, o + 2, none⟩ hgs).trans k2
      have hgsl : gs < wr.heap.size := (HSU.out.lt gs rfl).2
      have mf : (wr.alloc (.cells #[.int .i64 (n : Int), .string s] 87)).frozen? ⟨gs, n, none⟩ = false := (World.frozen?_of_block (w := wr) (Below.heap_alloc _ _ _ hgsl)).trans fs0
      have mo : (wr.alloc (.cells #[.int .i64 (n : Int), .string s] 87)).cell? ⟨gs, n, none⟩ = some old := (World.cell?_alloc_lt wr _ ⟨gs, n, none⟩ hgsl).trans ko
      have hqs : wr.heap.size ≠ gs := by omega
      have hqm : wr.heap.size ≠ g.m := by have := hown.lt; omega
      have hOn := Lib.hid (HOO.out.alloc (.cells #[.int .i64 (n : Int), .string s] 87))
      have hSu := Lib.hid (HSU.out.alloc (.cells #[.int .i64 (n : Int), .string s] 87))
      have hMa := hown.alloc (.cells #[.int .i64 (n : Int), .string s] 87)
      clear k0 k1 k2 fs0 kn kb ko hown HOO HSU hgs hgsl hqb
      generalize wr.alloc (.cells #[.int .i64 (n : Int), .string s] 87) = w2 at *
      generalize wr.heap.size = q at *
      go_still_tail 9, (by kernel_rfl)
      change wpList _ _ _ _ _ w2.drew
      go_wp2
      have n0 : (w2.setCell ⟨gs, n, none⟩ (.string s)).drew.cell? ⟨q, 0, none⟩ = some (.int .i64 (n : Int)) := (cell_set_other w2 ⟨gs, n, none⟩ ⟨q, 0, none⟩ _ hqs).trans hq0
      have n2 : (w2.setCell ⟨gs, n, none⟩ (.string s)).drew.cell? ⟨D, o + 2, none⟩ = some (.map (some g.m)) := (cell_set_other w2 ⟨gs, n, none⟩ ⟨D, o + 2, none⟩ _ (fun e => hgD e.symm)).trans m2
      have hOn3 := Lib.hid ((hOn.out.setCell (p := ⟨gs, n, none⟩) (.inl (.inr (by rw [HSV.out]; rfl))) (.string s)).drew)
      have hSu3 : Hid ((w2.setCell ⟨gs, n, none⟩ (.string s)).drew.ownsRow 0 9 1 (.slice (some ⟨gs, 0, none⟩) sectors capS) sectors (((stlTo (fun _ => true) k.waits j k.sure).map sv).set n (.string s))) := Lib.hid (hSu.out.stored n (.string s)).1
      have hMa3 : (w2.setCell ⟨gs, n, none⟩ (.string s)).drew.ownsMap Try.prog 3 (plainElem Try.prog 3) g.m k.waits.length Dm := hMa.setCell (a := ⟨gs, n, none⟩) (fun e => hgm e.symm) (.string s)
      clear m0 m2 mf mo hq0 hq1 hOn hSu hMa
      generalize (w2.setCell ⟨gs, n, none⟩ (.string s)).drew = w3 at *
      go_still_tail 6, (by kernel_rfl)
      change wpList _ _ _ _ _ w3.drew
      refine wpList_delete_own _ rfl _ _ 51 3 rfl 3 lawInt Try.underlying51 _ g.m _ Dm rfl hMa3.drew _ _ rfl hkey ?_
      intro w4 hown4 hturn4
      have hOn4 := Lib.hid (hOn3.out.drew.grown hturn4.grown (fun b e => .inl (.inl (by injection e with e; exact e.symm))))
      have hSu4 := Lib.hid (hSu3.out.kept (w := w3.drew) hturn4.grown (.inr (fun e => hgm (by injection e))))
      clear n0 n2 hOn3 hSu3 hMa3 hturn4
      go_wp2
      go_roundw
      case rel =>
        refine ⟨j + 1, by omega, by go_num, ?_⟩
        refine Lib.hid ⟨hOn4.out, ?_, _, hown4, ?_⟩
        · rw [stlTo_succ _ _ _ _ HW.out, if_pos rfl, HSV.out, List.map_set, HS.out]
          exact hSu4.out
        · rw [leftOf_succ _ _ HW.out]
          exact del_is n HF.out
      case measure => simp [intOf]; omega
    · obtain rfl : j = L := by omega
      have hO := hrel.out.only
      have k1 : wr.cell? ⟨D, o + 1, none⟩ = some (.slice A j cap) := (hO.cell hDlt hDF).trans c1
      have kf : wr.frozen? ⟨D, o + 1, none⟩ = false := (hO.frozen hDlt hDF).trans f1
      clear hrow hVF h c0 c1 c2 f1 hv HST hD hfits hO
      go_wp2
      go_end0
      exact ⟨rfl, wr, rfl, hrel.out⟩
end Go.Proofs.Ytbkcdomapdflaaa.Sh
