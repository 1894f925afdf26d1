/-
  PplCrash is true for every calls and crash: behind the crash the slot tells that it has nothing, or a head and a part of what was put there.
  Conditions: none of its own; the tables hold what the program's text lays (the card ties that).
-/
import Derived.Test.YtohdieddocogkaaDoorQq
namespace Go.Proofs.YtohdieddocogkaaDoor.U.pplCrash
open Go.ChangeShapes Go.WideShapes Go.ChangeAt Go.RowKit Go.Maps

def Hm (zs : List RecV) (x0 x1 : Int) (lp : Sh.Bs) (j : Nat) : Prop := (zf zs j).s = x0 ∧ (zf zs j).q = x1 ∧ Nums.sum 0 (zf zs j).l = Nums.sum 0 lp
def Pm (zs : List RecV) (sv : ByteArray) (j : Nat) : Prop := (Sh.strL (zf zs j).l).toList = sv.toList
theorem no_step {Q : Nat → Prop} {b b' : Bool} {i : Nat} (h : b = true ∨ ∀ j, j < i → ¬ Q j) (hq : b' = true ∨ ¬ Q i) (hb : b = true → b' = true) : b' = true ∨ ∀ j, j < i + 1 → ¬ Q j := by
  rcases hq with hq | hq
  · exact .inl hq
  · rcases h with h | h
    · exact .inl (hb h)
    · refine .inr fun j hj => ?_
      by_cases e : j = i
      · subst e; exact hq
      · exact h j (by omega)
theorem zf_of {zs : List RecV} {z : RecV} (h : z ∈ zs) : ∃ j, j < zs.length ∧ zf zs j = z := by
  obtain ⟨j, hj, e⟩ := List.mem_iff_getElem.1 h
  exact ⟨j, hj, by unfold zf; simp [List.getD, hj, e]⟩
/-- What is there behind the crash: two of those that were put tell it. -/
theorem found {zs : List RecV} {c : Nat → Sh.Bs} {h lp : Sh.Bs} (hP : MayP zs c) (h4 : c 4 = h) (h5 : c 5 = lp) (hz : h ≠ Sh.noughts) (hok : okD h lp 128 = true) (hlp : Small lp) (hS : ∀ z ∈ zs, Small z.l) :
    (∃ j, j < zs.length ∧ Hm zs ((numAt h 0 : Nat) : Int) ((numAt h 1 : Nat) : Int) lp j) ∧ ∃ j, j < zs.length ∧ Pm zs (Sh.strL lp) j := by
  rcases hP with e | ⟨⟨z, hz1, x, t, e1, e2, hx, ht, e3⟩, z', hz2, e4⟩
  · exact absurd (h4.symm.trans e) hz
  · obtain ⟨j, hj, ej⟩ := zf_of hz1
    obtain ⟨j', hj', ej'⟩ := zf_of hz2
    have hs := Nums.sum_lt (hS z hz1) (s := 0) (by decide)
    have hs2 := Nums.sum_lt hlp (s := 0) (by decide)
    have f0 := numAt_head (numF x t (Nums.sum 0 z.l)) 0 (by decide) (by show x < _; omega)
    have f1 := numAt_head (numF x t (Nums.sum 0 z.l)) 1 (by decide) (by show t < _; omega)
    have f2 := numAt_head (numF x t (Nums.sum 0 z.l)) 2 (by decide) hs
    rw [← e3, h4] at f0 f1 f2
    have g2 := numAt_head (numF (numAt h 0) (numAt h 1) (Nums.sum 0 lp)) 2 (by decide) hs2
    rw [← (okD_is hok).1] at g2
    refine ⟨⟨j, hj, ?_, ?_, ?_⟩, j', hj', ?_⟩
    · rw [ej, e1, f0]; rfl
    · rw [ej, e2, f1]; rfl
    · rw [ej]; exact f2.symm.trans g2
    · unfold Pm; rw [ej', ← e4, h5]
set_option maxRecDepth 100000 in
set_option maxHeartbeats 16000000 in
theorem walk {w : World} (B0 : Option Addr) (nn c0 : Nat) (f : Nat → Op7) (hops : Ops7 w B0 nn f) (stop : Int) (hs1 : -9223372036854775808 ≤ stop) (hs2 : stop ≤ 9223372036854775807) (C : Option Addr) (bn bc : Nat) (ks : List (List Int)) (hbn : bn ≤ 9223372036854775807) (hk : KeepIs w (Old w) C bn ks) (hA : All w) :
    Calls Tryd.prog 7 #[.slice B0 nn c0, .int .i64 stop, .slice C bn bc] w fun e w' => e = .returned (.bool true) ∧ Below w.heap.size w w' := by
  obtain ⟨i0, hi, hz0, hz1, hz2⟩ := info_parts info_rec
  have hnn := hops.1
  have HOP := Lib.hid hops
  have HKS := Lib.hid hk
  have HST := Lib.hid (fun (W w1 : World) g a p o S F (h : Lg W.heap.size W w1 g a p 0 o S F 2) => s_stop h stop hs1 hs2)
  clear hops hk hs1 hs2
  go_enter Tryd.func7, Tryd.ntmps7
  go_wp2_with fail
  refine (open_any 2 (by decide) (by decide) w).mono ?_
  rintro e w1 ⟨p, g, a, F, rfl, L1⟩
  have A1 := hA.over L1.dv.on.bel
  go_wp2_with fail
  refine (lives_true w1 A1.tabs A1.fld).mono ?_
  rintro e w2 ⟨rfl, b2⟩
  have HSS := Lib.hid (HST.out _ _ _ _ _ _ _ _ (L1.grown b2))
  clear L1 A1 b2 HST
  go_wp2_with fail
  refine HSS.out.mono ?_
  rintro e w3 ⟨rfl, L3⟩
  have B3 := Lib.hid (show Bg w w3 g a p (.slice none 0 0) 0 [] from ⟨⟨-1, (Sh.newSf 1 40).doStop stop, F, L3, ((Jp.new (n := 1) (s := 40) (d := 0) (by decide)).1.more (fun c h => .inl (h 4 (by decide)))).stop stop, by unfold Sh.Sf.doStop; split <;> rfl, by
    have : ((Sh.newSf 1 40).doStop stop).disks = (Sh.newSf 1 40).disks := by unfold Sh.Sf.doStop; split <;> rfl
    rw [this]
    intro k hk
    have hk : k ∈ List.replicate 1 (Sh.newDk 40) := hk
    rw [(List.mem_replicate.1 hk).2]
    exact Nat.le_refl _, fun b e => by cases e⟩, World.ownsRow_nil _ _ _ _, fun z hz => by cases hz⟩)
  clear HSS L3
  go_wp2_with fail
  go_loopw [10, 11] (fun s10 s11 wr => ∃ (k : Nat) (zs : List RecV), k ≤ nn ∧ k ≤ 300 ∧ zs.length ≤ k ∧ s11 = .int .i64 k ∧ Hid (Bg w wr g a p s10 k zs)) (fun _ i _ => 300 - (intOf i).toNat)
  case atStart => exact ⟨0, [], Nat.zero_le _, Nat.zero_le _, Nat.le_refl _, rfl, B3⟩
  case round =>
    obtain ⟨k, zs, hk, hk2, hzl, rfl, hbag⟩ := hrel
    clear B3
    by_cases hlt : k < nn ∧ k < 300
    · obtain ⟨hlt, hlt2⟩ := hlt
      obtain ⟨b, off, rfl, hbl, hop⟩ := HOP.out.2 (by omega)
      have hop := hop k hlt
      have hbel := hbag.out.bel
      have D0 := Lib.hid (show ∀ W', Below w.heap.size w W' → W'.cell? ⟨b, off + k * 5, none⟩ = some (.int .i64 (f k).kind) from fun W' h => (h.cell (p := ⟨b, off + k * 5, none⟩) hbl).trans hop.c0)
      have D1 := Lib.hid (show ∀ W', Below w.heap.size w W' → W'.cell? ⟨b, off + k * 5 + 1, none⟩ = some (.int .i64 (f k).slot) from fun W' h => (h.cell (p := ⟨b, off + k * 5 + 1, none⟩) hbl).trans hop.c1)
      have D2 := Lib.hid (show ∀ W', Below w.heap.size w W' → W'.cell? ⟨b, off + k * 5 + 2, none⟩ = some (.int .i64 (f k).r.s) from fun W' h => (h.cell (p := ⟨b, off + k * 5 + 2, none⟩) hbl).trans hop.c2)
      have D3 := Lib.hid (show ∀ W', Below w.heap.size w W' → W'.cell? ⟨b, off + k * 5 + 3, none⟩ = some (.int .i64 (f k).r.q) from fun W' h => (h.cell (p := ⟨b, off + k * 5 + 3, none⟩) hbl).trans hop.c3)
      have D4 := Lib.hid (show ∀ W', Below w.heap.size w W' → W'.cell? ⟨b, off + k * 5 + 4, none⟩ = some (.slice (f k).r.A (f k).r.n (f k).r.c) from fun W' h => (h.cell (p := ⟨b, off + k * 5 + 4, none⟩) hbl).trans hop.c4)
      have HZC := Lib.hid hop.rc
      have HB1 := Lib.hid hop.b1
      have d0 := D0.out _ hbel
      have d1 := D1.out _ hbel
      clear hop
      generalize (f k).kind = kind at *
      generalize (f k).slot = slot at *
      generalize (f k).r = zz at *
      by_cases hk1 : kind = 1
      · subst hk1
        by_cases hs : slot = 1
        · subst hs
          have d2 := D2.out _ hbel
          have d3 := D3.out _ hbel
          have d4 := D4.out _ hbel
          have hbw : Below wr.heap.size wr (wr.alloc (.cells #[.int .i64 zz.s, .int .i64 zz.q, .slice zz.A zz.n zz.c] 24)) := (Below.refl _ _).alloc (Nat.le_refl _) _
          have hnews : ∀ j u, (zz.cells3)[j]? = some u → (wr.alloc (.cells #[.int .i64 zz.s, .int .i64 zz.q, .slice zz.A zz.n zz.c] 24)).cell? ((⟨wr.heap.size, 0, none⟩ : Addr).add j) = some u := by
            intro j u hu
            have hrow := heap_alloc_new wr (.cells #[.int .i64 zz.s, .int .i64 zz.q, .slice zz.A zz.n zz.c] 24)
            rw [add_plain, Nat.zero_add, cell_of_row _ _ j _ _ _ hrow]
            exact (List.getElem?_toArray (xs := zz.cells3)).trans hu
          have hB0 := hbag.out.grown hbw
          have hown := hB0.own
          have hsz := Nat.le_trans hbel.size hbw.size
          have HBB := Lib.hid hB0
          clear hB0 hbag hbw hbel
          go_wp2_with (at_builtin; refine wpList_append_own_at _ rfl _ _ 45 rfl w.heap.size 24 i0 _ 3 40 Tryd.underlying45 hi hz0 hz1 hz2 rfl (by decide) _ zs.length (rowsOf zs) rfl hown ⟨wr.heap.size, 0, none⟩ 1 1 zz.cells3 rfl rfl hnews (by intro u hu; simp [RecV.cells3] at hu; rcases hu with rfl | rfl | rfl <;> rfl) (by unfold maxLen; omega) (by omega) hsz ?_; intro v5 w5 own5 hg5 _ hob5)
          have HB5 := Lib.hid (HBB.out.app zz HZC.out own5 hg5 hob5)
          clear own5 hg5 hob5 hnews hown HBB d2 d3 d4
          have e1 := D1.out
          have e2 := D2.out
          have e3 := D3.out
          have e4 := D4.out
          refine wp_region_held_drew (S := fun W' => Below w.heap.size w W') (by kernel_rfl) (HB5.out.bel.drew) (fun hHeld => ?_)
          refine wpAnyH_take (i := 0) (oi := ⟨some 66, _, _, _, _, _⟩) (v := ?_) rfl (by kernel_rfl) (by kernel_rfl) (by kernel_rfl) (fun _ _ _ h => h) (Or.inl ⟨by rfl, ?_⟩) (by assumption) ?_
          rotate_left
          · (intro w hSw; (try dsimp only at hSw); go_simp; first | done | with_reducible rfl)
          try simp only [Act.put, List.setIfInBounds_toArray, List.set_cons_zero, List.set_cons_succ]
          refine wpAnyH_take (i := 1) (oi := ⟨some 67, _, _, _, _, _⟩) (v := ?_) rfl (by kernel_rfl) (by kernel_rfl) (by kernel_rfl) (fun _ _ _ h => h) (Or.inl ⟨by rfl, ?_⟩) (by assumption) ?_
          rotate_left
          · (intro w hSw; (try dsimp only at hSw); go_simp; first | done | with_reducible rfl)
          try simp only [Act.put, List.setIfInBounds_toArray, List.set_cons_zero, List.set_cons_succ]
          refine wpAnyH_take (i := 2) (oi := ⟨some 68, _, _, _, _, _⟩) (v := ?_) rfl (by kernel_rfl) (by kernel_rfl) (by kernel_rfl) (fun _ _ _ h => h) (Or.inl ⟨by rfl, ?_⟩) (by assumption) ?_
          rotate_left
          · (intro w hSw; (try dsimp only at hSw); go_simp; first | done | with_reducible rfl)
          try simp only [Act.put, List.setIfInBounds_toArray, List.set_cons_zero, List.set_cons_succ]
          refine wpAnyH_take (i := 3) (oi := ⟨some 69, _, _, _, _, _⟩) (v := ?_) rfl (by kernel_rfl) (by kernel_rfl) (by kernel_rfl) (fun _ _ _ h => h) (Or.inl ⟨by rfl, ?_⟩) (by assumption) ?_
          rotate_left
          · (intro w hSw; (try dsimp only at hSw); go_simp; first | done | with_reducible rfl)
          try simp only [Act.put, List.setIfInBounds_toArray, List.set_cons_zero, List.set_cons_succ]
          refine wpAnyH_take (i := 4) (oi := ⟨some 70, _, _, _, _, _⟩) (v := ?_) rfl (by kernel_rfl) (by kernel_rfl) (by kernel_rfl) (fun _ _ _ h => h) (Or.inl ⟨by rfl, ?_⟩) (by assumption) ?_
          rotate_left
          · (intro w hSw; (try dsimp only at hSw); go_simp; first | done | with_reducible rfl)
          try simp only [Act.put, List.setIfInBounds_toArray, List.set_cons_zero, List.set_cons_succ]
          refine wpAnyH_take (i := 5) (oi := ⟨some 71, _, _, _, _, _⟩) (v := ?_) rfl (by kernel_rfl) (by kernel_rfl) (by kernel_rfl) (fun _ _ _ h => h) (Or.inl ⟨by rfl, ?_⟩) (by assumption) ?_
          rotate_left
          · (intro w hSw; (try dsimp only at hSw); go_simp; first | done | with_reducible rfl)
          try simp only [Act.put, List.setIfInBounds_toArray, List.set_cons_zero, List.set_cons_succ]
          refine wpAnyH_take (i := 6) (oi := ⟨some 72, _, _, _, _, _⟩) (v := ?_) rfl (by kernel_rfl) (by kernel_rfl) (by kernel_rfl) (fun _ _ _ h => h) (Or.inl ⟨by rfl, ?_⟩) (by assumption) ?_
          rotate_left
          · (intro w hSw; (try dsimp only at hSw); go_simp; first | done | with_reducible rfl)
          try simp only [Act.put, List.setIfInBounds_toArray, List.set_cons_zero, List.set_cons_succ]
          refine wpAnyH_take (i := 7) (oi := ⟨some 73, _, _, _, _, _⟩) (v := ?_) rfl (by kernel_rfl) (by kernel_rfl) (by kernel_rfl) (fun _ _ _ h => h) (Or.inl ⟨by rfl, ?_⟩) (by assumption) ?_
          rotate_left
          · (intro w hSw; (try dsimp only at hSw); go_simp; first | done | with_reducible rfl)
          try simp only [Act.put, List.setIfInBounds_toArray, List.set_cons_zero, List.set_cons_succ]
          refine wpAnyH_take (i := 8) (oi := ⟨some 74, _, _, _, _, _⟩) (v := ?_) rfl (by kernel_rfl) (by kernel_rfl) (by kernel_rfl) (fun _ _ _ h => h) (Or.inl ⟨by rfl, ?_⟩) (by assumption) ?_
          rotate_left
          · (intro w hSw; (try dsimp only at hSw); go_simp; first | done | with_reducible rfl)
          try simp only [Act.put, List.setIfInBounds_toArray, List.set_cons_zero, List.set_cons_succ]
          refine wpAnyH_take (i := 9) (oi := ⟨some 75, _, _, _, _, _⟩) (v := ?_) rfl (by kernel_rfl) (by kernel_rfl) (by kernel_rfl) (fun _ _ _ h => h) (Or.inl ⟨by rfl, ?_⟩) (by assumption) ?_
          rotate_left
          · (intro w hSw; (try dsimp only at hSw); go_simp; first | done | with_reducible rfl)
          try simp only [Act.put, List.setIfInBounds_toArray, List.set_cons_zero, List.set_cons_succ]
          refine wpAnyH_take (i := 10) (oi := ⟨some 76, _, _, _, _, _⟩) (v := ?_) rfl (by kernel_rfl) (by kernel_rfl) (by kernel_rfl) (fun _ _ _ h => h) (Or.inl ⟨by rfl, ?_⟩) (by assumption) ?_
          rotate_left
          · (intro w hSw; (try dsimp only at hSw); go_simp; first | done | with_reducible rfl)
          try simp only [Act.put, List.setIfInBounds_toArray, List.set_cons_zero, List.set_cons_succ]
          refine wpAnyH_ready (rs := [11]) (by kernel_rfl) (by simp) ?_
          refine AllReadyH.cons (o := ⟨some 77, _, _, _, _, _⟩) rfl (fun K hK => ?_) AllReadyH.nil
          go_simp
          refine ((HB5.out.grown (w' := w5.drew) ((Below.refl _ _).drew)).put hA (by omega) 1 HB1.out zz HZC.out (fun _ => List.mem_append_right _ (List.mem_singleton.2 rfl))).mono ?_
          rintro e w9 ⟨⟨y, rfl⟩, hB9⟩
          refine hK.out _ _ (hB9.bel) (fun hHeld => ?_)
          clear hK K
          try simp only [Act.put, List.setIfInBounds_toArray, List.set_cons_zero, List.set_cons_succ]
          refine wpAnyH_done (by kernel_rfl) ?_ _
          clear hHeld e1 e2 e3 e4
          go_wp2_with fail
          go_roundw
          case rel => exact ⟨k + 1, _, by omega, by omega, by rw [List.length_append]; show _ + 1 ≤ _; omega, by go_num, Lib.hid hB9⟩
          case measure => simp [intOf]; omega
        · have hq2 : (slot == 1) = false := by rw [beq_eq_false_iff_ne]; exact hs
          go_wp2_with fail
          have e1 := D1.out
          have e2 := D2.out
          have e3 := D3.out
          have e4 := D4.out
          refine wp_region_held_drew (S := fun W' => Below w.heap.size w W') (by kernel_rfl) (hbag.out.bel.drew) (fun hHeld => ?_)
          refine wpAnyH_take (i := 0) (oi := ⟨some 66, _, _, _, _, _⟩) (v := ?_) rfl (by kernel_rfl) (by kernel_rfl) (by kernel_rfl) (fun _ _ _ h => h) (Or.inl ⟨by rfl, ?_⟩) (by assumption) ?_
          rotate_left
          · (intro w hSw; (try dsimp only at hSw); go_simp; first | done | with_reducible rfl)
          try simp only [Act.put, List.setIfInBounds_toArray, List.set_cons_zero, List.set_cons_succ]
          refine wpAnyH_take (i := 1) (oi := ⟨some 67, _, _, _, _, _⟩) (v := ?_) rfl (by kernel_rfl) (by kernel_rfl) (by kernel_rfl) (fun _ _ _ h => h) (Or.inl ⟨by rfl, ?_⟩) (by assumption) ?_
          rotate_left
          · (intro w hSw; (try dsimp only at hSw); go_simp; first | done | with_reducible rfl)
          try simp only [Act.put, List.setIfInBounds_toArray, List.set_cons_zero, List.set_cons_succ]
          refine wpAnyH_take (i := 2) (oi := ⟨some 68, _, _, _, _, _⟩) (v := ?_) rfl (by kernel_rfl) (by kernel_rfl) (by kernel_rfl) (fun _ _ _ h => h) (Or.inl ⟨by rfl, ?_⟩) (by assumption) ?_
          rotate_left
          · (intro w hSw; (try dsimp only at hSw); go_simp; first | done | with_reducible rfl)
          try simp only [Act.put, List.setIfInBounds_toArray, List.set_cons_zero, List.set_cons_succ]
          refine wpAnyH_take (i := 3) (oi := ⟨some 69, _, _, _, _, _⟩) (v := ?_) rfl (by kernel_rfl) (by kernel_rfl) (by kernel_rfl) (fun _ _ _ h => h) (Or.inl ⟨by rfl, ?_⟩) (by assumption) ?_
          rotate_left
          · (intro w hSw; (try dsimp only at hSw); go_simp; first | done | with_reducible rfl)
          try simp only [Act.put, List.setIfInBounds_toArray, List.set_cons_zero, List.set_cons_succ]
          refine wpAnyH_take (i := 4) (oi := ⟨some 70, _, _, _, _, _⟩) (v := ?_) rfl (by kernel_rfl) (by kernel_rfl) (by kernel_rfl) (fun _ _ _ h => h) (Or.inl ⟨by rfl, ?_⟩) (by assumption) ?_
          rotate_left
          · (intro w hSw; (try dsimp only at hSw); go_simp; first | done | with_reducible rfl)
          try simp only [Act.put, List.setIfInBounds_toArray, List.set_cons_zero, List.set_cons_succ]
          refine wpAnyH_take (i := 5) (oi := ⟨some 71, _, _, _, _, _⟩) (v := ?_) rfl (by kernel_rfl) (by kernel_rfl) (by kernel_rfl) (fun _ _ _ h => h) (Or.inl ⟨by rfl, ?_⟩) (by assumption) ?_
          rotate_left
          · (intro w hSw; (try dsimp only at hSw); go_simp; first | done | with_reducible rfl)
          try simp only [Act.put, List.setIfInBounds_toArray, List.set_cons_zero, List.set_cons_succ]
          refine wpAnyH_take (i := 6) (oi := ⟨some 72, _, _, _, _, _⟩) (v := ?_) rfl (by kernel_rfl) (by kernel_rfl) (by kernel_rfl) (fun _ _ _ h => h) (Or.inl ⟨by rfl, ?_⟩) (by assumption) ?_
          rotate_left
          · (intro w hSw; (try dsimp only at hSw); go_simp; first | done | with_reducible rfl)
          try simp only [Act.put, List.setIfInBounds_toArray, List.set_cons_zero, List.set_cons_succ]
          refine wpAnyH_take (i := 7) (oi := ⟨some 73, _, _, _, _, _⟩) (v := ?_) rfl (by kernel_rfl) (by kernel_rfl) (by kernel_rfl) (fun _ _ _ h => h) (Or.inl ⟨by rfl, ?_⟩) (by assumption) ?_
          rotate_left
          · (intro w hSw; (try dsimp only at hSw); go_simp; first | done | with_reducible rfl)
          try simp only [Act.put, List.setIfInBounds_toArray, List.set_cons_zero, List.set_cons_succ]
          refine wpAnyH_take (i := 8) (oi := ⟨some 74, _, _, _, _, _⟩) (v := ?_) rfl (by kernel_rfl) (by kernel_rfl) (by kernel_rfl) (fun _ _ _ h => h) (Or.inl ⟨by rfl, ?_⟩) (by assumption) ?_
          rotate_left
          · (intro w hSw; (try dsimp only at hSw); go_simp; first | done | with_reducible rfl)
          try simp only [Act.put, List.setIfInBounds_toArray, List.set_cons_zero, List.set_cons_succ]
          refine wpAnyH_take (i := 9) (oi := ⟨some 75, _, _, _, _, _⟩) (v := ?_) rfl (by kernel_rfl) (by kernel_rfl) (by kernel_rfl) (fun _ _ _ h => h) (Or.inl ⟨by rfl, ?_⟩) (by assumption) ?_
          rotate_left
          · (intro w hSw; (try dsimp only at hSw); go_simp; first | done | with_reducible rfl)
          try simp only [Act.put, List.setIfInBounds_toArray, List.set_cons_zero, List.set_cons_succ]
          refine wpAnyH_take (i := 10) (oi := ⟨some 76, _, _, _, _, _⟩) (v := ?_) rfl (by kernel_rfl) (by kernel_rfl) (by kernel_rfl) (fun _ _ _ h => h) (Or.inl ⟨by rfl, ?_⟩) (by assumption) ?_
          rotate_left
          · (intro w hSw; (try dsimp only at hSw); go_simp; first | done | with_reducible rfl)
          try simp only [Act.put, List.setIfInBounds_toArray, List.set_cons_zero, List.set_cons_succ]
          refine wpAnyH_ready (rs := [11]) (by kernel_rfl) (by simp) ?_
          refine AllReadyH.cons (o := ⟨some 77, _, _, _, _, _⟩) rfl (fun K hK => ?_) AllReadyH.nil
          go_simp
          refine ((hbag.out.grown (w' := wr.drew) ((Below.refl _ _).drew)).put hA (by omega) slot HB1.out zz HZC.out (fun e => absurd e hs)).mono ?_
          rintro e w9 ⟨⟨y, rfl⟩, hB9⟩
          refine hK.out _ _ (hB9.bel) (fun hHeld => ?_)
          clear hK K
          try simp only [Act.put, List.setIfInBounds_toArray, List.set_cons_zero, List.set_cons_succ]
          refine wpAnyH_done (by kernel_rfl) ?_ _
          clear hHeld e1 e2 e3 e4
          go_wp2_with fail
          go_roundw
          case rel => exact ⟨k + 1, _, by omega, by omega, by omega, by go_num, Lib.hid hB9⟩
          case measure => simp [intOf]; omega
      · have hq1 : (kind == 1) = false := by rw [beq_eq_false_iff_ne]; exact hk1
        clear hk1
        by_cases hk3 : kind = 2
        · subst hk3
          go_wp2_with fail
          refine (hbag.out.clear hA (by omega) slot HB1.out).mono ?_
          rintro e w9 ⟨⟨y, rfl⟩, hB9⟩
          go_wp2_with fail
          go_roundw
          case rel => exact ⟨k + 1, _, by omega, by omega, by omega, by go_num, Lib.hid hB9⟩
          case measure => simp [intOf]; omega
        · have hq3 : (kind == 2) = false := by rw [beq_eq_false_iff_ne]; exact hk3
          clear hk3
          go_wp2_with fail
          go_roundw
          case rel => exact ⟨k + 1, _, by omega, by omega, by omega, by go_num, Lib.hid hbag.out.next⟩
          case measure => simp [intOf]; omega
    · by_cases h1 : k < nn
      · have h2 : 300 ≤ k := by omega
        have hqe : decide ((k : Int) < 300) = false := by simp; omega
        clear hlt
        obtain ⟨A, cm, hv⟩ := Sh.own_shape2 hbag.out.own
        subst hv
        obtain ⟨o, S, F5, L, J, hse, hLn, hN⟩ := hbag.out.all
        have hown := hbag.out.own
        have HOK := Lib.hid hbag.out.ok
        clear hbag
        have hcr := J.crash ks
        have HCR := Lib.hid (s_crash L C bn bc HKS.out hbn (fun x hx => by have := hLn x hx; omega))
        have HMV := Lib.hid (fun w' F' (hM : Sh.Moves F5 wr F' w') => row_moves hown (fun b e => ⟨fun e2 => (hN b e).1 (.inl e2), (hN b e).2⟩) hM)
        clear L J hLn hown hN
        go_wp2_with fail
        refine HCR.out.mono ?_
        rintro e w7 ⟨rfl, F7, a7, hM7⟩
        obtain ⟨hC7, hse7, hgd, hP7, _⟩ := hcr
        rw [hse] at hse7 hgd
        rw [blk40] at hgd
        have HOWN7 := Lib.hid (HMV.out _ _ hM7)
        clear HCR HMV hM7
        generalize S.crash ks = S7 at *
        have HOD := Lib.hid (open_yes 0 a7.shelf hC7.lt)
        have HSL := Lib.hid (V_sec a7.shelf hC7.lt (n := dataOf 5) (sum_of_lt (by rw [hse7, blk40]; decide)).1)
        have HA7 := Lib.hid a7
        have HC7 := Lib.hid hC7
        have HGD := Lib.hid hgd
        have HP7 := Lib.hid hP7
        have HSE7 := Lib.hid hse7
        clear a7 hC7 hgd hP7 hse7 hse
        go_wp2_with fail
        refine HOD.out.mono ?_
        rintro e w8 ⟨rfl, hd, hb⟩
        have HD8 := Lib.hid (dv_open (a := w7.heap.size) HA7.out hd hb rfl)
        have HLO := Lib.hid (logOpen_ok 2 (by decide) (by decide) HD8.out.dev HD8.out.on.shelf (by rw [HSE7.out, blk40]; decide))
        have HOWN8 := Lib.hid (Sh.same_row HOWN7.out.1 (fun b e => hb.block b (HOWN7.out.1.lt b e).2))
        clear hd hb HA7 HOD
        generalize w7.heap.size = a8 at *
        go_wp2_with fail
        refine HLO.out.mono ?_
        rintro e w9 ⟨rfl, hl9, b9⟩
        have L9 := lg_open HD8.out hl9 b9 rfl
        have HOWN9 := Lib.hid (Sh.same_row HOWN8.out (fun b e => b9.block b (HOWN8.out.lt b e).2))
        clear hl9 b9 HD8 HLO HOWN8
        generalize w8.heap.size = g8 at *
        have HG := get_calm L9 hA.tabs hA.tabs.size hA.fld hA.fld.size HC7.out 1 (by decide) (by decide) (by rw [HSE7.out, blk40]; decide) (HGD.out _ (by decide)) (HGD.out _ (by decide))
        have HG := Lib.hid HG
        have HFD := Lib.hid (fun hz hok => found HP7.out (h := V S7 0 (dataOf (2 + 2 * 1))) (lp := V S7 0 (dataOf (3 + 2 * 1))) rfl rfl hz hok HSL.out.2 (fun z hz => (HOK.out z hz).sm))
        have HSL := Lib.hid (show Small (V S7 0 (dataOf (3 + 2 * 1))) from HSL.out.2)
        generalize V S7 0 (dataOf (2 + 2 * 1)) = hd at *
        generalize V S7 0 (dataOf (3 + 2 * 1)) = lp at *
        clear L9
        go_wp2_with fail
        refine HG.out.mono ?_
        rintro e w10 ⟨hgot, S10, _, L10, hO10⟩
        rcases hgot with ⟨_, rfl⟩ | ⟨_, _, rfl⟩ | ⟨hz, hok, A10, c10, rfl, own10⟩
        · have HBE := Lib.hid (L10.grown ((Below.refl _ w10).alloc (Nat.le_refl _) (.cells #[.int .i64 0, .int .i64 0, .slice none 0 0] 24))).dv.on.bel
          clear HG L10 hO10
          go_wp2_with fail
          go_ret
          exact ⟨rfl, HBE.out⟩
        · have HBE := Lib.hid (L10.grown ((Below.refl _ w10).alloc (Nat.le_refl _) (.cells #[.int .i64 0, .int .i64 0, .slice none 0 0] 24))).dv.on.bel
          clear HG L10 hO10
          go_wp2_with fail
          go_ret
          exact ⟨rfl, HBE.out⟩
        obtain ⟨hfh, hfp⟩ := HFD.out hz hok
        clear HG HFD hz hok
        generalize ((numAt hd 0 : Nat) : Int) = x0 at *
        generalize ((numAt hd 1 : Nat) : Int) = x1 at *
        have HFH := Lib.hid hfh
        have HFP := Lib.hid hfp
        clear hfh hfp
        have hb11 : Below w10.heap.size w10 (w10.alloc (.cells #[.int .i64 x0, .int .i64 x1, .slice A10 128 c10] 24)) := (Below.refl _ _).alloc (Nat.le_refl _) _
        have own10' := Sh.same_row HOWN9.out (fun b e => hO10.block b (HOWN9.out.lt b e).2 (HOWN7.out.2 b e).1)
        have OWN := Lib.hid (Sh.same_row own10' (fun b e => hb11.block b (own10'.lt b e).2))
        have V11 := Lib.hid (heap_alloc_new w10 (.cells #[.int .i64 x0, .int .i64 x1, .slice A10 128 c10] 24))
        have HBL := Lib.hid (L10.grown hb11).dv.on.bel
        have RL := Lib.hid (((Reads.of_own own10).below hb11).more hb11.size)
        have HZV := Lib.hid (show w10.heap.size < (w10.alloc (.cells #[.int .i64 x0, .int .i64 x1, .slice A10 128 c10] 24)).heap.size by simp)
        clear own10 own10' hb11 L10 hO10 HOWN7 HOWN9
        go_wp2_with fail
        generalize w10.alloc (.cells #[.int .i64 x0, .int .i64 x1, .slice A10 128 c10] 24) = W11 at *
        generalize w10.heap.size = q at *
        generalize hsv : Sh.strL lp = sv at *
        have HSV := Lib.hid hsv
        clear hsv
        have hll : zs.length ≤ 300 := by omega
        go_loopw [18, 19, 20] (fun s18 s19 s20 wr2 => ∃ (i : Nat) (hb pb : Bool), i ≤ zs.length ∧ s18 = .bool hb ∧ s19 = .bool pb ∧ s20 = .int .i64 i ∧ Hid (Below W11.heap.size W11 wr2 ∧ (hb = true ∨ ∀ j, j < i → ¬ Hm zs x0 x1 lp j) ∧ (pb = true ∨ ∀ j, j < i → ¬ Pm zs sv j))) (fun _ _ i _ => zs.length - (intOf i).toNat)
        case atStart => exact ⟨0, false, false, Nat.zero_le _, rfl, rfl, rfl, Lib.hid ⟨Below.refl _ _, .inr fun j hj => absurd hj (Nat.not_lt_zero _), .inr fun j hj => absurd hj (Nat.not_lt_zero _)⟩⟩
        case round =>
          obtain ⟨i, hb, pb, hi2, rfl, rfl, rfl, hh⟩ := hrel
          have HBW := Lib.hid hh.out.1
          have HHB := Lib.hid hh.out.2.1
          have HPB := Lib.hid hh.out.2.2
          clear hh
          by_cases hli : i < zs.length
          · obtain ⟨gm, rfl, hgm, hrow⟩ := row_cell OWN.out (by omega)
            obtain ⟨r0, r1, r2⟩ := hrow i hli
            have HZK := Lib.hid (HOK.out _ (zf_mem hli))
            generalize hzz : zf zs i = zz at *
            have HZZ := Lib.hid hzz
            clear hzz hrow
            have q4 : (i : Int) < (zs.length : Int) := by omega
            have M0 := Lib.hid (fun W' (h : Below wr.heap.size wr W') => ((bel_on HBW.out h).cell (p := ⟨gm, i * 3, none⟩) hgm).trans r0)
            have M1 := Lib.hid (fun W' (h : Below wr.heap.size wr W') => ((bel_on HBW.out h).cell (p := ⟨gm, i * 3 + 1, none⟩) hgm).trans r1)
            have M2 := Lib.hid (fun W' (h : Below wr.heap.size wr W') => ((bel_on HBW.out h).cell (p := ⟨gm, i * 3 + 2, none⟩) hgm).trans r2)
            have N0 := Lib.hid (fun W' (h : Below wr.heap.size wr W') => (cells3_of (((bel_on HBW.out h).block q HZV.out).trans V11.out)).1)
            have N1 := Lib.hid (fun W' (h : Below wr.heap.size wr W') => (cells3_of (((bel_on HBW.out h).block q HZV.out).trans V11.out)).2.1)
            have N2 := Lib.hid (fun W' (h : Below wr.heap.size wr W') => (cells3_of (((bel_on HBW.out h).block q HZV.out).trans V11.out)).2.2.1)
            have RZ := Lib.hid (fun W' (h : Below wr.heap.size wr W') => (HZK.out.grown (HBL.out.trans ((bel_on HBW.out h).mono HBL.out.size))).rd)
            have RG := Lib.hid (fun W' (h : Below wr.heap.size wr W') => (RL.out.below (bel_on HBW.out h)).more (bel_on HBW.out h).size)
            have HC1 := Lib.hid (fun W' (h : Below wr.heap.size wr W') => refCrc_any zz.A zz.n zz.c _ zz.l 0 W' (by decide) HZK.out.sm (RZ.out W' h) HZK.out.le)
            have HC2 := Lib.hid (fun W' (h : Below wr.heap.size wr W') => refCrc_any A10 128 c10 _ lp 0 W' (by decide) HSL.out (RG.out W' h) (by unfold maxLen; omega))
            generalize hy1 : ((Nums.sum 0 zz.l : Nat) : Int) = y1 at *
            generalize hy2 : ((Nums.sum 0 lp : Nat) : Int) = y2 at *
            have HY1 := Lib.hid hy1.symm
            have HY2 := Lib.hid hy2.symm
            obtain ⟨qh, hqh⟩ : ∃ qh, (y1 == y2) = qh := ⟨_, rfl⟩
            have HQH := Lib.hid hqh
            generalize hsy : Sh.strL zz.l = sy at *
            have HSY := Lib.hid hsy
            have t1 := fun W' (h : Below wr.heap.size wr W') => Sh.run_str zz.c (RZ.out W' h)
            have t2 := fun W' (h : Below wr.heap.size wr W') => Sh.run_str c10 (RG.out W' h)
            rw [hsy] at t1
            rw [HSV.out] at t2
            have T1 := Lib.hid t1
            have T2 := Lib.hid t2
            clear t1 t2
            obtain ⟨qp, hqp⟩ : ∃ qp, (sy.toList == sv.toList) = qp := ⟨_, rfl⟩
            have HQP := Lib.hid hqp
            clear hy1 hy2 hsy r0 r1 r2 hgm
            cases hb with
            | true =>
              have m0 := M0.out _ (Below.refl _ wr)
              have m1 := M1.out _ (Below.refl _ wr)
              have m2 := M2.out _ (Below.refl _ wr)
              have n0 := N0.out _ (Below.refl _ wr)
              have n1 := N1.out _ (Below.refl _ wr)
              have n2 := N2.out _ (Below.refl _ wr)
              go_wp2_with fail
              go_quiet (((first | (go_at_call 28; refine (HC1.out _ (drawn (Below.refl _ _) _)).mono ?_; rintro e w' ⟨rfl, rfl⟩; exact ⟨rfl, _, rfl⟩) | (go_at_call 28; refine (HC2.out _ (drawn (Below.refl _ _) _)).mono ?_; rintro e w' ⟨rfl, rfl⟩; exact ⟨rfl, _, rfl⟩))))
              clear m0 m1 m2 n0 n1 n2
              have HX := Lib.hid (show Below W11.heap.size W11 (wr.drewN nq) from drawn HBW.out nq)
              have HY := Lib.hid (show Below wr.heap.size wr (wr.drewN nq) from drawn (Below.refl _ _) nq)
              generalize wr.drewN nq = wr1 at *
              have m2 := M2.out _ HY.out
              have n2 := N2.out _ HY.out
              have t1 := fun k => T1.out (wr1.drewN k) (drawn HY.out k)
              have t2 := fun k => T2.out (wr1.drewN k) (drawn HY.out k)
              clear HHB
              cases pb with
              | true =>
                go_wp2_with fail
                go_quiet (fail)
                have HBE := Lib.hid (drawn HX.out nq)
                clear m2 n2 t1 t2
                go_wp2_with fail
                refine ⟨⟨i + 1, _, true, by omega, rfl, rfl, by go_num, Lib.hid ⟨HBE.out, .inl rfl, .inl rfl⟩⟩, ?_⟩
                simp [intOf]
                omega
              | false =>
                go_wp2_with fail
                go_quiet (fail)
                have HBE := Lib.hid (drawn HX.out nq)
                clear m2 n2 t1 t2
                have HQ2 := Lib.hid (no_step (Q := Pm zs sv) HPB.out (b' := qp) (i := i) (by
                  cases qp with
                  | true => exact .inl rfl
                  | false =>
                    refine .inr fun e => ?_
                    have h := HQP.out
                    rw [beq_eq_false_iff_ne] at h
                    exact h (by unfold Pm at e; rw [HZZ.out, HSY.out] at e; exact e)) (fun h => by cases h))
                clear hqp HQP HPB
                go_wp2_with fail
                refine ⟨⟨i + 1, _, qp, by omega, rfl, rfl, by go_num, Lib.hid ⟨HBE.out, .inl rfl, HQ2.out⟩⟩, ?_⟩
                simp [intOf]
                omega
            | false =>
              by_cases hs0 : zz.s = x0
              · have hq0 : (zz.s == x0) = true := by rw [beq_iff_eq]; exact hs0
                by_cases hs1 : zz.q = x1
                · have hq1 : (zz.q == x1) = true := by rw [beq_iff_eq]; exact hs1
                  have m0 := M0.out
                  have m1 := M1.out
                  have m2 := M2.out
                  have n0 := N0.out
                  have n1 := N1.out
                  have n2 := N2.out
                  go_wp2_with fail
                  refine wp_region_held_drew (S := fun W' => Below wr.heap.size wr W') (by kernel_rfl) ((Below.refl _ _).drew) (fun hHeld => ?_)
                  refine wpAnyH_take (i := 0) (oi := ⟨some 129, _, _, _, _, _⟩) (v := ?_) rfl (by kernel_rfl) (by kernel_rfl) (by kernel_rfl) (fun _ _ _ h => h) (Or.inl ⟨by rfl, ?_⟩) (by assumption) ?_
                  rotate_left
                  · (intro w hSw; (try dsimp only at hSw); go_simp; first | done | with_reducible rfl)
                  try simp only [Act.put, List.setIfInBounds_toArray, List.set_cons_zero, List.set_cons_succ]
                  refine wpAnyH_take (i := 1) (oi := ⟨some 130, _, _, _, _, _⟩) (v := ?_) rfl (by kernel_rfl) (by kernel_rfl) (by kernel_rfl) (fun _ _ _ h => h) (Or.inl ⟨by rfl, ?_⟩) (by assumption) ?_
                  rotate_left
                  · (intro w hSw; (try dsimp only at hSw); go_simp; first | done | with_reducible rfl)
                  try simp only [Act.put, List.setIfInBounds_toArray, List.set_cons_zero, List.set_cons_succ]
                  refine wpAnyH_take (i := 2) (oi := ⟨some 131, _, _, _, _, _⟩) (v := ?_) rfl (by kernel_rfl) (by kernel_rfl) (by kernel_rfl) (fun _ _ _ h => h) (Or.inl ⟨by rfl, ?_⟩) (by assumption) ?_
                  rotate_left
                  · (intro w hSw; (try dsimp only at hSw); go_simp; first | done | with_reducible rfl)
                  try simp only [Act.put, List.setIfInBounds_toArray, List.set_cons_zero, List.set_cons_succ]
                  refine wpAnyH_take (i := 3) (oi := ⟨some 132, _, _, _, _, _⟩) (v := ?_) rfl (by kernel_rfl) (by kernel_rfl) (by kernel_rfl) (fun _ _ _ h => h) (Or.inl ⟨by rfl, ?_⟩) (by assumption) ?_
                  rotate_left
                  · (intro w hSw; (try dsimp only at hSw); go_simp; first | done | with_reducible rfl)
                  try simp only [Act.put, List.setIfInBounds_toArray, List.set_cons_zero, List.set_cons_succ]
                  refine wpAnyH_take (i := 4) (oi := ⟨some 133, _, _, _, _, _⟩) (v := ?_) rfl (by kernel_rfl) (by kernel_rfl) (by kernel_rfl) (fun _ _ _ h => h) (Or.inl ⟨by rfl, ?_⟩) (by assumption) ?_
                  rotate_left
                  · (intro w hSw; (try dsimp only at hSw); go_simp; first | done | with_reducible rfl)
                  try simp only [Act.put, List.setIfInBounds_toArray, List.set_cons_zero, List.set_cons_succ]
                  refine wpAnyH_take (i := 5) (oi := ⟨some 134, _, _, _, _, _⟩) (v := ?_) rfl (by kernel_rfl) (by kernel_rfl) (by kernel_rfl) (fun _ _ _ h => h) (Or.inl ⟨by rfl, ?_⟩) (by assumption) ?_
                  rotate_left
                  · (intro w hSw; (try dsimp only at hSw); go_simp; first | done | with_reducible rfl)
                  try simp only [Act.put, List.setIfInBounds_toArray, List.set_cons_zero, List.set_cons_succ]
                  refine wpAnyH_take (i := 6) (oi := ⟨some 135, _, _, _, _, _⟩) (v := ?_) rfl (by kernel_rfl) (by kernel_rfl) (by kernel_rfl) (fun _ _ _ h => h) (Or.inl ⟨by rfl, ?_⟩) (by assumption) ?_
                  rotate_left
                  · (intro w hSw; (try dsimp only at hSw); go_simp; first | done | with_reducible rfl)
                  try simp only [Act.put, List.setIfInBounds_toArray, List.set_cons_zero, List.set_cons_succ]
                  refine wpAnyH_take (i := 7) (oi := ⟨some 136, _, _, _, _, _⟩) (v := ?_) rfl (by kernel_rfl) (by kernel_rfl) (by kernel_rfl) (fun _ _ _ h => h) (Or.inl ⟨by rfl, ?_⟩) (by assumption) ?_
                  rotate_left
                  · (intro w hSw; (try dsimp only at hSw); go_simp; first | done | with_reducible rfl)
                  try simp only [Act.put, List.setIfInBounds_toArray, List.set_cons_zero, List.set_cons_succ]
                  refine wpAnyH_take (i := 8) (oi := ⟨some 137, _, _, _, _, _⟩) (v := ?_) rfl (by kernel_rfl) (by kernel_rfl) (by kernel_rfl) (fun _ _ _ h => h) (Or.inl ⟨by rfl, ?_⟩) (by assumption) ?_
                  rotate_left
                  · (intro w hSw; (try dsimp only at hSw); go_simp; first | done | with_reducible rfl)
                  try simp only [Act.put, List.setIfInBounds_toArray, List.set_cons_zero, List.set_cons_succ]
                  refine wpAnyH_take (i := 9) (oi := ⟨some 138, _, _, _, _, _⟩) (v := ?_) rfl (by kernel_rfl) (by kernel_rfl) (by kernel_rfl) (fun _ _ _ h => h) (Or.inl ⟨by rfl, ?_⟩) (by assumption) ?_
                  rotate_left
                  · (intro w hSw; (try dsimp only at hSw); go_simp; first | done | with_reducible rfl)
                  try simp only [Act.put, List.setIfInBounds_toArray, List.set_cons_zero, List.set_cons_succ]
                  refine wpAnyH_take (i := 10) (oi := ⟨some 139, _, _, _, _, _⟩) (v := ?_) rfl (by kernel_rfl) (by kernel_rfl) (by kernel_rfl) (fun _ _ _ h => h) (Or.inl ⟨by rfl, ?_⟩) (by assumption) ?_
                  rotate_left
                  · (intro w hSw; (try dsimp only at hSw); go_simp; first | done | with_reducible rfl)
                  try simp only [Act.put, List.setIfInBounds_toArray, List.set_cons_zero, List.set_cons_succ]
                  refine wpAnyH_take (i := 11) (oi := ⟨some 140, _, _, _, _, _⟩) (v := ?_) rfl (by kernel_rfl) (by kernel_rfl) (by kernel_rfl) (fun _ _ _ h => h) (Or.inl ⟨by rfl, ?_⟩) (by assumption) ?_
                  rotate_left
                  · (intro w hSw; (try dsimp only at hSw); go_simp; first | done | with_reducible rfl)
                  try simp only [Act.put, List.setIfInBounds_toArray, List.set_cons_zero, List.set_cons_succ]
                  refine wpAnyH_take (i := 12) (oi := ⟨some 141, _, _, _, _, _⟩) (v := ?_) rfl (by kernel_rfl) (by kernel_rfl) (by kernel_rfl) (fun _ _ _ h => h) (Or.inl ⟨by rfl, ?_⟩) (by assumption) ?_
                  rotate_left
                  · (intro w hSw; (try dsimp only at hSw); go_simp; first | done | with_reducible rfl)
                  try simp only [Act.put, List.setIfInBounds_toArray, List.set_cons_zero, List.set_cons_succ]
                  refine wpAnyH_take (i := 13) (oi := ⟨some 142, _, _, _, _, _⟩) (v := ?_) rfl (by kernel_rfl) (by kernel_rfl) (by kernel_rfl) (fun _ _ _ h => h) (Or.inl ⟨by rfl, ?_⟩) (by assumption) ?_
                  rotate_left
                  · (intro w hSw; (try dsimp only at hSw); go_simp; first | done | with_reducible rfl)
                  try simp only [Act.put, List.setIfInBounds_toArray, List.set_cons_zero, List.set_cons_succ]
                  refine wpAnyH_take (i := 14) (oi := ⟨some 143, _, _, _, _, _⟩) (v := ?_) rfl (by kernel_rfl) (by kernel_rfl) (by kernel_rfl) (fun _ _ _ h => h) (Or.inl ⟨by rfl, ?_⟩) (by assumption) ?_
                  rotate_left
                  · (intro w hSw; (try dsimp only at hSw); go_simp; first | done | with_reducible rfl)
                  try simp only [Act.put, List.setIfInBounds_toArray, List.set_cons_zero, List.set_cons_succ]
                  refine wpAnyH_take (i := 15) (oi := ⟨some 144, _, _, _, _, _⟩) (v := ?_) rfl (by kernel_rfl) (by kernel_rfl) (by kernel_rfl) (fun _ _ _ h => h) (Or.inl ⟨by rfl, ?_⟩) (by assumption) ?_
                  rotate_left
                  · (intro w hSw; (try dsimp only at hSw); go_simp; first | done | with_reducible rfl)
                  try simp only [Act.put, List.setIfInBounds_toArray, List.set_cons_zero, List.set_cons_succ]
                  refine wpAnyH_take (i := 16) (oi := ⟨some 145, _, _, _, _, _⟩) (v := ?_) rfl (by kernel_rfl) (by kernel_rfl) (by kernel_rfl) (fun _ _ _ h => h) (Or.inl ⟨by rfl, ?_⟩) (by assumption) ?_
                  rotate_left
                  · (intro w hSw; (try dsimp only at hSw); go_simp; first | done | with_reducible rfl)
                  try simp only [Act.put, List.setIfInBounds_toArray, List.set_cons_zero, List.set_cons_succ]
                  refine wpAnyH_take (i := 17) (oi := ⟨some 146, _, _, _, _, _⟩) (v := ?_) rfl (by kernel_rfl) (by kernel_rfl) (by kernel_rfl) (fun _ _ _ h => h) (Or.inl ⟨by rfl, ?_⟩) (by assumption) ?_
                  rotate_left
                  · (intro w hSw; (try dsimp only at hSw); go_simp; first | done | with_reducible rfl)
                  try simp only [Act.put, List.setIfInBounds_toArray, List.set_cons_zero, List.set_cons_succ]
                  refine wpAnyH_take (i := 18) (oi := ⟨some 147, _, _, _, _, _⟩) (v := ?_) rfl (by kernel_rfl) (by kernel_rfl) (by kernel_rfl) (fun _ _ _ h => h) (Or.inl ⟨by rfl, ?_⟩) (by assumption) ?_
                  rotate_left
                  · (intro w hSw; (try dsimp only at hSw); go_simp; first | done | with_reducible rfl)
                  try simp only [Act.put, List.setIfInBounds_toArray, List.set_cons_zero, List.set_cons_succ]
                  refine wpAnyH_take (i := 19) (oi := ⟨some 148, _, _, _, _, _⟩) (v := ?_) rfl (by kernel_rfl) (by kernel_rfl) (by kernel_rfl) (fun _ _ _ h => h) (Or.inl ⟨by rfl, ?_⟩) (by assumption) ?_
                  rotate_left
                  · (intro w hSw; (try dsimp only at hSw); go_simp; first | done | with_reducible rfl)
                  try simp only [Act.put, List.setIfInBounds_toArray, List.set_cons_zero, List.set_cons_succ]
                  refine wpAnyH_take (i := 20) (oi := ⟨some 149, _, _, _, _, _⟩) (v := ?_) rfl (by kernel_rfl) (by kernel_rfl) (by kernel_rfl) (fun _ _ _ h => h) (Or.inl ⟨by rfl, ?_⟩) (by assumption) ?_
                  rotate_left
                  · (intro w hSw; (try dsimp only at hSw); go_simp; first | done | with_reducible rfl)
                  try simp only [Act.put, List.setIfInBounds_toArray, List.set_cons_zero, List.set_cons_succ]
                  refine wpAnyH_take (i := 21) (oi := ⟨some 150, _, _, _, _, _⟩) (v := ?_) rfl (by kernel_rfl) (by kernel_rfl) (by kernel_rfl) (fun _ _ _ h => h) (Or.inl ⟨by rfl, ?_⟩) (by assumption) ?_
                  rotate_left
                  · (intro w hSw; (try dsimp only at hSw); go_simp; first | done | with_reducible rfl)
                  try simp only [Act.put, List.setIfInBounds_toArray, List.set_cons_zero, List.set_cons_succ]
                  refine wpAnyH_take (i := 22) (oi := ⟨some 151, _, _, _, _, _⟩) (v := ?_) rfl (by kernel_rfl) (by kernel_rfl) (by kernel_rfl) (fun _ _ _ h => h) (Or.inl ⟨by rfl, ?_⟩) (by assumption) ?_
                  rotate_left
                  · (intro w hSw; (try dsimp only at hSw); go_simp; first | done | with_reducible rfl)
                  try simp only [Act.put, List.setIfInBounds_toArray, List.set_cons_zero, List.set_cons_succ]
                  refine wpAnyH_take (i := 23) (oi := ⟨some 152, _, _, _, _, _⟩) (v := ?_) rfl (by kernel_rfl) (by kernel_rfl) (by kernel_rfl) (fun _ _ _ h => h) (Or.inl ⟨by rfl, ?_⟩) (by assumption) ?_
                  rotate_left
                  · (intro w hSw; (try dsimp only at hSw); go_simp; first | done | with_reducible rfl)
                  try simp only [Act.put, List.setIfInBounds_toArray, List.set_cons_zero, List.set_cons_succ]
                  refine wpAnyH_take (i := 24) (oi := ⟨some 153, _, _, _, _, _⟩) (v := ?_) rfl (by kernel_rfl) (by kernel_rfl) (by kernel_rfl) (fun _ _ _ h => h) (Or.inl ⟨by rfl, ?_⟩) (by assumption) ?_
                  rotate_left
                  · (intro w hSw; (try dsimp only at hSw); go_simp; first | done | with_reducible rfl)
                  try simp only [Act.put, List.setIfInBounds_toArray, List.set_cons_zero, List.set_cons_succ]
                  refine wpAnyH_take (i := 25) (oi := ⟨some 154, _, _, _, _, _⟩) (v := ?_) rfl (by kernel_rfl) (by kernel_rfl) (by kernel_rfl) (fun _ _ _ h => h) (Or.inl ⟨by rfl, ?_⟩) (by assumption) ?_
                  rotate_left
                  · (intro w hSw; (try dsimp only at hSw); go_simp; first | done | with_reducible rfl)
                  try simp only [Act.put, List.setIfInBounds_toArray, List.set_cons_zero, List.set_cons_succ]
                  refine wpAnyH_take (i := 27) (oi := ⟨some 156, _, _, _, _, _⟩) (v := ?_) rfl (by kernel_rfl) (by kernel_rfl) (by kernel_rfl) (fun _ _ _ h => h) (Or.inl ⟨by rfl, ?_⟩) (by assumption) ?_
                  rotate_left
                  · (intro w hSw; (try dsimp only at hSw); go_simp; first | done | with_reducible rfl)
                  try simp only [Act.put, List.setIfInBounds_toArray, List.set_cons_zero, List.set_cons_succ]
                  refine wpAnyH_take (i := 28) (oi := ⟨some 157, _, _, _, _, _⟩) (v := ?_) rfl (by kernel_rfl) (by kernel_rfl) (by kernel_rfl) (fun _ _ _ h => h) (Or.inl ⟨by rfl, ?_⟩) (by assumption) ?_
                  rotate_left
                  · (intro w hSw; (try dsimp only at hSw); go_simp; first | done | with_reducible rfl)
                  try simp only [Act.put, List.setIfInBounds_toArray, List.set_cons_zero, List.set_cons_succ]
                  refine wpAnyH_ready (rs := [26]) (by kernel_rfl) (by simp) ?_
                  refine AllReadyH.cons (o := ⟨some 155, _, _, _, _, _⟩) rfl (fun K hK => ?_) AllReadyH.nil
                  go_simp
                  refine (HC1.out _ hHeld).mono ?_
                  rintro e w9 ⟨rfl, rfl⟩
                  refine hK.out _ _ (hHeld) (fun hHeld => ?_)
                  clear hK K
                  try simp only [Act.put, List.setIfInBounds_toArray, List.set_cons_zero, List.set_cons_succ]
                  refine wpAnyH_ready (rs := [29]) (by kernel_rfl) (by simp) ?_
                  refine AllReadyH.cons (o := ⟨some 158, _, _, _, _, _⟩) rfl (fun K hK => ?_) AllReadyH.nil
                  go_simp
                  refine (HC2.out _ hHeld).mono ?_
                  rintro e w9 ⟨rfl, rfl⟩
                  refine hK.out _ _ (hHeld) (fun hHeld => ?_)
                  clear hK K
                  try simp only [Act.put, List.setIfInBounds_toArray, List.set_cons_zero, List.set_cons_succ]
                  refine wpAnyH_take (i := 30) (oi := ⟨some 159, _, _, _, _, _⟩) (v := ?_) rfl (by kernel_rfl) (by kernel_rfl) (by kernel_rfl) (fun _ _ _ h => h) (Or.inl ⟨by rfl, ?_⟩) (by assumption) ?_
                  rotate_left
                  · (intro w hSw; (try dsimp only at hSw); go_simp; first | done | with_reducible rfl)
                  try simp only [Act.put, List.setIfInBounds_toArray, List.set_cons_zero, List.set_cons_succ]
                  refine wpAnyH_take (i := 31) (oi := ⟨some 160, _, _, _, _, _⟩) (v := ?_) rfl (by kernel_rfl) (by kernel_rfl) (by kernel_rfl) (fun _ _ _ h => h) (Or.inl ⟨by rfl, ?_⟩) (by assumption) ?_
                  rotate_left
                  · (intro w hSw; (try dsimp only at hSw); go_simp; first | done | with_reducible rfl)
                  try simp only [Act.put, List.setIfInBounds_toArray, List.set_cons_zero, List.set_cons_succ]
                  refine wpAnyH_take (i := 32) (oi := ⟨some 161, _, _, _, _, _⟩) (v := ?_) rfl (by kernel_rfl) (by kernel_rfl) (by kernel_rfl) (fun _ _ _ h => h) (Or.inl ⟨by rfl, ?_⟩) (by assumption) ?_
                  rotate_left
                  · (intro w hSw; (try dsimp only at hSw); go_simp; first | done | with_reducible rfl)
                  try simp only [Act.put, List.setIfInBounds_toArray, List.set_cons_zero, List.set_cons_succ]
                  refine wpAnyH_take (i := 33) (oi := ⟨some 18, _, _, _, _, _⟩) (v := ?_) rfl (by kernel_rfl) (by kernel_rfl) (by kernel_rfl) (fun _ _ _ h => h) (Or.inl ⟨by rfl, ?_⟩) (by assumption) ?_
                  rotate_left
                  · (intro w hSw; (try dsimp only at hSw); go_simp; first | done | with_reducible rfl)
                  try simp only [Act.put, List.setIfInBounds_toArray, List.set_cons_zero, List.set_cons_succ]
                  refine wpAnyH_done (by kernel_rfl) ?_ _
                  clear m0 m1 m2 n0 n1 n2 hHeld
                  have HX := Lib.hid (show Below W11.heap.size W11 wr.drew from HBW.out.drew)
                  have HY := Lib.hid (show Below wr.heap.size wr wr.drew from (Below.refl _ _).drew)
                  generalize wr.drew = wr1 at *
                  have m2 := M2.out _ HY.out
                  have n2 := N2.out _ HY.out
                  have t1 := fun k => T1.out (wr1.drewN k) (drawn HY.out k)
                  have t2 := fun k => T2.out (wr1.drewN k) (drawn HY.out k)
                  have HH := Lib.hid (no_step (Q := Hm zs x0 x1 lp) HHB.out (b' := qh) (i := i) (by
                    cases qh with
                    | true => exact .inl rfl
                    | false =>
                      refine .inr fun e => ?_
                      have h := HQH.out
                      rw [beq_eq_false_iff_ne] at h
                      exact h (by unfold Hm at e; rw [HZZ.out] at e; rw [HY1.out, HY2.out, e.2.2])) (fun h => by first | rfl | cases h))
                  clear HHB
                  clear hqh HQH
                  cases pb with
                  | true =>
                    go_wp2_with fail
                    go_quiet (fail)
                    have HBE := Lib.hid (drawn HX.out nq)
                    clear m2 n2 t1 t2
                    go_wp2_with fail
                    refine ⟨⟨i + 1, _, true, by omega, rfl, rfl, by go_num, Lib.hid ⟨HBE.out, HH.out, .inl rfl⟩⟩, ?_⟩
                    simp [intOf]
                    omega
                  | false =>
                    go_wp2_with fail
                    go_quiet (fail)
                    have HBE := Lib.hid (drawn HX.out nq)
                    clear m2 n2 t1 t2
                    have HQ2 := Lib.hid (no_step (Q := Pm zs sv) HPB.out (b' := qp) (i := i) (by
                      cases qp with
                      | true => exact .inl rfl
                      | false =>
                        refine .inr fun e => ?_
                        have h := HQP.out
                        rw [beq_eq_false_iff_ne] at h
                        exact h (by unfold Pm at e; rw [HZZ.out, HSY.out] at e; exact e)) (fun h => by cases h))
                    clear hqp HQP HPB
                    go_wp2_with fail
                    refine ⟨⟨i + 1, _, qp, by omega, rfl, rfl, by go_num, Lib.hid ⟨HBE.out, HH.out, HQ2.out⟩⟩, ?_⟩
                    simp [intOf]
                    omega
                · have hq1 : (zz.q == x1) = false := by rw [beq_eq_false_iff_ne]; exact hs1
                  have m0 := M0.out _ (Below.refl _ wr)
                  have m1 := M1.out _ (Below.refl _ wr)
                  have m2 := M2.out _ (Below.refl _ wr)
                  have n0 := N0.out _ (Below.refl _ wr)
                  have n1 := N1.out _ (Below.refl _ wr)
                  have n2 := N2.out _ (Below.refl _ wr)
                  go_wp2_with fail
                  go_quiet (((first | (go_at_call 28; refine (HC1.out _ (drawn (Below.refl _ _) _)).mono ?_; rintro e w' ⟨rfl, rfl⟩; exact ⟨rfl, _, rfl⟩) | (go_at_call 28; refine (HC2.out _ (drawn (Below.refl _ _) _)).mono ?_; rintro e w' ⟨rfl, rfl⟩; exact ⟨rfl, _, rfl⟩))))
                  clear m0 m1 m2 n0 n1 n2
                  have HX := Lib.hid (show Below W11.heap.size W11 (wr.drewN nq) from drawn HBW.out nq)
                  have HY := Lib.hid (show Below wr.heap.size wr (wr.drewN nq) from drawn (Below.refl _ _) nq)
                  generalize wr.drewN nq = wr1 at *
                  have m2 := M2.out _ HY.out
                  have n2 := N2.out _ HY.out
                  have t1 := fun k => T1.out (wr1.drewN k) (drawn HY.out k)
                  have t2 := fun k => T2.out (wr1.drewN k) (drawn HY.out k)
                  have HH := Lib.hid (no_step (Q := Hm zs x0 x1 lp) HHB.out (b' := false) (i := i) (.inr fun e => hs1 (by unfold Hm at e; rw [HZZ.out] at e; exact e.2.1)) (fun h => by first | rfl | cases h))
                  clear HHB
                  cases pb with
                  | true =>
                    go_wp2_with fail
                    go_quiet (fail)
                    have HBE := Lib.hid (drawn HX.out nq)
                    clear m2 n2 t1 t2
                    go_wp2_with fail
                    refine ⟨⟨i + 1, _, true, by omega, rfl, rfl, by go_num, Lib.hid ⟨HBE.out, HH.out, .inl rfl⟩⟩, ?_⟩
                    simp [intOf]
                    omega
                  | false =>
                    go_wp2_with fail
                    go_quiet (fail)
                    have HBE := Lib.hid (drawn HX.out nq)
                    clear m2 n2 t1 t2
                    have HQ2 := Lib.hid (no_step (Q := Pm zs sv) HPB.out (b' := qp) (i := i) (by
                      cases qp with
                      | true => exact .inl rfl
                      | false =>
                        refine .inr fun e => ?_
                        have h := HQP.out
                        rw [beq_eq_false_iff_ne] at h
                        exact h (by unfold Pm at e; rw [HZZ.out, HSY.out] at e; exact e)) (fun h => by cases h))
                    clear hqp HQP HPB
                    go_wp2_with fail
                    refine ⟨⟨i + 1, _, qp, by omega, rfl, rfl, by go_num, Lib.hid ⟨HBE.out, HH.out, HQ2.out⟩⟩, ?_⟩
                    simp [intOf]
                    omega
              · have hq0 : (zz.s == x0) = false := by rw [beq_eq_false_iff_ne]; exact hs0
                have m0 := M0.out _ (Below.refl _ wr)
                have m1 := M1.out _ (Below.refl _ wr)
                have m2 := M2.out _ (Below.refl _ wr)
                have n0 := N0.out _ (Below.refl _ wr)
                have n1 := N1.out _ (Below.refl _ wr)
                have n2 := N2.out _ (Below.refl _ wr)
                go_wp2_with fail
                go_quiet (((first | (go_at_call 28; refine (HC1.out _ (drawn (Below.refl _ _) _)).mono ?_; rintro e w' ⟨rfl, rfl⟩; exact ⟨rfl, _, rfl⟩) | (go_at_call 28; refine (HC2.out _ (drawn (Below.refl _ _) _)).mono ?_; rintro e w' ⟨rfl, rfl⟩; exact ⟨rfl, _, rfl⟩))))
                clear m0 m1 m2 n0 n1 n2
                have HX := Lib.hid (show Below W11.heap.size W11 (wr.drewN nq) from drawn HBW.out nq)
                have HY := Lib.hid (show Below wr.heap.size wr (wr.drewN nq) from drawn (Below.refl _ _) nq)
                generalize wr.drewN nq = wr1 at *
                have m2 := M2.out _ HY.out
                have n2 := N2.out _ HY.out
                have t1 := fun k => T1.out (wr1.drewN k) (drawn HY.out k)
                have t2 := fun k => T2.out (wr1.drewN k) (drawn HY.out k)
                have HH := Lib.hid (no_step (Q := Hm zs x0 x1 lp) HHB.out (b' := false) (i := i) (.inr fun e => hs0 (by unfold Hm at e; rw [HZZ.out] at e; exact e.1)) (fun h => by first | rfl | cases h))
                clear HHB
                cases pb with
                | true =>
                  go_wp2_with fail
                  go_quiet (fail)
                  have HBE := Lib.hid (drawn HX.out nq)
                  clear m2 n2 t1 t2
                  go_wp2_with fail
                  refine ⟨⟨i + 1, _, true, by omega, rfl, rfl, by go_num, Lib.hid ⟨HBE.out, HH.out, .inl rfl⟩⟩, ?_⟩
                  simp [intOf]
                  omega
                | false =>
                  go_wp2_with fail
                  go_quiet (fail)
                  have HBE := Lib.hid (drawn HX.out nq)
                  clear m2 n2 t1 t2
                  have HQ2 := Lib.hid (no_step (Q := Pm zs sv) HPB.out (b' := qp) (i := i) (by
                    cases qp with
                    | true => exact .inl rfl
                    | false =>
                      refine .inr fun e => ?_
                      have h := HQP.out
                      rw [beq_eq_false_iff_ne] at h
                      exact h (by unfold Pm at e; rw [HZZ.out, HSY.out] at e; exact e)) (fun h => by cases h))
                  clear hqp HQP HPB
                  go_wp2_with fail
                  refine ⟨⟨i + 1, _, qp, by omega, rfl, rfl, by go_num, Lib.hid ⟨HBE.out, HH.out, HQ2.out⟩⟩, ?_⟩
                  simp [intOf]
                  omega
          · have hil : i = zs.length := by omega
            have hb1 : hb = true := by
              rcases HHB.out with h | h
              · exact h
              · obtain ⟨j, hj, e⟩ := HFH.out
                exact absurd e (h j (by omega))
            have pb1 : pb = true := by
              rcases HPB.out with h | h
              · exact h
              · obtain ⟨j, hj, e⟩ := HFP.out
                exact absurd e (h j (by omega))
            have HBE := Lib.hid (HBL.out.trans (HBW.out.mono HBL.out.size))
            clear hil HHB HPB
            subst hb1
            subst pb1
            go_wp2_with fail
            go_ret
            exact ⟨rfl, HBE.out⟩
      · have hqe : decide ((k : Int) < (nn : Int)) = false := by simp; omega
        clear hlt
        obtain ⟨A, cm, hv⟩ := Sh.own_shape2 hbag.out.own
        subst hv
        obtain ⟨o, S, F5, L, J, hse, hLn, hN⟩ := hbag.out.all
        have hown := hbag.out.own
        have HOK := Lib.hid hbag.out.ok
        clear hbag
        have hcr := J.crash ks
        have HCR := Lib.hid (s_crash L C bn bc HKS.out hbn (fun x hx => by have := hLn x hx; omega))
        have HMV := Lib.hid (fun w' F' (hM : Sh.Moves F5 wr F' w') => row_moves hown (fun b e => ⟨fun e2 => (hN b e).1 (.inl e2), (hN b e).2⟩) hM)
        clear L J hLn hown hN
        go_wp2_with fail
        refine HCR.out.mono ?_
        rintro e w7 ⟨rfl, F7, a7, hM7⟩
        obtain ⟨hC7, hse7, hgd, hP7, _⟩ := hcr
        rw [hse] at hse7 hgd
        rw [blk40] at hgd
        have HOWN7 := Lib.hid (HMV.out _ _ hM7)
        clear HCR HMV hM7
        generalize S.crash ks = S7 at *
        have HOD := Lib.hid (open_yes 0 a7.shelf hC7.lt)
        have HSL := Lib.hid (V_sec a7.shelf hC7.lt (n := dataOf 5) (sum_of_lt (by rw [hse7, blk40]; decide)).1)
        have HA7 := Lib.hid a7
        have HC7 := Lib.hid hC7
        have HGD := Lib.hid hgd
        have HP7 := Lib.hid hP7
        have HSE7 := Lib.hid hse7
        clear a7 hC7 hgd hP7 hse7 hse
        go_wp2_with fail
        refine HOD.out.mono ?_
        rintro e w8 ⟨rfl, hd, hb⟩
        have HD8 := Lib.hid (dv_open (a := w7.heap.size) HA7.out hd hb rfl)
        have HLO := Lib.hid (logOpen_ok 2 (by decide) (by decide) HD8.out.dev HD8.out.on.shelf (by rw [HSE7.out, blk40]; decide))
        have HOWN8 := Lib.hid (Sh.same_row HOWN7.out.1 (fun b e => hb.block b (HOWN7.out.1.lt b e).2))
        clear hd hb HA7 HOD
        generalize w7.heap.size = a8 at *
        go_wp2_with fail
        refine HLO.out.mono ?_
        rintro e w9 ⟨rfl, hl9, b9⟩
        have L9 := lg_open HD8.out hl9 b9 rfl
        have HOWN9 := Lib.hid (Sh.same_row HOWN8.out (fun b e => b9.block b (HOWN8.out.lt b e).2))
        clear hl9 b9 HD8 HLO HOWN8
        generalize w8.heap.size = g8 at *
        have HG := get_calm L9 hA.tabs hA.tabs.size hA.fld hA.fld.size HC7.out 1 (by decide) (by decide) (by rw [HSE7.out, blk40]; decide) (HGD.out _ (by decide)) (HGD.out _ (by decide))
        have HG := Lib.hid HG
        have HFD := Lib.hid (fun hz hok => found HP7.out (h := V S7 0 (dataOf (2 + 2 * 1))) (lp := V S7 0 (dataOf (3 + 2 * 1))) rfl rfl hz hok HSL.out.2 (fun z hz => (HOK.out z hz).sm))
        have HSL := Lib.hid (show Small (V S7 0 (dataOf (3 + 2 * 1))) from HSL.out.2)
        generalize V S7 0 (dataOf (2 + 2 * 1)) = hd at *
        generalize V S7 0 (dataOf (3 + 2 * 1)) = lp at *
        clear L9
        go_wp2_with fail
        refine HG.out.mono ?_
        rintro e w10 ⟨hgot, S10, _, L10, hO10⟩
        rcases hgot with ⟨_, rfl⟩ | ⟨_, _, rfl⟩ | ⟨hz, hok, A10, c10, rfl, own10⟩
        · have HBE := Lib.hid (L10.grown ((Below.refl _ w10).alloc (Nat.le_refl _) (.cells #[.int .i64 0, .int .i64 0, .slice none 0 0] 24))).dv.on.bel
          clear HG L10 hO10
          go_wp2_with fail
          go_ret
          exact ⟨rfl, HBE.out⟩
        · have HBE := Lib.hid (L10.grown ((Below.refl _ w10).alloc (Nat.le_refl _) (.cells #[.int .i64 0, .int .i64 0, .slice none 0 0] 24))).dv.on.bel
          clear HG L10 hO10
          go_wp2_with fail
          go_ret
          exact ⟨rfl, HBE.out⟩
        obtain ⟨hfh, hfp⟩ := HFD.out hz hok
        clear HG HFD hz hok
        generalize ((numAt hd 0 : Nat) : Int) = x0 at *
        generalize ((numAt hd 1 : Nat) : Int) = x1 at *
        have HFH := Lib.hid hfh
        have HFP := Lib.hid hfp
        clear hfh hfp
        have hb11 : Below w10.heap.size w10 (w10.alloc (.cells #[.int .i64 x0, .int .i64 x1, .slice A10 128 c10] 24)) := (Below.refl _ _).alloc (Nat.le_refl _) _
        have own10' := Sh.same_row HOWN9.out (fun b e => hO10.block b (HOWN9.out.lt b e).2 (HOWN7.out.2 b e).1)
        have OWN := Lib.hid (Sh.same_row own10' (fun b e => hb11.block b (own10'.lt b e).2))
        have V11 := Lib.hid (heap_alloc_new w10 (.cells #[.int .i64 x0, .int .i64 x1, .slice A10 128 c10] 24))
        have HBL := Lib.hid (L10.grown hb11).dv.on.bel
        have RL := Lib.hid (((Reads.of_own own10).below hb11).more hb11.size)
        have HZV := Lib.hid (show w10.heap.size < (w10.alloc (.cells #[.int .i64 x0, .int .i64 x1, .slice A10 128 c10] 24)).heap.size by simp)
        clear own10 own10' hb11 L10 hO10 HOWN7 HOWN9
        go_wp2_with fail
        generalize w10.alloc (.cells #[.int .i64 x0, .int .i64 x1, .slice A10 128 c10] 24) = W11 at *
        generalize w10.heap.size = q at *
        generalize hsv : Sh.strL lp = sv at *
        have HSV := Lib.hid hsv
        clear hsv
        have hll : zs.length ≤ 300 := by omega
        go_loopw [18, 19, 20] (fun s18 s19 s20 wr2 => ∃ (i : Nat) (hb pb : Bool), i ≤ zs.length ∧ s18 = .bool hb ∧ s19 = .bool pb ∧ s20 = .int .i64 i ∧ Hid (Below W11.heap.size W11 wr2 ∧ (hb = true ∨ ∀ j, j < i → ¬ Hm zs x0 x1 lp j) ∧ (pb = true ∨ ∀ j, j < i → ¬ Pm zs sv j))) (fun _ _ i _ => zs.length - (intOf i).toNat)
        case atStart => exact ⟨0, false, false, Nat.zero_le _, rfl, rfl, rfl, Lib.hid ⟨Below.refl _ _, .inr fun j hj => absurd hj (Nat.not_lt_zero _), .inr fun j hj => absurd hj (Nat.not_lt_zero _)⟩⟩
        case round =>
          obtain ⟨i, hb, pb, hi2, rfl, rfl, rfl, hh⟩ := hrel
          have HBW := Lib.hid hh.out.1
          have HHB := Lib.hid hh.out.2.1
          have HPB := Lib.hid hh.out.2.2
          clear hh
          by_cases hli : i < zs.length
          · obtain ⟨gm, rfl, hgm, hrow⟩ := row_cell OWN.out (by omega)
            obtain ⟨r0, r1, r2⟩ := hrow i hli
            have HZK := Lib.hid (HOK.out _ (zf_mem hli))
            generalize hzz : zf zs i = zz at *
            have HZZ := Lib.hid hzz
            clear hzz hrow
            have q4 : (i : Int) < (zs.length : Int) := by omega
            have M0 := Lib.hid (fun W' (h : Below wr.heap.size wr W') => ((bel_on HBW.out h).cell (p := ⟨gm, i * 3, none⟩) hgm).trans r0)
            have M1 := Lib.hid (fun W' (h : Below wr.heap.size wr W') => ((bel_on HBW.out h).cell (p := ⟨gm, i * 3 + 1, none⟩) hgm).trans r1)
            have M2 := Lib.hid (fun W' (h : Below wr.heap.size wr W') => ((bel_on HBW.out h).cell (p := ⟨gm, i * 3 + 2, none⟩) hgm).trans r2)
            have N0 := Lib.hid (fun W' (h : Below wr.heap.size wr W') => (cells3_of (((bel_on HBW.out h).block q HZV.out).trans V11.out)).1)
            have N1 := Lib.hid (fun W' (h : Below wr.heap.size wr W') => (cells3_of (((bel_on HBW.out h).block q HZV.out).trans V11.out)).2.1)
            have N2 := Lib.hid (fun W' (h : Below wr.heap.size wr W') => (cells3_of (((bel_on HBW.out h).block q HZV.out).trans V11.out)).2.2.1)
            have RZ := Lib.hid (fun W' (h : Below wr.heap.size wr W') => (HZK.out.grown (HBL.out.trans ((bel_on HBW.out h).mono HBL.out.size))).rd)
            have RG := Lib.hid (fun W' (h : Below wr.heap.size wr W') => (RL.out.below (bel_on HBW.out h)).more (bel_on HBW.out h).size)
            have HC1 := Lib.hid (fun W' (h : Below wr.heap.size wr W') => refCrc_any zz.A zz.n zz.c _ zz.l 0 W' (by decide) HZK.out.sm (RZ.out W' h) HZK.out.le)
            have HC2 := Lib.hid (fun W' (h : Below wr.heap.size wr W') => refCrc_any A10 128 c10 _ lp 0 W' (by decide) HSL.out (RG.out W' h) (by unfold maxLen; omega))
            generalize hy1 : ((Nums.sum 0 zz.l : Nat) : Int) = y1 at *
            generalize hy2 : ((Nums.sum 0 lp : Nat) : Int) = y2 at *
            have HY1 := Lib.hid hy1.symm
            have HY2 := Lib.hid hy2.symm
            obtain ⟨qh, hqh⟩ : ∃ qh, (y1 == y2) = qh := ⟨_, rfl⟩
            have HQH := Lib.hid hqh
            generalize hsy : Sh.strL zz.l = sy at *
            have HSY := Lib.hid hsy
            have t1 := fun W' (h : Below wr.heap.size wr W') => Sh.run_str zz.c (RZ.out W' h)
            have t2 := fun W' (h : Below wr.heap.size wr W') => Sh.run_str c10 (RG.out W' h)
            rw [hsy] at t1
            rw [HSV.out] at t2
            have T1 := Lib.hid t1
            have T2 := Lib.hid t2
            clear t1 t2
            obtain ⟨qp, hqp⟩ : ∃ qp, (sy.toList == sv.toList) = qp := ⟨_, rfl⟩
            have HQP := Lib.hid hqp
            clear hy1 hy2 hsy r0 r1 r2 hgm
            cases hb with
            | true =>
              have m0 := M0.out _ (Below.refl _ wr)
              have m1 := M1.out _ (Below.refl _ wr)
              have m2 := M2.out _ (Below.refl _ wr)
              have n0 := N0.out _ (Below.refl _ wr)
              have n1 := N1.out _ (Below.refl _ wr)
              have n2 := N2.out _ (Below.refl _ wr)
              go_wp2_with fail
              go_quiet (((first | (go_at_call 28; refine (HC1.out _ (drawn (Below.refl _ _) _)).mono ?_; rintro e w' ⟨rfl, rfl⟩; exact ⟨rfl, _, rfl⟩) | (go_at_call 28; refine (HC2.out _ (drawn (Below.refl _ _) _)).mono ?_; rintro e w' ⟨rfl, rfl⟩; exact ⟨rfl, _, rfl⟩))))
              clear m0 m1 m2 n0 n1 n2
              have HX := Lib.hid (show Below W11.heap.size W11 (wr.drewN nq) from drawn HBW.out nq)
              have HY := Lib.hid (show Below wr.heap.size wr (wr.drewN nq) from drawn (Below.refl _ _) nq)
              generalize wr.drewN nq = wr1 at *
              have m2 := M2.out _ HY.out
              have n2 := N2.out _ HY.out
              have t1 := fun k => T1.out (wr1.drewN k) (drawn HY.out k)
              have t2 := fun k => T2.out (wr1.drewN k) (drawn HY.out k)
              clear HHB
              cases pb with
              | true =>
                go_wp2_with fail
                go_quiet (fail)
                have HBE := Lib.hid (drawn HX.out nq)
                clear m2 n2 t1 t2
                go_wp2_with fail
                refine ⟨⟨i + 1, _, true, by omega, rfl, rfl, by go_num, Lib.hid ⟨HBE.out, .inl rfl, .inl rfl⟩⟩, ?_⟩
                simp [intOf]
                omega
              | false =>
                go_wp2_with fail
                go_quiet (fail)
                have HBE := Lib.hid (drawn HX.out nq)
                clear m2 n2 t1 t2
                have HQ2 := Lib.hid (no_step (Q := Pm zs sv) HPB.out (b' := qp) (i := i) (by
                  cases qp with
                  | true => exact .inl rfl
                  | false =>
                    refine .inr fun e => ?_
                    have h := HQP.out
                    rw [beq_eq_false_iff_ne] at h
                    exact h (by unfold Pm at e; rw [HZZ.out, HSY.out] at e; exact e)) (fun h => by cases h))
                clear hqp HQP HPB
                go_wp2_with fail
                refine ⟨⟨i + 1, _, qp, by omega, rfl, rfl, by go_num, Lib.hid ⟨HBE.out, .inl rfl, HQ2.out⟩⟩, ?_⟩
                simp [intOf]
                omega
            | false =>
              by_cases hs0 : zz.s = x0
              · have hq0 : (zz.s == x0) = true := by rw [beq_iff_eq]; exact hs0
                by_cases hs1 : zz.q = x1
                · have hq1 : (zz.q == x1) = true := by rw [beq_iff_eq]; exact hs1
                  have m0 := M0.out
                  have m1 := M1.out
                  have m2 := M2.out
                  have n0 := N0.out
                  have n1 := N1.out
                  have n2 := N2.out
                  go_wp2_with fail
                  refine wp_region_held_drew (S := fun W' => Below wr.heap.size wr W') (by kernel_rfl) ((Below.refl _ _).drew) (fun hHeld => ?_)
                  refine wpAnyH_take (i := 0) (oi := ⟨some 129, _, _, _, _, _⟩) (v := ?_) rfl (by kernel_rfl) (by kernel_rfl) (by kernel_rfl) (fun _ _ _ h => h) (Or.inl ⟨by rfl, ?_⟩) (by assumption) ?_
                  rotate_left
                  · (intro w hSw; (try dsimp only at hSw); go_simp; first | done | with_reducible rfl)
                  try simp only [Act.put, List.setIfInBounds_toArray, List.set_cons_zero, List.set_cons_succ]
                  refine wpAnyH_take (i := 1) (oi := ⟨some 130, _, _, _, _, _⟩) (v := ?_) rfl (by kernel_rfl) (by kernel_rfl) (by kernel_rfl) (fun _ _ _ h => h) (Or.inl ⟨by rfl, ?_⟩) (by assumption) ?_
                  rotate_left
                  · (intro w hSw; (try dsimp only at hSw); go_simp; first | done | with_reducible rfl)
                  try simp only [Act.put, List.setIfInBounds_toArray, List.set_cons_zero, List.set_cons_succ]
                  refine wpAnyH_take (i := 2) (oi := ⟨some 131, _, _, _, _, _⟩) (v := ?_) rfl (by kernel_rfl) (by kernel_rfl) (by kernel_rfl) (fun _ _ _ h => h) (Or.inl ⟨by rfl, ?_⟩) (by assumption) ?_
                  rotate_left
                  · (intro w hSw; (try dsimp only at hSw); go_simp; first | done | with_reducible rfl)
                  try simp only [Act.put, List.setIfInBounds_toArray, List.set_cons_zero, List.set_cons_succ]
                  refine wpAnyH_take (i := 3) (oi := ⟨some 132, _, _, _, _, _⟩) (v := ?_) rfl (by kernel_rfl) (by kernel_rfl) (by kernel_rfl) (fun _ _ _ h => h) (Or.inl ⟨by rfl, ?_⟩) (by assumption) ?_
                  rotate_left
                  · (intro w hSw; (try dsimp only at hSw); go_simp; first | done | with_reducible rfl)
                  try simp only [Act.put, List.setIfInBounds_toArray, List.set_cons_zero, List.set_cons_succ]
                  refine wpAnyH_take (i := 4) (oi := ⟨some 133, _, _, _, _, _⟩) (v := ?_) rfl (by kernel_rfl) (by kernel_rfl) (by kernel_rfl) (fun _ _ _ h => h) (Or.inl ⟨by rfl, ?_⟩) (by assumption) ?_
                  rotate_left
                  · (intro w hSw; (try dsimp only at hSw); go_simp; first | done | with_reducible rfl)
                  try simp only [Act.put, List.setIfInBounds_toArray, List.set_cons_zero, List.set_cons_succ]
                  refine wpAnyH_take (i := 5) (oi := ⟨some 134, _, _, _, _, _⟩) (v := ?_) rfl (by kernel_rfl) (by kernel_rfl) (by kernel_rfl) (fun _ _ _ h => h) (Or.inl ⟨by rfl, ?_⟩) (by assumption) ?_
                  rotate_left
                  · (intro w hSw; (try dsimp only at hSw); go_simp; first | done | with_reducible rfl)
                  try simp only [Act.put, List.setIfInBounds_toArray, List.set_cons_zero, List.set_cons_succ]
                  refine wpAnyH_take (i := 6) (oi := ⟨some 135, _, _, _, _, _⟩) (v := ?_) rfl (by kernel_rfl) (by kernel_rfl) (by kernel_rfl) (fun _ _ _ h => h) (Or.inl ⟨by rfl, ?_⟩) (by assumption) ?_
                  rotate_left
                  · (intro w hSw; (try dsimp only at hSw); go_simp; first | done | with_reducible rfl)
                  try simp only [Act.put, List.setIfInBounds_toArray, List.set_cons_zero, List.set_cons_succ]
                  refine wpAnyH_take (i := 7) (oi := ⟨some 136, _, _, _, _, _⟩) (v := ?_) rfl (by kernel_rfl) (by kernel_rfl) (by kernel_rfl) (fun _ _ _ h => h) (Or.inl ⟨by rfl, ?_⟩) (by assumption) ?_
                  rotate_left
                  · (intro w hSw; (try dsimp only at hSw); go_simp; first | done | with_reducible rfl)
                  try simp only [Act.put, List.setIfInBounds_toArray, List.set_cons_zero, List.set_cons_succ]
                  refine wpAnyH_take (i := 8) (oi := ⟨some 137, _, _, _, _, _⟩) (v := ?_) rfl (by kernel_rfl) (by kernel_rfl) (by kernel_rfl) (fun _ _ _ h => h) (Or.inl ⟨by rfl, ?_⟩) (by assumption) ?_
                  rotate_left
                  · (intro w hSw; (try dsimp only at hSw); go_simp; first | done | with_reducible rfl)
                  try simp only [Act.put, List.setIfInBounds_toArray, List.set_cons_zero, List.set_cons_succ]
                  refine wpAnyH_take (i := 9) (oi := ⟨some 138, _, _, _, _, _⟩) (v := ?_) rfl (by kernel_rfl) (by kernel_rfl) (by kernel_rfl) (fun _ _ _ h => h) (Or.inl ⟨by rfl, ?_⟩) (by assumption) ?_
                  rotate_left
                  · (intro w hSw; (try dsimp only at hSw); go_simp; first | done | with_reducible rfl)
                  try simp only [Act.put, List.setIfInBounds_toArray, List.set_cons_zero, List.set_cons_succ]
                  refine wpAnyH_take (i := 10) (oi := ⟨some 139, _, _, _, _, _⟩) (v := ?_) rfl (by kernel_rfl) (by kernel_rfl) (by kernel_rfl) (fun _ _ _ h => h) (Or.inl ⟨by rfl, ?_⟩) (by assumption) ?_
                  rotate_left
                  · (intro w hSw; (try dsimp only at hSw); go_simp; first | done | with_reducible rfl)
                  try simp only [Act.put, List.setIfInBounds_toArray, List.set_cons_zero, List.set_cons_succ]
                  refine wpAnyH_take (i := 11) (oi := ⟨some 140, _, _, _, _, _⟩) (v := ?_) rfl (by kernel_rfl) (by kernel_rfl) (by kernel_rfl) (fun _ _ _ h => h) (Or.inl ⟨by rfl, ?_⟩) (by assumption) ?_
                  rotate_left
                  · (intro w hSw; (try dsimp only at hSw); go_simp; first | done | with_reducible rfl)
                  try simp only [Act.put, List.setIfInBounds_toArray, List.set_cons_zero, List.set_cons_succ]
                  refine wpAnyH_take (i := 12) (oi := ⟨some 141, _, _, _, _, _⟩) (v := ?_) rfl (by kernel_rfl) (by kernel_rfl) (by kernel_rfl) (fun _ _ _ h => h) (Or.inl ⟨by rfl, ?_⟩) (by assumption) ?_
                  rotate_left
                  · (intro w hSw; (try dsimp only at hSw); go_simp; first | done | with_reducible rfl)
                  try simp only [Act.put, List.setIfInBounds_toArray, List.set_cons_zero, List.set_cons_succ]
                  refine wpAnyH_take (i := 13) (oi := ⟨some 142, _, _, _, _, _⟩) (v := ?_) rfl (by kernel_rfl) (by kernel_rfl) (by kernel_rfl) (fun _ _ _ h => h) (Or.inl ⟨by rfl, ?_⟩) (by assumption) ?_
                  rotate_left
                  · (intro w hSw; (try dsimp only at hSw); go_simp; first | done | with_reducible rfl)
                  try simp only [Act.put, List.setIfInBounds_toArray, List.set_cons_zero, List.set_cons_succ]
                  refine wpAnyH_take (i := 14) (oi := ⟨some 143, _, _, _, _, _⟩) (v := ?_) rfl (by kernel_rfl) (by kernel_rfl) (by kernel_rfl) (fun _ _ _ h => h) (Or.inl ⟨by rfl, ?_⟩) (by assumption) ?_
                  rotate_left
                  · (intro w hSw; (try dsimp only at hSw); go_simp; first | done | with_reducible rfl)
                  try simp only [Act.put, List.setIfInBounds_toArray, List.set_cons_zero, List.set_cons_succ]
                  refine wpAnyH_take (i := 15) (oi := ⟨some 144, _, _, _, _, _⟩) (v := ?_) rfl (by kernel_rfl) (by kernel_rfl) (by kernel_rfl) (fun _ _ _ h => h) (Or.inl ⟨by rfl, ?_⟩) (by assumption) ?_
                  rotate_left
                  · (intro w hSw; (try dsimp only at hSw); go_simp; first | done | with_reducible rfl)
                  try simp only [Act.put, List.setIfInBounds_toArray, List.set_cons_zero, List.set_cons_succ]
                  refine wpAnyH_take (i := 16) (oi := ⟨some 145, _, _, _, _, _⟩) (v := ?_) rfl (by kernel_rfl) (by kernel_rfl) (by kernel_rfl) (fun _ _ _ h => h) (Or.inl ⟨by rfl, ?_⟩) (by assumption) ?_
                  rotate_left
                  · (intro w hSw; (try dsimp only at hSw); go_simp; first | done | with_reducible rfl)
                  try simp only [Act.put, List.setIfInBounds_toArray, List.set_cons_zero, List.set_cons_succ]
                  refine wpAnyH_take (i := 17) (oi := ⟨some 146, _, _, _, _, _⟩) (v := ?_) rfl (by kernel_rfl) (by kernel_rfl) (by kernel_rfl) (fun _ _ _ h => h) (Or.inl ⟨by rfl, ?_⟩) (by assumption) ?_
                  rotate_left
                  · (intro w hSw; (try dsimp only at hSw); go_simp; first | done | with_reducible rfl)
                  try simp only [Act.put, List.setIfInBounds_toArray, List.set_cons_zero, List.set_cons_succ]
                  refine wpAnyH_take (i := 18) (oi := ⟨some 147, _, _, _, _, _⟩) (v := ?_) rfl (by kernel_rfl) (by kernel_rfl) (by kernel_rfl) (fun _ _ _ h => h) (Or.inl ⟨by rfl, ?_⟩) (by assumption) ?_
                  rotate_left
                  · (intro w hSw; (try dsimp only at hSw); go_simp; first | done | with_reducible rfl)
                  try simp only [Act.put, List.setIfInBounds_toArray, List.set_cons_zero, List.set_cons_succ]
                  refine wpAnyH_take (i := 19) (oi := ⟨some 148, _, _, _, _, _⟩) (v := ?_) rfl (by kernel_rfl) (by kernel_rfl) (by kernel_rfl) (fun _ _ _ h => h) (Or.inl ⟨by rfl, ?_⟩) (by assumption) ?_
                  rotate_left
                  · (intro w hSw; (try dsimp only at hSw); go_simp; first | done | with_reducible rfl)
                  try simp only [Act.put, List.setIfInBounds_toArray, List.set_cons_zero, List.set_cons_succ]
                  refine wpAnyH_take (i := 20) (oi := ⟨some 149, _, _, _, _, _⟩) (v := ?_) rfl (by kernel_rfl) (by kernel_rfl) (by kernel_rfl) (fun _ _ _ h => h) (Or.inl ⟨by rfl, ?_⟩) (by assumption) ?_
                  rotate_left
                  · (intro w hSw; (try dsimp only at hSw); go_simp; first | done | with_reducible rfl)
                  try simp only [Act.put, List.setIfInBounds_toArray, List.set_cons_zero, List.set_cons_succ]
                  refine wpAnyH_take (i := 21) (oi := ⟨some 150, _, _, _, _, _⟩) (v := ?_) rfl (by kernel_rfl) (by kernel_rfl) (by kernel_rfl) (fun _ _ _ h => h) (Or.inl ⟨by rfl, ?_⟩) (by assumption) ?_
                  rotate_left
                  · (intro w hSw; (try dsimp only at hSw); go_simp; first | done | with_reducible rfl)
                  try simp only [Act.put, List.setIfInBounds_toArray, List.set_cons_zero, List.set_cons_succ]
                  refine wpAnyH_take (i := 22) (oi := ⟨some 151, _, _, _, _, _⟩) (v := ?_) rfl (by kernel_rfl) (by kernel_rfl) (by kernel_rfl) (fun _ _ _ h => h) (Or.inl ⟨by rfl, ?_⟩) (by assumption) ?_
                  rotate_left
                  · (intro w hSw; (try dsimp only at hSw); go_simp; first | done | with_reducible rfl)
                  try simp only [Act.put, List.setIfInBounds_toArray, List.set_cons_zero, List.set_cons_succ]
                  refine wpAnyH_take (i := 23) (oi := ⟨some 152, _, _, _, _, _⟩) (v := ?_) rfl (by kernel_rfl) (by kernel_rfl) (by kernel_rfl) (fun _ _ _ h => h) (Or.inl ⟨by rfl, ?_⟩) (by assumption) ?_
                  rotate_left
                  · (intro w hSw; (try dsimp only at hSw); go_simp; first | done | with_reducible rfl)
                  try simp only [Act.put, List.setIfInBounds_toArray, List.set_cons_zero, List.set_cons_succ]
                  refine wpAnyH_take (i := 24) (oi := ⟨some 153, _, _, _, _, _⟩) (v := ?_) rfl (by kernel_rfl) (by kernel_rfl) (by kernel_rfl) (fun _ _ _ h => h) (Or.inl ⟨by rfl, ?_⟩) (by assumption) ?_
                  rotate_left
                  · (intro w hSw; (try dsimp only at hSw); go_simp; first | done | with_reducible rfl)
                  try simp only [Act.put, List.setIfInBounds_toArray, List.set_cons_zero, List.set_cons_succ]
                  refine wpAnyH_take (i := 25) (oi := ⟨some 154, _, _, _, _, _⟩) (v := ?_) rfl (by kernel_rfl) (by kernel_rfl) (by kernel_rfl) (fun _ _ _ h => h) (Or.inl ⟨by rfl, ?_⟩) (by assumption) ?_
                  rotate_left
                  · (intro w hSw; (try dsimp only at hSw); go_simp; first | done | with_reducible rfl)
                  try simp only [Act.put, List.setIfInBounds_toArray, List.set_cons_zero, List.set_cons_succ]
                  refine wpAnyH_take (i := 27) (oi := ⟨some 156, _, _, _, _, _⟩) (v := ?_) rfl (by kernel_rfl) (by kernel_rfl) (by kernel_rfl) (fun _ _ _ h => h) (Or.inl ⟨by rfl, ?_⟩) (by assumption) ?_
                  rotate_left
                  · (intro w hSw; (try dsimp only at hSw); go_simp; first | done | with_reducible rfl)
                  try simp only [Act.put, List.setIfInBounds_toArray, List.set_cons_zero, List.set_cons_succ]
                  refine wpAnyH_take (i := 28) (oi := ⟨some 157, _, _, _, _, _⟩) (v := ?_) rfl (by kernel_rfl) (by kernel_rfl) (by kernel_rfl) (fun _ _ _ h => h) (Or.inl ⟨by rfl, ?_⟩) (by assumption) ?_
                  rotate_left
                  · (intro w hSw; (try dsimp only at hSw); go_simp; first | done | with_reducible rfl)
                  try simp only [Act.put, List.setIfInBounds_toArray, List.set_cons_zero, List.set_cons_succ]
                  refine wpAnyH_ready (rs := [26]) (by kernel_rfl) (by simp) ?_
                  refine AllReadyH.cons (o := ⟨some 155, _, _, _, _, _⟩) rfl (fun K hK => ?_) AllReadyH.nil
                  go_simp
                  refine (HC1.out _ hHeld).mono ?_
                  rintro e w9 ⟨rfl, rfl⟩
                  refine hK.out _ _ (hHeld) (fun hHeld => ?_)
                  clear hK K
                  try simp only [Act.put, List.setIfInBounds_toArray, List.set_cons_zero, List.set_cons_succ]
                  refine wpAnyH_ready (rs := [29]) (by kernel_rfl) (by simp) ?_
                  refine AllReadyH.cons (o := ⟨some 158, _, _, _, _, _⟩) rfl (fun K hK => ?_) AllReadyH.nil
                  go_simp
                  refine (HC2.out _ hHeld).mono ?_
                  rintro e w9 ⟨rfl, rfl⟩
                  refine hK.out _ _ (hHeld) (fun hHeld => ?_)
                  clear hK K
                  try simp only [Act.put, List.setIfInBounds_toArray, List.set_cons_zero, List.set_cons_succ]
                  refine wpAnyH_take (i := 30) (oi := ⟨some 159, _, _, _, _, _⟩) (v := ?_) rfl (by kernel_rfl) (by kernel_rfl) (by kernel_rfl) (fun _ _ _ h => h) (Or.inl ⟨by rfl, ?_⟩) (by assumption) ?_
                  rotate_left
                  · (intro w hSw; (try dsimp only at hSw); go_simp; first | done | with_reducible rfl)
                  try simp only [Act.put, List.setIfInBounds_toArray, List.set_cons_zero, List.set_cons_succ]
                  refine wpAnyH_take (i := 31) (oi := ⟨some 160, _, _, _, _, _⟩) (v := ?_) rfl (by kernel_rfl) (by kernel_rfl) (by kernel_rfl) (fun _ _ _ h => h) (Or.inl ⟨by rfl, ?_⟩) (by assumption) ?_
                  rotate_left
                  · (intro w hSw; (try dsimp only at hSw); go_simp; first | done | with_reducible rfl)
                  try simp only [Act.put, List.setIfInBounds_toArray, List.set_cons_zero, List.set_cons_succ]
                  refine wpAnyH_take (i := 32) (oi := ⟨some 161, _, _, _, _, _⟩) (v := ?_) rfl (by kernel_rfl) (by kernel_rfl) (by kernel_rfl) (fun _ _ _ h => h) (Or.inl ⟨by rfl, ?_⟩) (by assumption) ?_
                  rotate_left
                  · (intro w hSw; (try dsimp only at hSw); go_simp; first | done | with_reducible rfl)
                  try simp only [Act.put, List.setIfInBounds_toArray, List.set_cons_zero, List.set_cons_succ]
                  refine wpAnyH_take (i := 33) (oi := ⟨some 18, _, _, _, _, _⟩) (v := ?_) rfl (by kernel_rfl) (by kernel_rfl) (by kernel_rfl) (fun _ _ _ h => h) (Or.inl ⟨by rfl, ?_⟩) (by assumption) ?_
                  rotate_left
                  · (intro w hSw; (try dsimp only at hSw); go_simp; first | done | with_reducible rfl)
                  try simp only [Act.put, List.setIfInBounds_toArray, List.set_cons_zero, List.set_cons_succ]
                  refine wpAnyH_done (by kernel_rfl) ?_ _
                  clear m0 m1 m2 n0 n1 n2 hHeld
                  have HX := Lib.hid (show Below W11.heap.size W11 wr.drew from HBW.out.drew)
                  have HY := Lib.hid (show Below wr.heap.size wr wr.drew from (Below.refl _ _).drew)
                  generalize wr.drew = wr1 at *
                  have m2 := M2.out _ HY.out
                  have n2 := N2.out _ HY.out
                  have t1 := fun k => T1.out (wr1.drewN k) (drawn HY.out k)
                  have t2 := fun k => T2.out (wr1.drewN k) (drawn HY.out k)
                  have HH := Lib.hid (no_step (Q := Hm zs x0 x1 lp) HHB.out (b' := qh) (i := i) (by
                    cases qh with
                    | true => exact .inl rfl
                    | false =>
                      refine .inr fun e => ?_
                      have h := HQH.out
                      rw [beq_eq_false_iff_ne] at h
                      exact h (by unfold Hm at e; rw [HZZ.out] at e; rw [HY1.out, HY2.out, e.2.2])) (fun h => by first | rfl | cases h))
                  clear HHB
                  clear hqh HQH
                  cases pb with
                  | true =>
                    go_wp2_with fail
                    go_quiet (fail)
                    have HBE := Lib.hid (drawn HX.out nq)
                    clear m2 n2 t1 t2
                    go_wp2_with fail
                    refine ⟨⟨i + 1, _, true, by omega, rfl, rfl, by go_num, Lib.hid ⟨HBE.out, HH.out, .inl rfl⟩⟩, ?_⟩
                    simp [intOf]
                    omega
                  | false =>
                    go_wp2_with fail
                    go_quiet (fail)
                    have HBE := Lib.hid (drawn HX.out nq)
                    clear m2 n2 t1 t2
                    have HQ2 := Lib.hid (no_step (Q := Pm zs sv) HPB.out (b' := qp) (i := i) (by
                      cases qp with
                      | true => exact .inl rfl
                      | false =>
                        refine .inr fun e => ?_
                        have h := HQP.out
                        rw [beq_eq_false_iff_ne] at h
                        exact h (by unfold Pm at e; rw [HZZ.out, HSY.out] at e; exact e)) (fun h => by cases h))
                    clear hqp HQP HPB
                    go_wp2_with fail
                    refine ⟨⟨i + 1, _, qp, by omega, rfl, rfl, by go_num, Lib.hid ⟨HBE.out, HH.out, HQ2.out⟩⟩, ?_⟩
                    simp [intOf]
                    omega
                · have hq1 : (zz.q == x1) = false := by rw [beq_eq_false_iff_ne]; exact hs1
                  have m0 := M0.out _ (Below.refl _ wr)
                  have m1 := M1.out _ (Below.refl _ wr)
                  have m2 := M2.out _ (Below.refl _ wr)
                  have n0 := N0.out _ (Below.refl _ wr)
                  have n1 := N1.out _ (Below.refl _ wr)
                  have n2 := N2.out _ (Below.refl _ wr)
                  go_wp2_with fail
                  go_quiet (((first | (go_at_call 28; refine (HC1.out _ (drawn (Below.refl _ _) _)).mono ?_; rintro e w' ⟨rfl, rfl⟩; exact ⟨rfl, _, rfl⟩) | (go_at_call 28; refine (HC2.out _ (drawn (Below.refl _ _) _)).mono ?_; rintro e w' ⟨rfl, rfl⟩; exact ⟨rfl, _, rfl⟩))))
                  clear m0 m1 m2 n0 n1 n2
                  have HX := Lib.hid (show Below W11.heap.size W11 (wr.drewN nq) from drawn HBW.out nq)
                  have HY := Lib.hid (show Below wr.heap.size wr (wr.drewN nq) from drawn (Below.refl _ _) nq)
                  generalize wr.drewN nq = wr1 at *
                  have m2 := M2.out _ HY.out
                  have n2 := N2.out _ HY.out
                  have t1 := fun k => T1.out (wr1.drewN k) (drawn HY.out k)
                  have t2 := fun k => T2.out (wr1.drewN k) (drawn HY.out k)
                  have HH := Lib.hid (no_step (Q := Hm zs x0 x1 lp) HHB.out (b' := false) (i := i) (.inr fun e => hs1 (by unfold Hm at e; rw [HZZ.out] at e; exact e.2.1)) (fun h => by first | rfl | cases h))
                  clear HHB
                  cases pb with
                  | true =>
                    go_wp2_with fail
                    go_quiet (fail)
                    have HBE := Lib.hid (drawn HX.out nq)
                    clear m2 n2 t1 t2
                    go_wp2_with fail
                    refine ⟨⟨i + 1, _, true, by omega, rfl, rfl, by go_num, Lib.hid ⟨HBE.out, HH.out, .inl rfl⟩⟩, ?_⟩
                    simp [intOf]
                    omega
                  | false =>
                    go_wp2_with fail
                    go_quiet (fail)
                    have HBE := Lib.hid (drawn HX.out nq)
                    clear m2 n2 t1 t2
                    have HQ2 := Lib.hid (no_step (Q := Pm zs sv) HPB.out (b' := qp) (i := i) (by
                      cases qp with
                      | true => exact .inl rfl
                      | false =>
                        refine .inr fun e => ?_
                        have h := HQP.out
                        rw [beq_eq_false_iff_ne] at h
                        exact h (by unfold Pm at e; rw [HZZ.out, HSY.out] at e; exact e)) (fun h => by cases h))
                    clear hqp HQP HPB
                    go_wp2_with fail
                    refine ⟨⟨i + 1, _, qp, by omega, rfl, rfl, by go_num, Lib.hid ⟨HBE.out, HH.out, HQ2.out⟩⟩, ?_⟩
                    simp [intOf]
                    omega
              · have hq0 : (zz.s == x0) = false := by rw [beq_eq_false_iff_ne]; exact hs0
                have m0 := M0.out _ (Below.refl _ wr)
                have m1 := M1.out _ (Below.refl _ wr)
                have m2 := M2.out _ (Below.refl _ wr)
                have n0 := N0.out _ (Below.refl _ wr)
                have n1 := N1.out _ (Below.refl _ wr)
                have n2 := N2.out _ (Below.refl _ wr)
                go_wp2_with fail
                go_quiet (((first | (go_at_call 28; refine (HC1.out _ (drawn (Below.refl _ _) _)).mono ?_; rintro e w' ⟨rfl, rfl⟩; exact ⟨rfl, _, rfl⟩) | (go_at_call 28; refine (HC2.out _ (drawn (Below.refl _ _) _)).mono ?_; rintro e w' ⟨rfl, rfl⟩; exact ⟨rfl, _, rfl⟩))))
                clear m0 m1 m2 n0 n1 n2
                have HX := Lib.hid (show Below W11.heap.size W11 (wr.drewN nq) from drawn HBW.out nq)
                have HY := Lib.hid (show Below wr.heap.size wr (wr.drewN nq) from drawn (Below.refl _ _) nq)
                generalize wr.drewN nq = wr1 at *
                have m2 := M2.out _ HY.out
                have n2 := N2.out _ HY.out
                have t1 := fun k => T1.out (wr1.drewN k) (drawn HY.out k)
                have t2 := fun k => T2.out (wr1.drewN k) (drawn HY.out k)
                have HH := Lib.hid (no_step (Q := Hm zs x0 x1 lp) HHB.out (b' := false) (i := i) (.inr fun e => hs0 (by unfold Hm at e; rw [HZZ.out] at e; exact e.1)) (fun h => by first | rfl | cases h))
                clear HHB
                cases pb with
                | true =>
                  go_wp2_with fail
                  go_quiet (fail)
                  have HBE := Lib.hid (drawn HX.out nq)
                  clear m2 n2 t1 t2
                  go_wp2_with fail
                  refine ⟨⟨i + 1, _, true, by omega, rfl, rfl, by go_num, Lib.hid ⟨HBE.out, HH.out, .inl rfl⟩⟩, ?_⟩
                  simp [intOf]
                  omega
                | false =>
                  go_wp2_with fail
                  go_quiet (fail)
                  have HBE := Lib.hid (drawn HX.out nq)
                  clear m2 n2 t1 t2
                  have HQ2 := Lib.hid (no_step (Q := Pm zs sv) HPB.out (b' := qp) (i := i) (by
                    cases qp with
                    | true => exact .inl rfl
                    | false =>
                      refine .inr fun e => ?_
                      have h := HQP.out
                      rw [beq_eq_false_iff_ne] at h
                      exact h (by unfold Pm at e; rw [HZZ.out, HSY.out] at e; exact e)) (fun h => by cases h))
                  clear hqp HQP HPB
                  go_wp2_with fail
                  refine ⟨⟨i + 1, _, qp, by omega, rfl, rfl, by go_num, Lib.hid ⟨HBE.out, HH.out, HQ2.out⟩⟩, ?_⟩
                  simp [intOf]
                  omega
          · have hil : i = zs.length := by omega
            have hb1 : hb = true := by
              rcases HHB.out with h | h
              · exact h
              · obtain ⟨j, hj, e⟩ := HFH.out
                exact absurd e (h j (by omega))
            have pb1 : pb = true := by
              rcases HPB.out with h | h
              · exact h
              · obtain ⟨j, hj, e⟩ := HFP.out
                exact absurd e (h j (by omega))
            have HBE := Lib.hid (HBL.out.trans (HBW.out.mono HBL.out.size))
            clear hil HHB HPB
            subst hb1
            subst pb1
            go_wp2_with fail
            go_ret
            exact ⟨rfl, HBE.out⟩
set_option maxRecDepth 100000 in
/-- WHAT THE WALK GIVES, FOR EVERY ARGUMENT AND EVERY WORLD THAT HOLDS THE TABLES. -/
theorem contract (H : Type) (enc : TypeId × Value → H) (W : World) (base : Nat) (args : Array Value) (ds gs : List (DataW H)) (before : List MemPlace)
    (hval : ∀ (j : Nat) t v, Tryd.f7.params[j]? = some t → args[j]? = some v → Value.okWide Tryd.prog W .any base t v)
    (hW : DataW.Whole enc Tryd.prog Tryd.f7.params.toList Rows.pplCrashSpec.vars false W args.toList ds gs before)
    (hsz : (DataW.weightsEach Tryd.prog (Tryd.f7.params.toList ++ (OpenSpec.ofChange Rows.pplCrashSpec).bare.plain.varTypes Tryd.prog) (ds ++ gs)).all (· ≤ reachBytes) = true) (hL : laidMetH Tryd.prog laidBoth W) :
    Calls Tryd.prog 7 args W fun e W' => ∃ v, e = .returned v ∧ Rows.pplCrashSpec.post enc Tryd.prog Tryd.f7 false true false false W args v W' := by
  have hW' := hW
  obtain ⟨p, q, hA0, hV, rfl, hfz, hnd⟩ := hW
  have hA : DataW.TrodAll enc Tryd.prog W 0 (fun _ => true) true Tryd.f7.params.toList args.toList ds p := hA0
  have hsz2 : (DataW.weightsEach Tryd.prog (Tryd.f7.params.toList ++ []) (ds ++ gs)).all (· ≤ reachBytes) = true := hsz
  rw [Tryd.params7] at hA hval hsz2
  obtain ⟨v0, vs0, d0, ds0, p0, q0, hargs, rfl, rfl, h0, r0⟩ := trodAll_cons hA
  obtain ⟨v1, vs1, d1, ds1, p1, q1, rfl, rfl, rfl, h1, r1⟩ := trodAll_cons r0
  obtain ⟨v2, vs2, d2, ds2, p2, q2, rfl, rfl, rfl, h2, r2⟩ := trodAll_cons r1
  obtain ⟨rfl, rfl, rfl⟩ := trodAll_nil r2
  obtain rfl : args = #[v0, v1, v2] := by cases args; simp_all
  obtain ⟨rfl, rfl⟩ := trodVars_none hV
  obtain ⟨A0, n0, c0, rfl⟩ := okWide_slice Tryd.underlying35 (hval 0 35 v0 rfl rfl)
  have k0 := h0
  have lt0 : ∀ x ∈ p0, x.block < W.heap.size := by obtain ⟨m, hm⟩ := k0; exact DataW.trod_lt m _ _ _ hm
  obtain ⟨f0, hl0⟩ : ∃ f, Ops7 W A0 n0 f := by obtain ⟨fuel, hf⟩ := h0; exact ops7_in (by simpa [Value.cells] using hf)
  obtain ⟨a1, rfl, rfl, rfl, w1⟩ := open_int Tryd.underlying3 (hval 1 3 v1 rfl rfl) h1
  have bd1 := bounds_i64 w1
  obtain ⟨A2, n2, c2, rfl⟩ := okWide_slice Tryd.underlying55 (hval 2 55 v2 rfl rfl)
  have k2 := h2
  have lt2 : ∀ x ∈ p2, x.block < W.heap.size := by obtain ⟨m, hm⟩ := k2; exact DataW.trod_lt m _ _ _ hm
  obtain ⟨ks2, nb2, hk2⟩ : ∃ ks : List (List Int), n2 ≤ 9223372036854775807 ∧ KeepIs W (Old W) A2 n2 ks := by obtain ⟨fuel, hf⟩ := h2; exact keep_in (by simpa [Value.cells] using hf)
  have hT := tabs_of_laid hL
  refine (walk A0 n0 c0 f0 hl0 a1 bd1.1 bd1.2 A2 n2 c2 ks2 nb2 hk2 hT).mono fun e W' ⟨he, bel⟩ => ?_
  subst he
  exact ⟨_, rfl, _, _, _, [], _, [], hW', trodAll_mk1 (shut_bool Tryd.underlying4 _), (trodAll_cons_mk (Below.trod laidOut (by kernel_rfl) (of_decide_eq_true (by kernel_rfl)) k0 bel lt0) (trodAll_cons_mk (shut_int Tryd.underlying3 w1) (trodAll_cons_mk (Below.trod laidOut (by kernel_rfl) (of_decide_eq_true (by kernel_rfl)) k2 bel lt2) trodAll_mk0))), rfl, bel.frame _, fun h => by cases h⟩

theorem laid_met (os : Os) : laidMetH Tryd.prog laidBoth ((laidWorld os).forCall (fun _ _ => 0) ⟨#[], #[.slice none 0 0, .int .i64 0, .slice none 0 0], []⟩).memory :=
  laidMetH_of_parts3 (fuel := 8) (laidMet_of_run' 8 (by kernel_rfl) (by kernel_rfl)) (by kernel_rfl) (by kernel_rfl)
theorem reads (os : Os) {H : Type} (enc : TypeId × Value → H) : ∃ places, DataW.whole enc Tryd.prog ((laidWorld os).forCall (fun _ _ => 0) ⟨#[], #[.slice none 0 0, .int .i64 0, .slice none 0 0], []⟩).memory Tryd.f7.params.toList Rows.pplCrashSpec.vars false (#[.slice none 0 0, .int .i64 0, .slice none 0 0] : Array Value).toList 8 = some ([.nil, .lit (.int .i64 0), .nil], [], places) :=
  ⟨[], by kernel_rfl⟩
set_option maxRecDepth 100000 in
theorem lifted (os : Os) (started : os.Started) (H : Type) (enc : TypeId × Value → H) (F : Stop.Interp) :
    ReturnsInHanded {} Tryd.checked os 7 .any ((OpenSpec.ofChange Rows.pplCrashSpec).preRow enc Tryd.prog Tryd.f7 Rows.pplCrashRow.domain false Rows.pplCrashRow.laid) (((OpenSpec.ofChange Rows.pplCrashSpec).at F).post enc Tryd.prog Tryd.f7 false true false false) := by
  obtain ⟨places, hx⟩ := reads os enc
  refine returnsInHanded_of_row (C := Tryd.checked) (s := (OpenSpec.ofChange Rows.pplCrashSpec)) own started (by kernel_rfl) Tryd.func7
    (witness_row_at (enc := enc) (C := Tryd.checked) false (laidWorld os) #[.slice none 0 0, .int .i64 0, .slice none 0 0] rfl (by kernel_rfl) (by kernel_rfl) (by kernel_rfl)
      (OpenSpec.preRow_of_cond 8 hx (by kernel_rfl) (fun k hk => by cases hk) (by kernel_rfl) (laid_met os))) ?_
  intro W base args ds gs before hval hW _ hcond hsz hL _ _
  exact contract H enc W base args ds gs before hval hW hsz hL
theorem said : Rows.PplCrashSaid :=
  OpenClaim.holds_of_cond 7 Tryd.f7 rfl rfl rfl rfl rfl rfl rfl ⟨rfl, rfl, rfl, rfl, rfl⟩ rfl rfl rfl rfl rfl (by kernel_rfl) Tryd.func7 (by kernel_rfl)
    (of_decide_eq_true (by kernel_rfl)) (by unfold Func.isWrapper; first | (rw [if_pos (by decide +kernel)]; kernel_rfl) | (rw [if_neg (by decide +kernel)]; exact ⟨rfl, rfl⟩))
    (fun os started H enc _ F => by rw [OpenClaim.pre_eq_preRow]; exact lifted os started H enc F)
theorem plain (f : FuncId) (fn : Func) (hf : Tryd.pinned.checked.prog.funcNamed "ashlar/ashlarlaw07.PplCrash" = some f) (hfn : Tryd.pinned.checked.prog.funcs[f]? = some fn) :
    false = Tryd.pinned.checked.prog.looks [] ∧ ∀ (j : Nat) t, fn.params[j]? = some t → Tryd.pinned.checked.prog.wantsStandIn t = false := by
  obtain rfl : f = 7 := Option.some.inj ((show Tryd.prog.funcNamed "ashlar/ashlarlaw07.PplCrash" = some 7 by kernel_rfl).symm.trans hf) |>.symm
  obtain rfl : fn = Tryd.f7 := (Option.some.inj (Tryd.func7.symm.trans hfn)).symm
  refine ⟨by kernel_rfl, fun j t ht => ?_⟩
  rw [Tryd.params7] at ht
  have hm : t ∈ [35, 3, 55] := by simpa using Array.mem_of_getElem? ht
  have hall : ([35, 3, 55].all fun u => !Tryd.prog.wantsStandIn u) = true := by kernel_rfl
  exact (show Tryd.prog.wantsStandIn t = false by simpa using List.all_eq_true.1 hall t hm)

/-- ████ THE CARD ████ -/
theorem card : Rows.PplCrashCardSaid :=
  Claim7.holds_tied_plain_at .later [] _ _ _ _ said (fun _ h => by cases h) (by kernel_rfl) (fun _ h => by cases h) pplCrash_row_tie rfl ⟨rfl, rfl⟩ (by kernel_rfl) rfl plain (by kernel_rfl)
end Go.Proofs.YtohdieddocogkaaDoor.U.pplCrash
