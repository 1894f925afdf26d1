/-
  The contract of look: a block's bytes, with its sums.
  Conditions: the shelf lies in memory, the tables hold what the program's text lays, the block is there.
-/
import Derived.Test.YtjdjpafnakhpcaaDoorUi
namespace Go.Proofs.YtjdjpafnakhpcaaDoor.U
open Go.RowKit Go.Maps

theorem At.tabs {B : Nat} {W w : World} {p : Nat} {S : Sh.Sf} {F : Nat → Prop} (h : Sh.At B W w p S F) (hT : Tabs W) (hB : max 0 1 + 1 ≤ B) : Tabs w := hT.below hB h.bel
theorem two_new' (w : World) (c d : Array Value) (t t' : TypeId) : ((w.alloc (.cells c t)).alloc (.cells d t')).heap[w.heap.size]? = some (.cells c t (0, 0)) ∧ ((w.alloc (.cells c t)).alloc (.cells d t')).heap[w.heap.size + 1]? = some (.cells d t' (0, 0)) ∧
    ((w.alloc (.cells c t)).alloc (.cells d t')).heap.size = w.heap.size + 2 ∧ Below w.heap.size w ((w.alloc (.cells c t)).alloc (.cells d t')) := by
  have hz : (w.alloc (.cells c t)).heap.size = w.heap.size + 1 := by simp
  have hb1 : Below w.heap.size w (w.alloc (.cells c t)) := (Below.refl _ w).alloc (Nat.le_refl _) _
  have hb2 : Below (w.alloc (.cells c t)).heap.size (w.alloc (.cells c t)) ((w.alloc (.cells c t)).alloc (.cells d t')) := (Below.refl _ _).alloc (Nat.le_refl _) _
  refine ⟨(hb2.block w.heap.size (by omega)).trans (heap_alloc_new _ _), ?_, by simp, hb1.trans (hb2.mono (by omega))⟩
  have := heap_alloc_new (w.alloc (.cells c t)) (.cells d t')
  rw [hz] at this
  exact this
theorem stV_one (k : Nat) (A1 : Option Addr) (c1 : Nat) (A2 : Option Addr) (c2 x y s : Nat) : (stV k A1 c1 A2 c2 x y s).all (·.oneCell') = true := by simp [stV, Value.oneCell']
/-- What look leaves: the sector of the sums and the block, in new slices. -/
def LookIs (w : World) (p d k : Nat) (S : Sh.Sf) (F : Nat → Prop) (e : Ending) (w' : World) : Prop :=
  ∃ b1 c1 b2 c2, e = .returned (.tuple #[.agg (stV k (some ⟨b1, 0, none⟩) c1 (some ⟨b2, 0, none⟩) c2 (pr (V S d (sumOf k)) k 0) (pr (V S d (sumOf k)) k 1) (sumL d k (V S d (dataOf k)))), .int .i64 0]) ∧
    Sh.Bytes w w' (some ⟨b1, 0, none⟩) (V S d (sumOf k)) ∧ Sh.Bytes w w' (some ⟨b2, 0, none⟩) (V S d (dataOf k)) ∧ Sh.Shelf w' p S.doRead.doRead F ∧ Sh.Only F w w'
theorem bytes_on {w0 w w' : World} {A : Option Addr} {l : Sh.Bs} (h : Sh.Bytes w0 w A l) (hb : Below w.heap.size w w') : Sh.Bytes w0 w' A l := by
  refine ⟨(h.1.below hb).more hb.size, fun a ha => ⟨(h.2 a ha).1, fun j hj => ?_⟩⟩
  obtain ⟨ad, e, hlt, _⟩ := h.1.2 (by decide)
  rw [ha] at e
  injection e with e
  subst e
  rw [← (h.2 a ha).2 j hj]
  exact hb.frozen (p := a.add j) (by rw [block_of_add]; exact hlt)
theorem bytes_only {w0 w w' : World} {A : Option Addr} {l : Sh.Bs} {F : Nat → Prop} (h : Sh.Bytes w0 w A l) (hF : ∀ a, A = some a → ¬ F a.block) (ho : Sh.Only F w w') : Sh.Bytes w0 w' A l := by
  refine ⟨⟨h.1.1, fun h0 => ?_⟩, fun a ha => ⟨(h.2 a ha).1, fun j hj => ?_⟩⟩
  · obtain ⟨ad, e, hlt, hc⟩ := h.1.2 h0
    exact ⟨ad, e, Nat.lt_of_lt_of_le hlt ho.size, fun j u hu => (ho.cell (p := ad.add j) (by rw [block_of_add]; exact hlt) (by rw [block_of_add]; exact hF ad e)).trans (hc j u hu)⟩
  · obtain ⟨ad, e, hlt, _⟩ := h.1.2 (by decide)
    rw [ha] at e
    injection e with e
    subst e
    rw [← (h.2 a ha).2 j hj]
    exact ho.frozen (p := a.add j) (by rw [block_of_add]; exact hlt) (by rw [block_of_add]; exact hF a ha)
theorem bytes_from {w0 w1 w : World} {A : Option Addr} {l : Sh.Bs} (h : Sh.Bytes w1 w A l) (hs : w0.heap.size ≤ w1.heap.size) : Sh.Bytes w0 w A l := ⟨h.1, fun a ha => ⟨Nat.le_trans hs (h.2 a ha).1, (h.2 a ha).2⟩⟩
theorem bytes_some {w0 w : World} {A : Option Addr} {l : Sh.Bs} (h : Sh.Bytes w0 w A l) : ∃ ad, A = some ad := by
  obtain ⟨ad, e, _⟩ := h.1.2 (by decide)
  exact ⟨ad, e⟩
theorem only_setRow (w : World) (g : Nat) (cs : Array Value) : Sh.Only (fun b => b = g) w (w.setRow g cs) := ⟨rfl, rfl, rfl, by simp, fun _ _ hn => setRow_other _ _ _ _ hn⟩
theorem only_below {w w' : World} (F : Nat → Prop) (h : Below w.heap.size w w') : Sh.Only F w w' := ⟨h.os, h.tape, h.output, h.size, fun k hk _ => h.block k hk⟩
section
variable {B : Nat} {W w : World} {p d : Nat} {S : Sh.Sf} {F : Nat → Prop}
theorem secM_of (h : Sh.Shelf w p S F) : S.sectors ≤ 4096 := by obtain ⟨D, gs, s⟩ := h; exact s.secM
theorem V_sec (h : Sh.Shelf w p S F) (hd : d < S.disks.length) {n : Nat} (hn : n < S.sectors) : Sh.Sec (V S d n) := by obtain ⟨D, gs, s⟩ := h; exact (s.diskOf hd).val hn
set_option maxRecDepth 20000 in
set_option maxHeartbeats 1000000 in
theorem look_why (h : Sh.Shelf w p S F) (k : Nat) (hk : k < blk S.sectors) (hd : d < S.disks.length) (hw : Sh.why S d ≠ 0) :
    Calls Tryd.prog 61 #[.agg #[.pointer (some ⟨p, 0, none⟩), .int .i64 d], .int .i64 k] w fun e w' => e = .returned (.tuple #[.agg st0, .int .i64 (Sh.why S d)]) ∧ Below w.heap.size w w' := by
  have hbl := blk_le S.sectors
  have hM := secM_of h
  obtain ⟨hk1, hk2, _⟩ := sum_of_lt hk
  obtain ⟨q0, q1, z0, b0⟩ := two_new' w #[.pointer (some ⟨p, 0, none⟩), .int .i64 d] st0 103 110
  have k0 : ((w.alloc (.cells #[.pointer (some ⟨p, 0, none⟩), .int .i64 d] 103)).alloc (.cells st0 110)).cell? ⟨w.heap.size, 0, none⟩ = some (.pointer (some ⟨p, 0, none⟩)) := cell_of_row _ _ 0 _ _ _ q0
  have k1 : ((w.alloc (.cells #[.pointer (some ⟨p, 0, none⟩), .int .i64 d] 103)).alloc (.cells st0 110)).cell? ⟨w.heap.size, 1, none⟩ = some (.int .i64 d) := cell_of_row _ _ 1 _ _ _ q0
  have hS : Sh.Shelf ((w.alloc (.cells #[.pointer (some ⟨p, 0, none⟩), .int .i64 d] 103)).alloc (.cells st0 110)) p S F := h.only (G := fun _ => False) ⟨b0.os, b0.tape, b0.output, b0.size, fun k hk _ => b0.block k hk⟩ (fun _ _ e => e)
  have HP := Lib.hid (fun w => place_yes k (by omega) w)
  have HR := Lib.hid (Sh.read_why _ p d (sumOf k) hS hd hk2 hw)
  have hq : (Sh.why S d != 0) = true := by simpa using hw
  have hlv := Lib.hid (load_state q1 info_state)
  have hb := Lib.hid b0
  clear h hS hw b0
  generalize sumOf k = k1 at *
  generalize dataOf k = k2 at *
  generalize Sh.why S d = y at *
  clear q0 q1 z0
  unfold st0 at *
  go_enter Tryd.func61, Tryd.ntmps61
  go_wp2_with (first
    | (go_at_call 18; refine (HP.out _).mono ?_; rintro e w' ⟨rfl, rfl⟩)
    | (go_at_call 35; refine HR.out.mono ?_; rintro e w' ⟨rfl, rfl⟩))
  refine bodyPost_ret (results_cell2 (g := w.heap.size + 1) Tryd.results61 rfl hlv.out rfl) rfl ?_
  exact ⟨rfl, hb.out⟩
set_option maxRecDepth 20000 in
set_option maxHeartbeats 4000000 in
theorem look_done (h : Sh.At B W w p S F) (hT : Tabs W) (hTB : max 0 1 + 1 ≤ B) (k : Nat) (hk : k < blk S.sectors) (hd : d < S.disks.length) (hw : Sh.why S d = 0) :
    Calls Tryd.prog 61 #[.agg #[.pointer (some ⟨p, 0, none⟩), .int .i64 d], .int .i64 k] w (LookIs w p d k S F) := by
  have hbl := blk_le S.sectors
  have hM := secM_of h.shelf
  obtain ⟨hk1, hk2, _⟩ := sum_of_lt hk
  have hv1 := V_sec h.shelf hd hk2
  have hv2 := V_sec h.shelf hd hk1
  obtain ⟨q0, q1, z0, b0⟩ := two_new' w #[.pointer (some ⟨p, 0, none⟩), .int .i64 d] st0 103 110
  have k0 : ((w.alloc (.cells #[.pointer (some ⟨p, 0, none⟩), .int .i64 d] 103)).alloc (.cells st0 110)).cell? ⟨w.heap.size, 0, none⟩ = some (.pointer (some ⟨p, 0, none⟩)) := cell_of_row _ _ 0 _ _ _ q0
  have k1 : ((w.alloc (.cells #[.pointer (some ⟨p, 0, none⟩), .int .i64 d] 103)).alloc (.cells st0 110)).cell? ⟨w.heap.size, 1, none⟩ = some (.int .i64 d) := cell_of_row _ _ 1 _ _ _ q0
  have hS := h.grown b0
  have HP := Lib.hid (fun w => place_yes k (by omega) w)
  have HR := Lib.hid (Sh.read_at _ p d (sumOf k) hS.shelf hd hk2 hw)
  have hnF : ∀ b, w.heap.size ≤ b → ¬ F b := fun b hb e => by have := h.shelf.ltF e; omega
  have A0 := Lib.hid hS
  have HLT := Lib.hid (fun b (e : F b) => h.shelf.ltF e)
  have Q0 := Lib.hid q0
  have Q1 := Lib.hid q1
  have HO := Lib.hid b0
  clear h hS b0 q0 q1
  unfold st0 at *
  go_enter Tryd.func61, Tryd.ntmps61
  go_wp2_with fail
  generalize ((w.alloc (.cells #[.pointer (some ⟨p, 0, none⟩), .int .i64 d] 103)).alloc (.cells #[.int .i64 0, .int .i64 0, .int .i64 0, .slice none 0 0, .slice none 0 0, .int .u32 0, .int .u32 0, .int .u32 0] 110)) = W0 at *
  refine (HP.out _).mono ?_
  rintro e w' ⟨rfl, rfl⟩
  go_wp2_with fail
  refine HR.out.mono ?_
  rintro e w1 ⟨b1, c1, rfl, y1, s1, o1⟩
  have hg0 : w.heap.size < W0.heap.size := by omega
  have hg1 : w.heap.size + 1 < W0.heap.size := by omega
  have m0 := (o1.cell (p := ⟨w.heap.size, 0, none⟩) hg0 (hnF _ (Nat.le_refl _))).trans k0
  have m1 := (o1.cell (p := ⟨w.heap.size, 1, none⟩) hg0 (hnF _ (Nat.le_refl _))).trans k1
  have r1 := Lib.hid ((o1.block (w.heap.size + 1) hg1 (hnF _ (Nat.le_succ _))).trans Q1.out)
  have a1 := A0.out.stays s1 o1
  have X1 := Lib.hid (show Sh.Bytes W0 w1 (some ⟨b1, 0, none⟩) (V S d (sumOf k)) from y1)
  have hF1 := Lib.hid (show ∀ a, some (⟨b1, 0, none⟩ : Addr) = some a → ¬ F a.block from fun a ha e => by have h1 := (y1.2 a ha).1; exact hnF _ (by omega) e)
  have A1' := Lib.hid a1
  have HR2 := Lib.hid (Sh.read_at w1 p d (dataOf k) a1.shelf hd hk1 hw)
  clear y1 s1 a1 k0 k1
  go_wp2_with fail
  refine HR2.out.mono ?_
  rintro e w2 ⟨b2, c2, rfl, y2, s2, o2⟩
  have n0 := (o2.cell (p := ⟨w.heap.size, 0, none⟩) (Nat.lt_of_lt_of_le hg0 o1.size) (hnF _ (Nat.le_refl _))).trans m0
  have kc := (o2.cell (p := ⟨w.heap.size, 1, none⟩) (Nat.lt_of_lt_of_le hg0 o1.size) (hnF _ (Nat.le_refl _))).trans m1
  have r2 := Lib.hid ((o2.block (w.heap.size + 1) (Nat.lt_of_lt_of_le hg1 o1.size) (hnF _ (Nat.le_succ _))).trans r1.out)
  have a2 := A1'.out.stays s2 o2
  have HT := Lib.hid (At.tabs a2 hT hTB)
  have Z1 := Lib.hid (bytes_only X1.out hF1.out o2)
  have Z2 := Lib.hid (show Sh.Bytes W0 w2 (some ⟨b2, 0, none⟩) (V S d (dataOf k)) from bytes_from y2 o1.size)
  have HO2 := Lib.hid (o1.trans o2 (fun b hb => .inl hb))
  have S2 := Lib.hid (show Sh.Shelf w2 p S.doRead.doRead F from s2)
  have hsz : W0.heap.size ≤ w2.heap.size := Nat.le_trans o1.size o2.size
  have hg0' : w.heap.size < w2.heap.size := Nat.lt_of_lt_of_le hg0 hsz
  have hg1' : w.heap.size + 1 < w2.heap.size := Nat.lt_of_lt_of_le hg1 hsz
  have y1 := Lib.hid Z1.out.1
  have Y2 := Lib.hid Z2.out.1
  have hs1 := hv1.2
  have hs2 := hv2.2
  clear y2 s2 a2 A1' X1 hF1 r1 m0 m1 o1 o2 HR HR2 hnF HP A0 Q0 Q1
  generalize hX1 : V S d (sumOf k) = X1 at *
  generalize hX2 : V S d (dataOf k) = X2 at *
  have HX1 := Lib.hid hX1
  have HX2 := Lib.hid hX2
  clear hX1 hX2
  go_wp2_with fail
  refine wp_region_held_drew (S := fun (W' : World) => W'.cell? ⟨w.heap.size, 1, none⟩ = some (.int .i64 d)) (by kernel_rfl) kc (fun hHeld => ?_)
  have b2d : Below w2.heap.size w2 w2.drew := ⟨rfl, rfl, rfl, Nat.le_refl _, fun _ _ => rfl⟩
  refine wpAnyH_take (i := 0) (oi := ⟨some 47, _, _, _, _, _⟩) (v := ?_) rfl (by kernel_rfl) (by kernel_rfl) (by kernel_rfl) (fun _ _ _ h => h) (Or.inl ⟨by rfl, ?_⟩) (by assumption) ?_
  rotate_left
  · (intro w hSw; (try dsimp only at hSw); go_simp; first | done | with_reducible rfl)
  try simp only [Act.put, List.setIfInBounds_toArray, List.set_cons_zero, List.set_cons_succ]
  refine wpAnyH_take (i := 1) (oi := ⟨some 48, _, _, _, _, _⟩) (v := ?_) rfl (by kernel_rfl) (by kernel_rfl) (by kernel_rfl) (fun _ _ _ h => h) (Or.inl ⟨by rfl, ?_⟩) (by assumption) ?_
  rotate_left
  · (intro w hSw; (try dsimp only at hSw); go_simp; first | done | with_reducible rfl)
  try simp only [Act.put, List.setIfInBounds_toArray, List.set_cons_zero, List.set_cons_succ]
  refine wpAnyH_take (i := 2) (oi := ⟨some 49, _, _, _, _, _⟩) (v := ?_) rfl (by kernel_rfl) (by kernel_rfl) (by kernel_rfl) (fun _ _ _ h => h) (Or.inl ⟨by rfl, ?_⟩) (by assumption) ?_
  rotate_left
  · (intro w hSw; (try dsimp only at hSw); go_simp; first | done | with_reducible rfl)
  try simp only [Act.put, List.setIfInBounds_toArray, List.set_cons_zero, List.set_cons_succ]
  refine wpAnyH_take (i := 3) (oi := ⟨some 50, _, _, _, _, _⟩) (v := ?_) rfl (by kernel_rfl) (by kernel_rfl) (by kernel_rfl) (fun _ _ _ h => h) (Or.inl ⟨by rfl, ?_⟩) (by assumption) ?_
  rotate_left
  · (intro w hSw; (try dsimp only at hSw); go_simp; first | done | with_reducible rfl)
  try simp only [Act.put, List.setIfInBounds_toArray, List.set_cons_zero, List.set_cons_succ]
  refine wpAnyH_take (i := 4) (oi := ⟨some 51, _, _, _, _, _⟩) (v := ?_) rfl (by kernel_rfl) (by kernel_rfl) (by kernel_rfl) (fun _ _ _ h => h) (Or.inl ⟨by rfl, ?_⟩) (by assumption) ?_
  rotate_left
  · (intro w hSw; (try dsimp only at hSw); go_simp; first | done | with_reducible rfl)
  try simp only [Act.put, List.setIfInBounds_toArray, List.set_cons_zero, List.set_cons_succ]
  refine wpAnyH_take (i := 5) (oi := ⟨some 52, _, _, _, _, _⟩) (v := ?_) rfl (by kernel_rfl) (by kernel_rfl) (by kernel_rfl) (fun _ _ _ h => h) (Or.inl ⟨by rfl, ?_⟩) (by assumption) ?_
  rotate_left
  · (intro w hSw; (try dsimp only at hSw); go_simp; first | done | with_reducible rfl)
  try simp only [Act.put, List.setIfInBounds_toArray, List.set_cons_zero, List.set_cons_succ]
  refine wpAnyH_take (i := 6) (oi := ⟨some 53, _, _, _, _, _⟩) (v := ?_) rfl (by kernel_rfl) (by kernel_rfl) (by kernel_rfl) (fun _ _ _ h => h) (Or.inl ⟨by rfl, ?_⟩) (by assumption) ?_
  rotate_left
  · (intro w hSw; (try dsimp only at hSw); go_simp; first | done | with_reducible rfl)
  try simp only [Act.put, List.setIfInBounds_toArray, List.set_cons_zero, List.set_cons_succ]
  refine wpAnyH_take (i := 8) (oi := ⟨some 55, _, _, _, _, _⟩) (v := ?_) rfl (by kernel_rfl) (by kernel_rfl) (by kernel_rfl) (fun _ _ _ h => h) (Or.inl ⟨by rfl, ?_⟩) (by assumption) ?_
  rotate_left
  · (intro w hSw; (try dsimp only at hSw); go_simp; first | done | with_reducible rfl)
  try simp only [Act.put, List.setIfInBounds_toArray, List.set_cons_zero, List.set_cons_succ]
  refine wpAnyH_take (i := 9) (oi := ⟨some 56, _, _, _, _, _⟩) (v := ?_) rfl (by kernel_rfl) (by kernel_rfl) (by kernel_rfl) (fun _ _ _ h => h) (Or.inl ⟨by rfl, ?_⟩) (by assumption) ?_
  rotate_left
  · (intro w hSw; (try dsimp only at hSw); go_simp; first | done | with_reducible rfl)
  try simp only [Act.put, List.setIfInBounds_toArray, List.set_cons_zero, List.set_cons_succ]
  refine wpAnyH_take (i := 10) (oi := ⟨some 57, _, _, _, _, _⟩) (v := ?_) rfl (by kernel_rfl) (by kernel_rfl) (by kernel_rfl) (fun _ _ _ h => h) (Or.inl ⟨by rfl, ?_⟩) (by assumption) ?_
  rotate_left
  · (intro w hSw; (try dsimp only at hSw); go_simp; first | done | with_reducible rfl)
  try simp only [Act.put, List.setIfInBounds_toArray, List.set_cons_zero, List.set_cons_succ]
  refine wpAnyH_take (i := 11) (oi := ⟨some 58, _, _, _, _, _⟩) (v := ?_) rfl (by kernel_rfl) (by kernel_rfl) (by kernel_rfl) (fun _ _ _ h => h) (Or.inl ⟨by rfl, ?_⟩) (by assumption) ?_
  rotate_left
  · (intro w hSw; (try dsimp only at hSw); go_simp; first | done | with_reducible rfl)
  try simp only [Act.put, List.setIfInBounds_toArray, List.set_cons_zero, List.set_cons_succ]
  refine wpAnyH_ready (rs := [7]) (by kernel_rfl) (by simp) ?_
  refine AllReadyH.cons (o := ⟨some 54, _, _, _, _, _⟩) rfl (fun K hK => ?_) AllReadyH.nil
  go_simp
  refine (pairOf_any (some ⟨b1, 0, none⟩) c1 k X1 w2.drew (by omega) hs1 y1.out).mono ?_
  rintro e w3 ⟨rfl, b3⟩
  refine hK.out _ _ ((b3.cell (p := ⟨w.heap.size, 1, none⟩) hg0').trans kc) (fun hHeld => ?_)
  clear hK K
  try simp only [Act.put, List.setIfInBounds_toArray, List.set_cons_zero, List.set_cons_succ]
  have b3' : Below w2.heap.size w2 w3 := ⟨b3.os, b3.tape, b3.output, b3.size, b3.block⟩
  clear b3
  have hg3 : w.heap.size < w3.heap.size := Nat.lt_of_lt_of_le hg0' b3'.size
  have kc3 : w3.cell? ⟨w.heap.size, 1, none⟩ = some (.int .i64 d) := hHeld
  have y2 := Lib.hid (((Y2.out.below b3').more b3'.size))
  have hT3 : Tabs w3 := HT.out.below HT.out.size b3'
  have r3 := Lib.hid ((b3'.block (w.heap.size + 1) hg1').trans r2.out)
  have B3 := Lib.hid b3'
  clear b3'
  refine wpAnyH_ready (rs := [12]) (by kernel_rfl) (by simp) ?_
  refine AllReadyH.cons (o := ⟨some 59, _, _, _, _, _⟩) rfl (fun K hK => ?_) AllReadyH.nil
  go_simp
  refine (sum_any d k (some ⟨b2, 0, none⟩) 128 c2 X2 w3 hs2 y2.out (by decide) hT3).mono ?_
  rintro e w4 ⟨rfl, b4⟩
  refine hK.out _ _ ((b4.cell (p := ⟨w.heap.size, 1, none⟩) hg3).trans kc3) (fun hHeld => ?_)
  clear hK K
  try simp only [Act.put, List.setIfInBounds_toArray, List.set_cons_zero, List.set_cons_succ]
  have kc4 : w4.cell? ⟨w.heap.size, 1, none⟩ = some (.int .i64 d) := hHeld
  have hg1'' : w.heap.size + 1 < w3.heap.size := Nat.lt_of_lt_of_le hg1' B3.out.size
  have r4 := (b4.block (w.heap.size + 1) hg1'').trans r3.out
  have kc5 : (w4.setRow (w.heap.size + 1) (stV k (some ⟨b1, 0, none⟩) c1 (some ⟨b2, 0, none⟩) c2 (pr X1 k 0) (pr X1 k 1) (sumL d k X2))).cell? ⟨w.heap.size, 1, none⟩ = some (.int .i64 d) := (cell_setRow_other w4 _ _ ⟨w.heap.size, 1, none⟩ (show w.heap.size ≠ w.heap.size + 1 by omega)).trans kc4
  have B4 := Lib.hid (B3.out.trans (b4.mono B3.out.size))
  clear b4
  refine wpAnyH_take (i := 13) (oi := ⟨some 60, _, _, _, _, _⟩) (v := ?_) rfl (by kernel_rfl) (by kernel_rfl) (by kernel_rfl) (fun _ _ _ h => h) (Or.inl ⟨by rfl, ?_⟩) (by assumption) ?_
  rotate_left
  · (intro w hSw; (try dsimp only at hSw); go_simp; first | done | with_reducible rfl)
  try simp only [Act.put, List.setIfInBounds_toArray, List.set_cons_zero, List.set_cons_succ]
  refine wpAnyH_ready (rs := [14]) (by kernel_rfl) (by simp) ?_
  refine AllReadyH.cons (o := ⟨none, _, _, _, _, _⟩) rfl (fun K hK => ?_) AllReadyH.nil
  rw [if_pos (by rfl)]
  refine wp_store_row 110 _ _ rfl (w.heap.size + 1) (stV k (some ⟨b1, 0, none⟩) c1 (some ⟨b2, 0, none⟩) c2 (pr X1 k 0) (pr X1 k 1) (sumL d k X2)) rfl rfl 110 _ r4 info_state rfl (stV_one _ _ _ _ _ _ _ _) ?_
  refine hK.out _ _ (kc5) (fun hHeld => ?_)
  clear hK K
  refine wpAnyH_take (i := 15) (oi := ⟨some 5, _, _, _, _, _⟩) (v := ?_) rfl (by kernel_rfl) (by kernel_rfl) (by kernel_rfl) (fun _ _ _ h => h) (Or.inl ⟨by rfl, ?_⟩) (by assumption) ?_
  rotate_left
  · (intro w hSw; (try dsimp only at hSw); go_simp; first | done | with_reducible rfl)
  try simp only [Act.put, List.setIfInBounds_toArray, List.set_cons_zero, List.set_cons_succ]
  refine wpAnyH_done (by kernel_rfl) ?_ _
  have O5 := only_setRow w4 (w.heap.size + 1) (stV k (some ⟨b1, 0, none⟩) c1 (some ⟨b2, 0, none⟩) c2 (pr X1 k 0) (pr X1 k 1) (sumL d k X2))
  have hn1 : ∀ a, some (⟨b1, 0, none⟩ : Addr) = some a → ¬ (a.block = w.heap.size + 1) := fun a ha e => by have := (Z1.out.2 a ha).1; omega
  have hn2 : ∀ a, some (⟨b2, 0, none⟩ : Addr) = some a → ¬ (a.block = w.heap.size + 1) := fun a ha e => by have := (Z2.out.2 a ha).1; omega
  have E1 := Lib.hid (bytes_from (w0 := w) (bytes_only (bytes_on Z1.out B4.out) hn1 O5) (by omega))
  have E2 := Lib.hid (bytes_from (w0 := w) (bytes_only (bytes_on Z2.out B4.out) hn2 O5) (by omega))
  have O24 := (only_below (fun b => b = w.heap.size + 1) B4.out).trans O5 (fun b hb => .inl hb)
  have E3 := Lib.hid (S2.out.only O24 (fun b hb e => by have := HLT.out b hb; omega))
  have E4 := Lib.hid ((((only_below F HO.out).trans HO2.out (fun b hb => .inl hb)).trans (only_below F B4.out) (fun b hb => .inl hb)).trans O5 (fun b e => .inr (by omega)))
  have E5 := Lib.hid (load_state (setRow_heap w4 _ _ (stV k (some ⟨b1, 0, none⟩) c1 (some ⟨b2, 0, none⟩) c2 (pr X1 k 0) (pr X1 k 1) (sumL d k X2)) _ _ r4) info_state)
  clear O5 hn1 hn2 O24 r4 kc4 kc5 hHeld
  go_wp2
  refine bodyPost_ret (results_cell2 (g := w.heap.size + 1) Tryd.results61 rfl E5.out rfl) rfl ?_
  unfold LookIs
  rw [HX1.out, HX2.out]
  exact ⟨b1, c1, b2, c2, rfl, E1.out, E2.out, E3.out, E4.out⟩
end
end Go.Proofs.YtjdjpafnakhpcaaDoor.U
