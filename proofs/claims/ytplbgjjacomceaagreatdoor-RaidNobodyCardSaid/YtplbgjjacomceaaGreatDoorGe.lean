/-
  raid: reads and writes as relations.
  Conditions: each theorem's own.
-/
import Derived.Test.YtplbgjjacomceaaGreatDoorGd
import Derived.Maps.OwnSet
import Derived.Test.YtplbgjjacomceaaGreatDoorGc
namespace Go.Proofs.YtplbgjjacomceaaGreatDoor.U
open Go.RowKit Go.Maps

/-- What a read of a block tells. -/
def rdY (S : Sh.Sf) (d k : Nat) : Int := if Sh.why S d = 0 then (if goodAt S d k = true then 0 else 5) else Sh.why S d
/-- What a write of a block leaves: what it told, which block is open, the shelf. -/
def DW (S : Sh.Sf) (d : Nat) (o : Int) (k : Nat) (b : Sh.Bs) (y o' : Int) (S' : Sh.Sf) : Prop :=
  (Sh.why S d ≠ 0 ∧ y = Sh.why S d ∧ o' = o ∧ S' = S) ∨
  (Sh.why S d = 0 ∧ ∃ b' R, Sh.Sec b' ∧ R = Ready S d o k b b' ∧
    (Sh.why (flIf (Looked S d) d o k) d = 0 ∧ goodAt S d k = false ∧ sumL d k (V S d (dataOf k)) = sumL d k b → ¬ (sumL d k b' = pr (V S d (sumOf k)) k 0 ∨ sumL d k b' = pr (V S d (sumOf k)) k 1 ∨ sumL d k b' = sumL d k (V S d (dataOf k)))) ∧
    y = Sh.why R d ∧ (y = 0 → o' = (k : Int)) ∧ (y ≠ 0 → o' = -1 ∨ o' = o) ∧ S' = Wr R d (dataOf k) b)
section
variable {S S' : Sh.Sf} {d k : Nat} {o y o' : Int} {b : Sh.Bs}
theorem ready_length (S : Sh.Sf) (d : Nat) (o : Int) (k : Nat) (b b' : Sh.Bs) : (Ready S d o k b b').disks.length = S.disks.length := by
  unfold Ready ReadyQ
  rw [fl_length, wr_length, spIf_length, flIf_length, looked_disks]
theorem ready_sectors (S : Sh.Sf) (d : Nat) (o : Int) (k : Nat) (b b' : Sh.Bs) : (Ready S d o k b b').sectors = S.sectors := by
  unfold Ready ReadyQ
  rw [fl_sectors, wr_sectors, spIf_sectors, flIf_sectors, looked_sectors]
theorem DW.len (h : DW S d o k b y o' S') : S'.disks.length = S.disks.length := by
  rcases h with ⟨_, _, _, rfl⟩ | ⟨_, b', R, _, rfl, _, _, _, _, rfl⟩
  · rfl
  · rw [wr_length, ready_length]
theorem DW.sectors (h : DW S d o k b y o' S') : S'.sectors = S.sectors := by
  rcases h with ⟨_, _, _, rfl⟩ | ⟨_, b', R, _, rfl, _, _, _, _, rfl⟩
  · rfl
  · rw [wr_sectors, ready_sectors]
theorem DW.waits {m : Nat} (h : DW S d o k b y o' S') (hL : ∀ x ∈ S.disks, x.waits.length ≤ m) : ∀ x ∈ S'.disks, x.waits.length ≤ m + 3 := by
  rcases h with ⟨_, _, _, rfl⟩ | ⟨_, b', R, _, rfl, _, _, _, _, rfl⟩
  · intro x hx; have := hL x hx; omega
  · refine wr_lens (m := m + 2) (fl_lens (wr_lens (m := m + 1) ?_))
    have hlk : ∀ x ∈ (Looked S d).disks, x.waits.length ≤ m := by rw [looked_disks]; exact hL
    have hfl : ∀ x ∈ (flIf (Looked S d) d o k).disks, x.waits.length ≤ m := by
      unfold flIf
      split
      · exact fl_lens hlk
      · exact hlk
    generalize flIf (Looked S d) d o k = S1 at *
    unfold spIf
    split
    · exact fl_lens (wr_lens hfl)
    · intro x hx; have := hfl x hx; omega
theorem DW.alike (h : DW S d o k b y o' S') : Alike d S S' := by
  rcases h with ⟨_, _, _, rfl⟩ | ⟨_, b', R, _, rfl, _, _, _, _, rfl⟩
  · exact Alike.refl d _
  · exact (alike_ready S d o k _ _ _ _ b').trans (alike_wr _ d _ b)
theorem rdY_looked (S : Sh.Sf) (c d k : Nat) : rdY (Looked S c) d k = rdY S d k := by
  unfold rdY goodAt
  rw [looked_why, looked_V, looked_V]
end
section
variable {B : Nat} {W w : World} {a p d : Nat} {o : Int} {S : Sh.Sf} {F : Nat → Prop}
theorem dwrite (h : Dv B W w a p d o S F) (hT : Tabs W) (hTB : max 1 2 + 1 ≤ B) (k : Nat) (hk : k < blk S.sectors) (hd : d < S.disks.length) (b : Sh.Bs) {A : Option Addr} {c : Nat} {m : Nat}
    (hb : Sh.Sec b) (hA : Sh.Beside w (With F a) A b) (hL : ∀ x ∈ S.disks, x.waits.length ≤ m) (hm : m ≤ 1000000000) :
    Calls Tryz.prog 33 #[.pointer (some ⟨a, 0, none⟩), .int .i64 k, .slice A 128 c] w fun e w' => ∃ y : Int, e = .returned (.int .i64 y) ∧ ∃ o' S', DW S d o k b y o' S' ∧ Goes B W w w' a p d o' S' F := by
  by_cases hw : Sh.why S d = 0
  · refine (write_done h hT hTB k hk hd hw b hb hA (fun x hx => by have := hL x hx; omega)).mono ?_
    rintro e w' ⟨b', o', hs, hsp, rfl, h0, h1, hG⟩
    exact ⟨_, rfl, o', _, .inr ⟨hw, b', _, hs, rfl, hsp, rfl, h0, h1, rfl⟩, hG⟩
  · refine (write_why h k hk hd hw A c).mono ?_
    rintro e w' ⟨rfl, hb⟩
    exact ⟨_, rfl, o, S, .inl ⟨hw, rfl, rfl, rfl⟩, F, h.grown hb, moves_below hb⟩
/-- What a read hands out. -/
def ReadO (y : Int) (X : Sh.Bs) (w : World) (e : Ending) (w' : World) : Prop :=
  ∃ A n c, e = .returned (.tuple #[.slice A n c, .int .i64 y]) ∧ ((y = 0 ∧ n = 128 ∧ Sh.Bytes w w' A X) ∨ (y ≠ 0 ∧ A = none ∧ n = 0 ∧ c = 0))
theorem ReadO.from {y : Int} {X : Sh.Bs} {w0 w w' : World} {e : Ending} (h : ReadO y X w e w') (hs : w0.heap.size ≤ w.heap.size) : ReadO y X w0 e w' := by
  obtain ⟨A, n, c, rfl, h⟩ := h
  exact ⟨A, n, c, rfl, h.imp (fun ⟨h1, h2, h3⟩ => ⟨h1, h2, h3.1, fun a ha => ⟨Nat.le_trans hs (h3.2 a ha).1, (h3.2 a ha).2⟩⟩) id⟩
theorem dread (h : Dv B W w a p d o S F) (hT : Tabs W) (hTB : max 1 2 + 1 ≤ B) (k : Nat) (hk : k < blk S.sectors) (hd : d < S.disks.length) :
    Calls Tryz.prog 102 #[.pointer (some ⟨a, 0, none⟩), .int .i64 k] w fun e w' => ReadO (rdY S d k) (V S d (dataOf k)) w e w' ∧ Dv B W w' a p d o (Looked S d) F ∧ Sh.Only F w w' := by
  unfold rdY
  by_cases hw : Sh.why S d = 0
  · rw [if_pos hw]
    cases hg : goodAt S d k
    · refine (read_done h hT hTB k hk hd hw false hg).mono ?_
      rintro e w' ⟨h1, h2, h3⟩
      refine ⟨?_, h2, h3⟩
      rcases h1 with ⟨h0, _⟩ | ⟨_, rfl⟩
      · cases h0
      · exact ⟨none, 0, 0, rfl, .inr ⟨by decide, rfl, rfl, rfl⟩⟩
    · refine (read_done h hT hTB k hk hd hw true hg).mono ?_
      rintro e w' ⟨h1, h2, h3⟩
      refine ⟨?_, h2, h3⟩
      rcases h1 with ⟨_, A, c, rfl, hb⟩ | ⟨h0, _⟩
      · exact ⟨A, 128, c, rfl, .inl ⟨rfl, rfl, hb⟩⟩
      · cases h0
  · rw [if_neg hw, looked_off' hw]
    refine (read_why h k hk hd hw).mono ?_
    rintro e w' ⟨rfl, hb⟩
    exact ⟨⟨none, 0, 0, rfl, .inr ⟨hw, rfl, rfl, rfl⟩⟩, h.grown hb, below_only hb⟩
end
/-! ### a log's slot -/
/-- What a Put leaves. -/
def PutR (S : Sh.Sf) (d : Nat) (o : Int) (k : Nat) (l hd : Sh.Bs) (z o' : Int) (S' : Sh.Sf) : Prop :=
  ∃ y1 o1 S1, DW S d o (3 + 2 * k) l y1 o1 S1 ∧ ((y1 ≠ 0 ∧ z = y1 ∧ o' = o1 ∧ S' = S1) ∨ (y1 = 0 ∧ DW S1 d o1 (2 + 2 * k) hd z o' S'))
section
variable {S S' : Sh.Sf} {d k : Nat} {o z o' : Int} {l hd : Sh.Bs}
theorem PutR.len (h : PutR S d o k l hd z o' S') : S'.disks.length = S.disks.length := by
  obtain ⟨y1, o1, S1, h1, ⟨_, _, _, rfl⟩ | ⟨_, h2⟩⟩ := h
  · exact h1.len
  · exact h2.len.trans h1.len
theorem PutR.sectors (h : PutR S d o k l hd z o' S') : S'.sectors = S.sectors := by
  obtain ⟨y1, o1, S1, h1, ⟨_, _, _, rfl⟩ | ⟨_, h2⟩⟩ := h
  · exact h1.sectors
  · exact h2.sectors.trans h1.sectors
theorem PutR.alike (h : PutR S d o k l hd z o' S') : Alike d S S' := by
  obtain ⟨y1, o1, S1, h1, ⟨_, _, _, rfl⟩ | ⟨_, h2⟩⟩ := h
  · exact h1.alike
  · exact h1.alike.trans h2.alike
theorem PutR.waits {m : Nat} (h : PutR S d o k l hd z o' S') (hL : ∀ x ∈ S.disks, x.waits.length ≤ m) : ∀ x ∈ S'.disks, x.waits.length ≤ m + 6 := by
  obtain ⟨y1, o1, S1, h1, ⟨_, _, _, rfl⟩ | ⟨_, h2⟩⟩ := h
  · intro x hx; have := h1.waits hL x hx; omega
  · exact h2.waits (h1.waits hL)
end
end Go.Proofs.YtplbgjjacomceaaGreatDoor.U
namespace Go.Proofs.YtplbgjjacomceaaGreatDoor.U
open Go.RowKit Go.Maps

section
variable {B : Nat} {W w w' : World} {g a p d n : Nat} {o : Int} {S S' : Sh.Sf} {F : Nat → Prop}
set_option maxRecDepth 20000 in
set_option maxHeartbeats 4000000 in
theorem put_any2 (h : Lg B W w g a p d o S F n) (hT : Tabs W) (hTB : max 1 2 + 1 ≤ B) (hFl : Flds W) (hFB : 4 + 1 ≤ B) (hd : d < S.disks.length) (k : Nat) (hk : k < n) (hn : n ≤ 8) (hb : 2 + 2 * n ≤ blk S.sectors)
    (x t : Nat) (hx : x < 1024) (ht : t < 15) (A : Option Addr) (c : Nat) (l : List Nat) (hl : Sh.Sec l) (hA : Sh.Beside w (With F a) A l) {m : Nat} (hL : ∀ k ∈ S.disks, k.waits.length ≤ m) (hm : m ≤ 900000000) :
    Calls Tryz.prog 146 #[.pointer (some ⟨g, 0, none⟩), .int .i64 k, .agg #[.int .i64 x, .int .i64 t, .slice A 128 c]] w fun e w' => ∃ z : Int, e = .returned (.int .i64 z) ∧ ∃ o' S', PutR S d o k l (headL (numF x t (Nums.sum 0 l))) z o' S' ∧ LGoes B W w w' g a p d o' S' F n := by
  have hbW := h.dv.on.bel
  have HSZ := Lib.hid h.dv.on.size
  have hb0 := (show Below w.heap.size w (w.alloc (.cells #[.int .i64 x, .int .i64 t, .slice A 128 c] 161)) from (Below.refl _ _).alloc (Nat.le_refl _) _)
  have hTw : Tabs w := hT.below hTB hbW
  have hFw : Flds w := hFl.below hFB hbW
  have hR := Lib.hid (refusal_yes (h.log.same (hb0.block g h.log.lt)) k hk)
  have hE := Lib.hid (encode_ok x t hx ht A c l _ hl.2 ((hA.1.below hb0).more hb0.size) (hTw.below hTw.size hb0) (hFw.below hFw.size hb0))
  have HHS := Lib.hid (headL_small (numF x t (Nums.sum 0 l)))
  have HHL := Lib.hid (headL_length (numF x t (Nums.sum 0 l)))
  have q0 := heap_alloc_new w (.cells #[.int .i64 x, .int .i64 t, .slice A 128 c] 161)
  have hz0 : w.heap.size < (w.alloc (.cells #[.int .i64 x, .int .i64 t, .slice A 128 c] 161)).heap.size := by simp
  have HNB := Lib.hid (show ¬ With F a w.heap.size from fun e => Nat.lt_irrefl _ (h.lt _ e))
  have hk8 : k ≤ 1000 := by omega
  generalize headL (numF x t (Nums.sum 0 l)) = hL2 at *
  have HD0 := Lib.hid (h.grown hb0)
  have HB0 := Lib.hid hb0
  obtain ⟨k0, k1, k2, _⟩ := cells3_of q0
  clear hbW hTw hFw hb0
  go_enter Tryz.func146, Tryz.ntmps146
  go_wp2_with fail
  generalize w.alloc (.cells #[.int .i64 x, .int .i64 t, .slice A 128 c] 161) = W0 at *
  refine hR.out.mono ?_
  rintro e w' ⟨rfl, rfl⟩
  go_wp2_with fail
  refine hE.out.mono ?_
  rintro e w1 ⟨v, rfl, gh, rfl, hgh, hrow, b1⟩
  have HD := Lib.hid ((HD0.out.grown b1).grown (w' := w1.drew) ⟨rfl, rfl, rfl, Nat.le_refl _, fun _ _ => rfl⟩)
  have HB1 := Lib.hid (HB0.out.trans (b1.mono (Nat.le_of_lt hz0)))
  have Q1 := Lib.hid ((b1.block w.heap.size hz0).trans q0)
  have HZ1 := Lib.hid (show w.heap.size < w1.drew.heap.size from Nat.lt_of_lt_of_le hz0 b1.size)
  have hA1 : Sh.Beside w1.drew (With F a) A l := ⟨(hA.1.below HB1.out).more HB1.out.size, hA.2⟩
  have HW := Lib.hid (dwrite HD.out.dv hT hTB (3 + 2 * k) (by omega) hd l (c := c) hl hA1 hL (by omega))
  have HROW := Lib.hid (show w1.drew.heap[gh]? = some (.cells (bts hL2).toArray 5 (0, 0)) from hrow)
  have HGH := Lib.hid (show w.heap.size ≤ gh from Nat.le_trans (Nat.le_of_lt hz0) hgh)
  have HLT := Lib.hid h.lt
  clear k0 k1 k2 q0 b1 hz0 hgh hrow hA1 hR hE HD0
  have j0 := fun (W' : World) (h : LogIs W' g a n ∧ W'.heap[w.heap.size]? = some (.cells #[.int .i64 x, .int .i64 t, .slice A 128 c] 161 (0, 0))) => h.1.c0
  have j2 := fun (W' : World) (h : LogIs W' g a n ∧ W'.heap[w.heap.size]? = some (.cells #[.int .i64 x, .int .i64 t, .slice A 128 c] 161 (0, 0))) => (cells3_of h.2).2.2.1
  go_wp2_with fail
  refine wp_region_held_drew (S := fun (W' : World) => LogIs W' g a n ∧ W'.heap[w.heap.size]? = some (.cells #[.int .i64 x, .int .i64 t, .slice A 128 c] 161 (0, 0))) (by kernel_rfl) ⟨HD.out.log, Q1.out⟩ (fun hHeld => ?_)
  refine wpAnyH_take (i := 0) (oi := ⟨some 25, _, _, _, _, _⟩) (v := ?_) rfl (by kernel_rfl) (by kernel_rfl) (by kernel_rfl) (fun _ _ _ h => h) (Or.inl ⟨by rfl, ?_⟩) (by assumption) ?_
  rotate_left
  · (intro w hSw; (try dsimp only at hSw); go_simp; first | done | with_reducible rfl)
  try simp only [Act.put, List.setIfInBounds_toArray, List.set_cons_zero, List.set_cons_succ]
  refine wpAnyH_take (i := 1) (oi := ⟨some 26, _, _, _, _, _⟩) (v := ?_) rfl (by kernel_rfl) (by kernel_rfl) (by kernel_rfl) (fun _ _ _ h => h) (Or.inl ⟨by rfl, ?_⟩) (by assumption) ?_
  rotate_left
  · (intro w hSw; (try dsimp only at hSw); go_simp; first | done | with_reducible rfl)
  try simp only [Act.put, List.setIfInBounds_toArray, List.set_cons_zero, List.set_cons_succ]
  refine wpAnyH_take (i := 2) (oi := ⟨some 27, _, _, _, _, _⟩) (v := ?_) rfl (by kernel_rfl) (by kernel_rfl) (by kernel_rfl) (fun _ _ _ h => h) (Or.inl ⟨by rfl, ?_⟩) (by assumption) ?_
  rotate_left
  · (intro w hSw; (try dsimp only at hSw); go_simp; first | done | with_reducible rfl)
  try simp only [Act.put, List.setIfInBounds_toArray, List.set_cons_zero, List.set_cons_succ]
  refine wpAnyH_take (i := 3) (oi := ⟨some 28, _, _, _, _, _⟩) (v := ?_) rfl (by kernel_rfl) (by kernel_rfl) (by kernel_rfl) (fun _ _ _ h => h) (Or.inl ⟨by rfl, ?_⟩) (by assumption) ?_
  rotate_left
  · (intro w hSw; (try dsimp only at hSw); go_simp; first | done | with_reducible rfl)
  try simp only [Act.put, List.setIfInBounds_toArray, List.set_cons_zero, List.set_cons_succ]
  refine wpAnyH_take (i := 4) (oi := ⟨some 29, _, _, _, _, _⟩) (v := ?_) rfl (by kernel_rfl) (by kernel_rfl) (by kernel_rfl) (fun _ _ _ h => h) (Or.inl ⟨by rfl, ?_⟩) (by assumption) ?_
  rotate_left
  · (intro w hSw; (try dsimp only at hSw); go_simp; first | done | with_reducible rfl)
  try simp only [Act.put, List.setIfInBounds_toArray, List.set_cons_zero, List.set_cons_succ]
  refine wpAnyH_take (i := 6) (oi := ⟨some 31, _, _, _, _, _⟩) (v := ?_) rfl (by kernel_rfl) (by kernel_rfl) (by kernel_rfl) (fun _ _ _ h => h) (Or.inl ⟨by rfl, ?_⟩) (by assumption) ?_
  rotate_left
  · (intro w hSw; (try dsimp only at hSw); go_simp; first | done | with_reducible rfl)
  try simp only [Act.put, List.setIfInBounds_toArray, List.set_cons_zero, List.set_cons_succ]
  refine wpAnyH_take (i := 7) (oi := ⟨some 32, _, _, _, _, _⟩) (v := ?_) rfl (by kernel_rfl) (by kernel_rfl) (by kernel_rfl) (fun _ _ _ h => h) (Or.inl ⟨by rfl, ?_⟩) (by assumption) ?_
  rotate_left
  · (intro w hSw; (try dsimp only at hSw); go_simp; first | done | with_reducible rfl)
  try simp only [Act.put, List.setIfInBounds_toArray, List.set_cons_zero, List.set_cons_succ]
  refine wpAnyH_ready (rs := [5]) (by kernel_rfl) (by simp) ?_
  refine AllReadyH.cons (o := ⟨some 30, _, _, _, _, _⟩) rfl (fun K hK => ?_) AllReadyH.nil
  go_simp
  refine (partAt_any k hk8 _).mono ?_
  rintro e w3 ⟨rfl, rfl⟩
  refine hK.out _ _ (hHeld) (fun hHeld => ?_)
  clear hK K
  try simp only [Act.put, List.setIfInBounds_toArray, List.set_cons_zero, List.set_cons_succ]
  refine wpAnyH_ready (rs := [8]) (by kernel_rfl) (by simp) ?_
  refine AllReadyH.cons (o := ⟨some 33, _, _, _, _, _⟩) rfl (fun K hK => ?_) AllReadyH.nil
  go_simp
  refine (HW.out).mono ?_
  rintro e w3 ⟨y, rfl, o1, S1, hW1, hG1⟩
  refine hK.out _ _ (⟨(HD.out.goes hG1).choose_spec.1.log, (goes_only hG1 w.heap.size HZ1.out HNB.out).trans Q1.out⟩) (fun hHeld => ?_)
  clear hK K
  try simp only [Act.put, List.setIfInBounds_toArray, List.set_cons_zero, List.set_cons_succ]
  refine wpAnyH_take (i := 9) (oi := ⟨some 10, _, _, _, _, _⟩) (v := ?_) rfl (by kernel_rfl) (by kernel_rfl) (by kernel_rfl) (fun _ _ _ h => h) (Or.inl ⟨by rfl, ?_⟩) (by assumption) ?_
  rotate_left
  · (intro w hSw; (try dsimp only at hSw); go_simp; first | done | with_reducible rfl)
  try simp only [Act.put, List.setIfInBounds_toArray, List.set_cons_zero, List.set_cons_succ]
  refine wpAnyH_done (by kernel_rfl) ?_ _
  obtain ⟨F1, L1, M1⟩ := HD.out.goes hG1
  have M0 := Lib.hid ((moves_below (F := F) (a := a) HB1.out).trans ((moves_drew (F := F) (a := a) (w := w1)).trans M1))
  have hnG : ¬ With F a gh := fun e => by have := HLT.out gh e; have := HGH.out; omega
  have hgl : gh < w1.drew.heap.size := (Array.getElem?_eq_some_iff.1 HROW.out).1
  have hrow3 := (M1.1.block gh hgl hnG).trans HROW.out
  have hnG1 : ¬ With F1 a gh := fun e => (M1.2 gh e).elim hnG (fun e => Nat.lt_irrefl _ (Nat.lt_of_lt_of_le hgl e))
  have hsz3 := M1.1.size
  clear hG1 HW HD M1
  by_cases hy : y = 0
  · subst hy
    have hd3 : Below w3.heap.size w3 w3.drew := ⟨rfl, rfl, rfl, Nat.le_refl _, fun _ _ => rfl⟩
    have HD2 := Lib.hid (L1.grown hd3)
    have hbr : Sh.Beside w3.drew (With F1 a) (some ⟨gh, 0, none⟩) hL2 := by
      refine ⟨⟨(bts_length hL2).trans HHL.out, fun _ => ⟨_, rfl, ?_, fun j u hu => ?_⟩⟩, fun x hx => by injection hx with hx; rw [← hx]; exact hnG1⟩
      · show gh < w3.heap.size
        exact (Array.getElem?_eq_some_iff.1 hrow3).1
      · have e : (⟨gh, 0, none⟩ : Addr).add j = ⟨gh, j, none⟩ := by unfold Addr.add; split <;> simp_all
        rw [e]
        show w3.cell? ⟨gh, j, none⟩ = some u
        rw [cell_of_row _ _ j _ _ _ hrow3, List.getElem?_toArray]
        exact hu
    have HW2 := Lib.hid (dwrite HD2.out.dv hT hTB (2 + 2 * k) (by rw [hW1.sectors]; omega) (by rw [hW1.len]; exact hd) hL2 (c := 128) ⟨HHL.out, HHS.out⟩ hbr (hW1.waits hL) (by omega))
    have i0 := fun (W' : World) (h : LogIs W' g a n) => h.c0
    clear hbr hrow3 hnG1 hnG hgl j0 j2 L1
    go_wp2_with fail
    refine wp_region_held_drew (S := fun (W' : World) => LogIs W' g a n) (by kernel_rfl) HD2.out.log (fun hHeld => ?_)
    refine wpAnyH_take (i := 0) (oi := ⟨some 37, _, _, _, _, _⟩) (v := ?_) rfl (by kernel_rfl) (by kernel_rfl) (by kernel_rfl) (fun _ _ _ h => h) (Or.inl ⟨by rfl, ?_⟩) (by assumption) ?_
    rotate_left
    · (intro w hSw; (try dsimp only at hSw); go_simp; first | done | with_reducible rfl)
    try simp only [Act.put, List.setIfInBounds_toArray, List.set_cons_zero, List.set_cons_succ]
    refine wpAnyH_take (i := 1) (oi := ⟨some 38, _, _, _, _, _⟩) (v := ?_) rfl (by kernel_rfl) (by kernel_rfl) (by kernel_rfl) (fun _ _ _ h => h) (Or.inl ⟨by rfl, ?_⟩) (by assumption) ?_
    rotate_left
    · (intro w hSw; (try dsimp only at hSw); go_simp; first | done | with_reducible rfl)
    try simp only [Act.put, List.setIfInBounds_toArray, List.set_cons_zero, List.set_cons_succ]
    refine wpAnyH_take (i := 2) (oi := ⟨some 39, _, _, _, _, _⟩) (v := ?_) rfl (by kernel_rfl) (by kernel_rfl) (by kernel_rfl) (fun _ _ _ h => h) (Or.inl ⟨by rfl, ?_⟩) (by assumption) ?_
    rotate_left
    · (intro w hSw; (try dsimp only at hSw); go_simp; first | done | with_reducible rfl)
    try simp only [Act.put, List.setIfInBounds_toArray, List.set_cons_zero, List.set_cons_succ]
    refine wpAnyH_take (i := 3) (oi := ⟨some 40, _, _, _, _, _⟩) (v := ?_) rfl (by kernel_rfl) (by kernel_rfl) (by kernel_rfl) (fun _ _ _ h => h) (Or.inl ⟨by rfl, ?_⟩) (by assumption) ?_
    rotate_left
    · (intro w hSw; (try dsimp only at hSw); go_simp; first | done | with_reducible rfl)
    try simp only [Act.put, List.setIfInBounds_toArray, List.set_cons_zero, List.set_cons_succ]
    refine wpAnyH_take (i := 4) (oi := ⟨some 41, _, _, _, _, _⟩) (v := ?_) rfl (by kernel_rfl) (by kernel_rfl) (by kernel_rfl) (fun _ _ _ h => h) (Or.inl ⟨by rfl, ?_⟩) (by assumption) ?_
    rotate_left
    · (intro w hSw; (try dsimp only at hSw); go_simp; first | done | with_reducible rfl)
    try simp only [Act.put, List.setIfInBounds_toArray, List.set_cons_zero, List.set_cons_succ]
    refine wpAnyH_take (i := 6) (oi := ⟨some 43, _, _, _, _, _⟩) (v := ?_) rfl (by kernel_rfl) (by kernel_rfl) (by kernel_rfl) (fun _ _ _ h => h) (Or.inl ⟨by rfl, ?_⟩) (by assumption) ?_
    rotate_left
    · (intro w hSw; (try dsimp only at hSw); go_simp; first | done | with_reducible rfl)
    try simp only [Act.put, List.setIfInBounds_toArray, List.set_cons_zero, List.set_cons_succ]
    refine wpAnyH_ready (rs := [5]) (by kernel_rfl) (by simp) ?_
    refine AllReadyH.cons (o := ⟨some 42, _, _, _, _, _⟩) rfl (fun K hK => ?_) AllReadyH.nil
    go_simp
    refine (headAt_any k hk8 _).mono ?_
    rintro e w5 ⟨rfl, rfl⟩
    refine hK.out _ _ (hHeld) (fun hHeld => ?_)
    clear hK K
    try simp only [Act.put, List.setIfInBounds_toArray, List.set_cons_zero, List.set_cons_succ]
    refine wpAnyH_ready (rs := [7]) (by kernel_rfl) (by simp) ?_
    refine AllReadyH.cons (o := ⟨some 44, _, _, _, _, _⟩) rfl (fun K hK => ?_) AllReadyH.nil
    go_simp
    refine (HW2.out).mono ?_
    rintro e w5 ⟨y2, rfl, o2, S2, hW2, hG2⟩
    refine hK.out _ _ ((HD2.out.goes hG2).choose_spec.1.log) (fun hHeld => ?_)
    clear hK K
    try simp only [Act.put, List.setIfInBounds_toArray, List.set_cons_zero, List.set_cons_succ]
    refine wpAnyH_take (i := 8) (oi := ⟨some 6, _, _, _, _, _⟩) (v := ?_) rfl (by kernel_rfl) (by kernel_rfl) (by kernel_rfl) (fun _ _ _ h => h) (Or.inl ⟨by rfl, ?_⟩) (by assumption) ?_
    rotate_left
    · (intro w hSw; (try dsimp only at hSw); go_simp; first | done | with_reducible rfl)
    try simp only [Act.put, List.setIfInBounds_toArray, List.set_cons_zero, List.set_cons_succ]
    refine wpAnyH_done (by kernel_rfl) ?_ _
    obtain ⟨F2, L2, M2⟩ := HD2.out.goes hG2
    have M3 := Lib.hid (M0.out.trans ((moves_drew (F := F1) (a := a) (w := w3)).trans M2))
    clear hG2 HW2 HD2 M2
    go_wp2_with fail
    go_ret
    exact ⟨y2, rfl, o2, S2, ⟨_, _, _, hW1, .inr ⟨rfl, hW2⟩⟩, F2, L2, M3.out⟩
  · have hq : (y != 0) = true := by simpa using hy
    have hq2 : (y == 0) = false := by simpa using hy
    go_wp2_with fail
    go_ret
    exact ⟨y, rfl, o1, S1, ⟨_, _, _, hW1, .inl ⟨hy, rfl, rfl, rfl⟩⟩, F1, L1, M0.out⟩
set_option maxRecDepth 20000 in
set_option maxHeartbeats 4000000 in
theorem clear_any2 (h : Lg B W w g a p d o S F n) (hT : Tabs W) (hTB : max 1 2 + 1 ≤ B) (hd : d < S.disks.length) (k : Nat) (hk : k < n) (hn : n ≤ 8) (hb : 2 + 2 * n ≤ blk S.sectors)
    {m : Nat} (hL : ∀ k ∈ S.disks, k.waits.length ≤ m) (hm : m ≤ 900000000) :
    Calls Tryz.prog 106 #[.pointer (some ⟨g, 0, none⟩), .int .i64 k] w fun e w' => ∃ z : Int, e = .returned (.int .i64 z) ∧ ∃ o' S', DW S d o (2 + 2 * k) Sh.noughts z o' S' ∧ LGoes B W w w' g a p d o' S' F n := by
  have hR := Lib.hid (refusal_yes h.log k hk)
  have hk8 : k ≤ 1000 := by omega
  have HD := Lib.hid (h.grown (w' := w.drew) ⟨rfl, rfl, rfl, Nat.le_refl _, fun _ _ => rfl⟩)
  have HW0 := Lib.hid (fun w4 (p4 : Pad w4 w.heap.size []) (b4 : Below w.heap.size w.drew w4) => (dwrite (HD.out.grown b4).dv hT hTB (2 + 2 * k) (by omega) hd Sh.noughts (A := some ⟨w.heap.size, 0, none⟩) (c := 128) Sh.noughts_sec ⟨pad_noughts p4, fun x hx => by injection hx with hx; rw [← hx]; exact fun e => Nat.lt_irrefl _ (h.lt _ e)⟩ hL (by omega)).mono (fun e w5 ⟨y, h1, o1, S1, h2, h3⟩ => (⟨y, h1, o1, S1, h2, by
    obtain ⟨F1, L1, M1⟩ := (HD.out.grown b4).goes h3
    exact ⟨F1, L1, (moves_drew (F := F) (a := a) (w := w)).trans ((moves_below b4).trans M1)⟩⟩ : ∃ y : Int, e = Ending.returned (.int .i64 y) ∧ ∃ o1 S1, DW S d o (2 + 2 * k) Sh.noughts y o1 S1 ∧ LGoes B W w w5 g a p d o1 S1 F n)))
  have i0 := fun (W' : World) (h : LogIs W' g a n) => h.c0
  clear hb hk hd hT h
  go_enter Tryz.func106, Tryz.ntmps106
  go_wp2_with fail
  refine hR.out.mono ?_
  rintro e w' ⟨rfl, rfl⟩
  go_wp2_with fail
  refine wp_region_held_drew (S := fun (W' : World) => LogIs W' g a n) (by kernel_rfl) HD.out.log (fun hHeld => ?_)
  refine wpAnyH_take (i := 0) (oi := ⟨some 12, _, _, _, _, _⟩) (v := ?_) rfl (by kernel_rfl) (by kernel_rfl) (by kernel_rfl) (fun _ _ _ h => h) (Or.inl ⟨by rfl, ?_⟩) (by assumption) ?_
  rotate_left
  · (intro w hSw; (try dsimp only at hSw); go_simp; first | done | with_reducible rfl)
  try simp only [Act.put, List.setIfInBounds_toArray, List.set_cons_zero, List.set_cons_succ]
  refine wpAnyH_take (i := 1) (oi := ⟨some 13, _, _, _, _, _⟩) (v := ?_) rfl (by kernel_rfl) (by kernel_rfl) (by kernel_rfl) (fun _ _ _ h => h) (Or.inl ⟨by rfl, ?_⟩) (by assumption) ?_
  rotate_left
  · (intro w hSw; (try dsimp only at hSw); go_simp; first | done | with_reducible rfl)
  try simp only [Act.put, List.setIfInBounds_toArray, List.set_cons_zero, List.set_cons_succ]
  refine wpAnyH_take (i := 2) (oi := ⟨some 14, _, _, _, _, _⟩) (v := ?_) rfl (by kernel_rfl) (by kernel_rfl) (by kernel_rfl) (fun _ _ _ h => h) (Or.inl ⟨by rfl, ?_⟩) (by assumption) ?_
  rotate_left
  · (intro w hSw; (try dsimp only at hSw); go_simp; first | done | with_reducible rfl)
  try simp only [Act.put, List.setIfInBounds_toArray, List.set_cons_zero, List.set_cons_succ]
  refine wpAnyH_take (i := 3) (oi := ⟨some 15, _, _, _, _, _⟩) (v := ?_) rfl (by kernel_rfl) (by kernel_rfl) (by kernel_rfl) (fun _ _ _ h => h) (Or.inl ⟨by rfl, ?_⟩) (by assumption) ?_
  rotate_left
  · (intro w hSw; (try dsimp only at hSw); go_simp; first | done | with_reducible rfl)
  try simp only [Act.put, List.setIfInBounds_toArray, List.set_cons_zero, List.set_cons_succ]
  refine wpAnyH_take (i := 4) (oi := ⟨some 16, _, _, _, _, _⟩) (v := ?_) rfl (by kernel_rfl) (by kernel_rfl) (by kernel_rfl) (fun _ _ _ h => h) (Or.inl ⟨by rfl, ?_⟩) (by assumption) ?_
  rotate_left
  · (intro w hSw; (try dsimp only at hSw); go_simp; first | done | with_reducible rfl)
  try simp only [Act.put, List.setIfInBounds_toArray, List.set_cons_zero, List.set_cons_succ]
  refine wpAnyH_ready (rs := [5, 6]) (by kernel_rfl) (by simp) ?_
  refine AllReadyH.cons (o := ⟨some 17, _, _, _, _, _⟩) rfl (fun K hK => ?_) (AllReadyH.cons (o := ⟨some 18, _, _, _, _, _⟩) rfl (fun K hK => ?_) AllReadyH.nil)
  · go_simp
    refine (headAt_any k hk8 _).mono ?_
    rintro e w3 ⟨rfl, rfl⟩
    refine hK.out _ _ (hHeld) (fun hHeld => ?_)
    clear hK K
    try simp only [Act.put, List.setIfInBounds_toArray, List.set_cons_zero, List.set_cons_succ]
    refine wpAnyH_ready (rs := [6]) (by kernel_rfl) (by simp) ?_
    refine AllReadyH.cons (o := ⟨some 18, _, _, _, _, _⟩) rfl (fun K hK => ?_) AllReadyH.nil
    rw [if_pos (by rfl)]
    refine wp_make_noughts _ _ rfl rfl rfl (fun w4 p4 b4 => ?_)
    refine hK.out _ _ (hHeld.same (b4.block g hHeld.lt)) (fun hHeld => ?_)
    clear hK K
    try simp only [Act.put, List.setIfInBounds_toArray, List.set_cons_zero, List.set_cons_succ]
    have HW := Lib.hid (HW0.out w4 p4 b4)
    refine wpAnyH_ready (rs := [7]) (by kernel_rfl) (by simp) ?_
    refine AllReadyH.cons (o := ⟨some 19, _, _, _, _, _⟩) rfl (fun K hK => ?_) AllReadyH.nil
    go_simp
    refine (HW.out).mono ?_
    rintro e w5 ⟨y, rfl, o1, S1, hW1, G1⟩
    refine hK.out _ _ (G1.choose_spec.1.log) (fun hHeld => ?_)
    clear hK K
    try simp only [Act.put, List.setIfInBounds_toArray, List.set_cons_zero, List.set_cons_succ]
    refine wpAnyH_take (i := 8) (oi := ⟨some 4, _, _, _, _, _⟩) (v := ?_) rfl (by kernel_rfl) (by kernel_rfl) (by kernel_rfl) (fun _ _ _ h => h) (Or.inl ⟨by rfl, ?_⟩) (by assumption) ?_
    rotate_left
    · (intro w hSw; (try dsimp only at hSw); go_simp; first | done | with_reducible rfl)
    try simp only [Act.put, List.setIfInBounds_toArray, List.set_cons_zero, List.set_cons_succ]
    refine wpAnyH_done (by kernel_rfl) ?_ _
    obtain ⟨F1, L1, M1⟩ := G1
    clear HW
    go_wp2_with fail
    go_ret
    exact ⟨y, rfl, o1, S1, hW1, F1, L1, M1⟩
  · rw [if_pos (by rfl)]
    refine wp_make_noughts _ _ rfl rfl rfl (fun w4 p4 b4 => ?_)
    refine hK.out _ _ (hHeld.same (b4.block g hHeld.lt)) (fun hHeld => ?_)
    clear hK K
    try simp only [Act.put, List.setIfInBounds_toArray, List.set_cons_zero, List.set_cons_succ]
    refine wpAnyH_ready (rs := [5]) (by kernel_rfl) (by simp) ?_
    refine AllReadyH.cons (o := ⟨some 17, _, _, _, _, _⟩) rfl (fun K hK => ?_) AllReadyH.nil
    go_simp
    refine (headAt_any k hk8 _).mono ?_
    rintro e w3 ⟨rfl, rfl⟩
    refine hK.out _ _ (hHeld) (fun hHeld => ?_)
    clear hK K
    try simp only [Act.put, List.setIfInBounds_toArray, List.set_cons_zero, List.set_cons_succ]
    have HW := Lib.hid (HW0.out w4 p4 b4)
    refine wpAnyH_ready (rs := [7]) (by kernel_rfl) (by simp) ?_
    refine AllReadyH.cons (o := ⟨some 19, _, _, _, _, _⟩) rfl (fun K hK => ?_) AllReadyH.nil
    go_simp
    refine (HW.out).mono ?_
    rintro e w5 ⟨y, rfl, o1, S1, hW1, G1⟩
    refine hK.out _ _ (G1.choose_spec.1.log) (fun hHeld => ?_)
    clear hK K
    try simp only [Act.put, List.setIfInBounds_toArray, List.set_cons_zero, List.set_cons_succ]
    refine wpAnyH_take (i := 8) (oi := ⟨some 4, _, _, _, _, _⟩) (v := ?_) rfl (by kernel_rfl) (by kernel_rfl) (by kernel_rfl) (fun _ _ _ h => h) (Or.inl ⟨by rfl, ?_⟩) (by assumption) ?_
    rotate_left
    · (intro w hSw; (try dsimp only at hSw); go_simp; first | done | with_reducible rfl)
    try simp only [Act.put, List.setIfInBounds_toArray, List.set_cons_zero, List.set_cons_succ]
    refine wpAnyH_done (by kernel_rfl) ?_ _
    obtain ⟨F1, L1, M1⟩ := G1
    clear HW
    go_wp2_with fail
    go_ret
    exact ⟨y, rfl, o1, S1, hW1, F1, L1, M1⟩
end
end Go.Proofs.YtplbgjjacomceaaGreatDoor.U
namespace Go.Proofs.YtplbgjjacomceaaGreatDoor.U
open Go.RowKit Go.Maps

/-- A volume's places in memory. -/
structure Vk where
  B : Nat
  W : World
  v : Nat
  p : Nat
  t : Nat
  n : Nat
  mo : Nat
  mu : Nat
  L : Nat
  a : Nat → Nat
  gn : Nat → Nat
abbrev Set0 := DataW Unit
def Vk.gs (K : Vk) : Nat → Option Addr := fun i => some ⟨K.gn i, 0, none⟩
/-- The map in a block is such a set. -/
abbrev SetIs (w : World) (k : TypeId) (b : Nat) (D : Set0) : Prop := w.ownsMap Tryz.prog k (unitElem (H := Unit)) b (Maps.size D) D
/-- A volume, its disks' blocks, its logs, its sets, and their shelf. -/
structure Vr (K : Vk) (w : World) (s : Go.Proofs.YtplbgjjacomceaaGreatDoor.S.Sup) (o : Nat → Int) (S : Sh.Sf) (F : Nat → Prop) (D U : Set0) : Prop where
  vo : Vo K.B K.W w K.v K.p K.t K.n K.mo K.mu s ((2 + 2 * K.L : Nat) : Int) K.a o K.gs S F
  logs : LogsTo K.B w K.v K.t K.mo K.mu K.n K.a K.gn K.L F K.n
  ne : K.v ≠ K.t ∧ K.mo ≠ K.v ∧ K.mo ≠ K.t ∧ K.mo ≠ K.mu ∧ K.mu ≠ K.v ∧ K.mu ≠ K.t
  opens : SetIs w 3 K.mo D
  used : SetIs w 157 K.mu U
/-- All blocks that a call of a volume may write. -/
def AllV (K : Vk) (F : Nat → Prop) (b : Nat) : Prop := AllB F K.a K.n b ∨ b = K.v ∨ b = K.t ∨ b = K.mo ∨ b = K.mu
/-- What a call of a volume leaves. -/
def RGoes (K : Vk) (w w' : World) (s : Go.Proofs.YtplbgjjacomceaaGreatDoor.S.Sup) (o : Nat → Int) (S : Sh.Sf) (F : Nat → Prop) (D U : Set0) : Prop :=
  ∃ F', Vr K w' s o S F' D U ∧ Sh.Moves (AllV K F) w (AllV K F') w'
theorem set_same {w w' : World} {k : TypeId} {b : Nat} {D : Set0} (h : SetIs w k b D) (hb : w'.heap[b]? = w.heap[b]?) : SetIs w' k b D := by
  obtain ⟨es, c, h1, h2⟩ := h
  exact ⟨es, c, hb.trans h1, h2⟩
theorem set_tight {w : World} {k : TypeId} {b n : Nat} {D : Set0} (h : w.ownsMap Tryz.prog k (unitElem (H := Unit)) b n D) : SetIs w k b D := by
  obtain ⟨es, c, h1, h2, h3, rfl⟩ := h
  refine ⟨es, c, h1, h2, ?_, rfl⟩
  simp [Maps.size, length_sorted]
section
variable {K : Vk} {w w' w'' : World} {s : Go.Proofs.YtplbgjjacomceaaGreatDoor.S.Sup} {o o' : Nat → Int} {S S' : Sh.Sf} {F F' : Nat → Prop} {D U D' U' : Set0}
theorem Vr.lt (h : Vr K w s o S F D U) : ∀ b, AllV K F b → b < w.heap.size := by
  rintro b (e | rfl | rfl | rfl | rfl)
  · exact h.vo.ds.lt b e
  · exact h.vo.vol.vlt
  · exact h.vo.vol.tlt
  · exact h.vo.lt.1
  · exact h.vo.lt.2
theorem Vr.low (h : Vr K w s o S F D U) : ∀ b, AllV K F b → K.B ≤ b := by
  obtain ⟨l1, l2, l3, l4⟩ := h.vo.low
  rintro b (e | rfl | rfl | rfl | rfl)
  · exact h.vo.ds.lowAll b e
  all_goals assumption
theorem Vr.bel (h : Vr K w s o S F D U) : Below K.B K.W w := h.vo.ds.on.bel
theorem Vr.size (h : Vr K w s o S F D U) : K.B ≤ w.heap.size := h.vo.ds.on.size
theorem Vr.grown (h : Vr K w s o S F D U) (hb : Below w.heap.size w w') : Vr K w' s o S F D U :=
  ⟨h.vo.grown hb, ⟨fun i hi => (h.logs.log i hi).same (hb.block _ (h.logs.log i hi).lt), h.logs.apart, h.logs.low⟩, h.ne, set_same h.opens (hb.block _ h.vo.lt.1), set_same h.used (hb.block _ h.vo.lt.2)⟩
theorem RGoes.here (h : Vr K w s o S F D U) (hb : Below w.heap.size w w') : RGoes K w w' s o S F D U :=
  ⟨F, h.grown hb, ⟨hb.os, hb.tape, hb.output, hb.size, fun k hk _ => hb.block k hk⟩, fun _ hb => .inl hb⟩
theorem RGoes.trans (m : Sh.Moves (AllV K F) w (AllV K F') w') (k : RGoes K w' w'' s o S F' D U) : RGoes K w w'' s o S F D U := by
  obtain ⟨F2, V2, m2⟩ := k
  exact ⟨F2, V2, m.trans m2⟩
theorem moves_grown {G : Nat → Prop} (hb : Below w.heap.size w w') : Sh.Moves G w G w' := ⟨⟨hb.os, hb.tape, hb.output, hb.size, fun k hk _ => hb.block k hk⟩, fun _ hb => .inl hb⟩
/-- A call of the disks. -/
theorem Vr.goesV (h : Vr K w s o S F D U) (hG : VGoes K.B K.W w w' K.v K.p K.t K.n K.mo K.mu s ((2 + 2 * K.L : Nat) : Int) K.a o' K.gs S' F) : RGoes K w w' s o' S' F D U := by
  obtain ⟨F', V, m⟩ := hG
  have hk : ∀ b, b < w.heap.size → ¬ AllB F K.a K.n b → w'.heap[b]? = w.heap[b]? := fun b hb hx => m.1.block b hb hx
  have hn : ∀ b, b < w.heap.size → ¬ AllB F K.a K.n b → ¬ AllB F' K.a K.n b := fun b hb hx e => (m.2 b e).elim hx (fun e => by omega)
  refine ⟨F', ⟨V, ⟨fun i hi => (h.logs.log i hi).same (hk _ (h.logs.log i hi).lt (h.logs.apart i hi).1), fun i hi => ⟨hn _ (h.logs.log i hi).lt (h.logs.apart i hi).1, (h.logs.apart i hi).2⟩, h.logs.low⟩, h.ne, set_same h.opens (hk _ h.vo.lt.1 fun e => (h.vo.apart _ e).2.2.1 rfl), set_same h.used (hk _ h.vo.lt.2 fun e => (h.vo.apart _ e).2.2.2 rfl)⟩, m.1.mono fun b hb => .inl hb, ?_⟩
  rintro b (e | e)
  · exact (m.2 b e).imp .inl id
  · exact .inl (.inr e)
theorem Vr.goes (h : Vr K w s o S F D U) {i : Nat} (hi : i < K.n) {x : Int} (hG : Goes K.B K.W w w' (K.a i) K.p i x S' F) : RGoes K w w' s (put1 o i x) S' F D U := h.goesV (h.vo.goes (h.vo.ds.goes hi hG))
theorem put1_same (f : Nat → Int) (i : Nat) : put1 f i (f i) = f := by
  funext j
  unfold put1
  split
  · rename_i e; rw [e]
  · rfl
theorem Vr.reads (h : Vr K w s o S F D U) {i : Nat} (hD : Dv K.B K.W w' (K.a i) K.p i (o i) S' F) (ho : Sh.Only F w w') : RGoes K w w' s o S' F D U := h.goesV (h.vo.reads hD ho)
/-- What a call leaves that only reads. -/
def RStay (K : Vk) (w w' : World) (s : Go.Proofs.YtplbgjjacomceaaGreatDoor.S.Sup) (o : Nat → Int) (S : Sh.Sf) (F : Nat → Prop) (D U : Set0) : Prop := Vr K w' s o S F D U ∧ Sh.Only (AllV K F) w w'
theorem Vr.stays (h : Vr K w s o S F D U) {i : Nat} (hD : Dv K.B K.W w' (K.a i) K.p i (o i) S' F) (ho : Sh.Only F w w') : RStay K w w' s o S' F D U := by
  have hk : ∀ b, b < w.heap.size → ¬ AllB F K.a K.n b → w'.heap[b]? = w.heap[b]? := fun b hb hx => ho.block b hb fun e => hx (.inl e)
  have hv := h.vo.vol.kept (hk _ h.vo.vol.vlt fun e => (h.vo.apart _ e).1 rfl) (hk _ h.vo.vol.tlt fun e => (h.vo.apart _ e).2.1 rfl)
  refine ⟨⟨⟨h.vo.ds.stays hD.on.shelf ho, hv, h.vo.apart, h.vo.low, ⟨Nat.lt_of_lt_of_le h.vo.lt.1 ho.size, Nat.lt_of_lt_of_le h.vo.lt.2 ho.size⟩⟩, ⟨fun i hi => (h.logs.log i hi).same (hk _ (h.logs.log i hi).lt (h.logs.apart i hi).1), h.logs.apart, h.logs.low⟩, h.ne, set_same h.opens (hk _ h.vo.lt.1 fun e => (h.vo.apart _ e).2.2.1 rfl), set_same h.used (hk _ h.vo.lt.2 fun e => (h.vo.apart _ e).2.2.2 rfl)⟩, ho.mono fun b hb => .inl (.inl hb)⟩
theorem RStay.goes (h : RStay K w w' s o S F D U) : RGoes K w w' s o S F D U := ⟨F, h.1, h.2, fun _ hb => .inl hb⟩
theorem RStay.here (h : Vr K w s o S F D U) (hb : Below w.heap.size w w') : RStay K w w' s o S F D U := ⟨h.grown hb, only_below _ hb⟩
theorem RStay.trans (h : Sh.Only (AllV K F) w w') (k : RStay K w' w'' s o S F D U) : RStay K w w'' s o S F D U := ⟨k.1, h.trans k.2 fun _ e => .inl e⟩
theorem Vr.dv (h : Vr K w s o S F D U) {i : Nat} (hi : i < K.n) : Dv K.B K.W w (K.a i) K.p i (o i) S F := h.vo.ds.dv hi
theorem Vr.lg (h : Vr K w s o S F D U) {i : Nat} (hi : i < K.n) : Lg K.B K.W w (K.gn i) (K.a i) K.p i (o i) S F K.L :=
  ⟨h.dv hi, h.logs.log i hi, fun e => (h.logs.apart i hi).1 (e.imp id fun e => ⟨i, hi, e⟩), h.logs.low i hi⟩
/-- One block of the volume is another one. -/
theorem Vr.turn (h : Vr K w s o S F D U) {x : Nat} (hx : x = K.mo ∨ x = K.mu) (ho : Sh.Only (fun b => b = x) w w') (h1 : SetIs w' 3 K.mo D') (h2 : SetIs w' 157 K.mu U') : RGoes K w w' s o S F D' U' := by
  obtain ⟨n1, n2, n3, n4, n5, n6⟩ := h.ne
  have hnx : ∀ b, AllB F K.a K.n b → b ≠ x := fun b hb => by rcases hx with rfl | rfl; exact (h.vo.apart b hb).2.2.1; exact (h.vo.apart b hb).2.2.2
  have hk : ∀ b, b < w.heap.size → b ≠ x → w'.heap[b]? = w.heap[b]? := fun b hb hx => ho.block b hb hx
  have hB : K.B ≤ x := by obtain ⟨l1, l2, l3, l4⟩ := h.vo.low; rcases hx with rfl | rfl <;> assumption
  have hgx : ∀ i, i < K.n → K.gn i ≠ x := fun i hi => by
    obtain ⟨_, _, _, g3, g4⟩ := h.logs.apart i hi
    rcases hx with rfl | rfl <;> assumption
  have hvx : K.v ≠ x := by rcases hx with rfl | rfl <;> omega
  have htx : K.t ≠ x := by rcases hx with rfl | rfl <;> omega
  have hbel : Below K.B K.W w' := h.bel.trans (ho.below (fun b e => by rw [e]; exact hB) h.size)
  refine ⟨F, ⟨⟨⟨⟨h.vo.ds.on.shelf.only ho (fun b hb e => hnx b (.inl hb) e), h.vo.ds.on.low, hbel, Nat.le_trans h.size ho.size⟩, fun i hi => (h.vo.ds.dev i hi).same (hk _ (h.vo.ds.dev i hi).lt (hnx _ (.inr ⟨i, hi, rfl⟩))), h.vo.ds.apart, h.vo.ds.inj, h.vo.ds.low⟩, h.vo.vol.kept (hk _ h.vo.vol.vlt hvx) (hk _ h.vo.vol.tlt htx), h.vo.apart, h.vo.low, ⟨Nat.lt_of_lt_of_le h.vo.lt.1 ho.size, Nat.lt_of_lt_of_le h.vo.lt.2 ho.size⟩⟩, ⟨fun i hi => (h.logs.log i hi).same (hk _ (h.logs.log i hi).lt (hgx i hi)), h.logs.apart, h.logs.low⟩, h.ne, h1, h2⟩, ho.mono fun b e => ?_, fun b hb => .inl hb⟩
  subst e
  rcases hx with rfl | rfl
  · exact .inr (.inr (.inr (.inl rfl)))
  · exact .inr (.inr (.inr (.inr rfl)))
theorem only_turned {x : Nat} (h : w.mapTurned w' x) : Sh.Only (fun b => b = x) w w' := by
  have g := h.grown
  exact ⟨g.os, g.tape, g.output, g.size, fun k hk hn => g.block k hk (fun e => hn (by injection e))⟩
theorem Vr.turnOpen (h : Vr K w s o S F D U) (ht : w.mapTurned w' K.mo) {c : Nat} (hs : w'.ownsMap Tryz.prog 3 (unitElem (H := Unit)) K.mo c D') : RGoes K w w' s o S F D' U := by
  obtain ⟨n1, n2, n3, n4, n5, n6⟩ := h.ne
  exact h.turn (.inl rfl) (only_turned ht) (set_tight hs) (set_same h.used ((only_turned ht).block _ h.vo.lt.2 (Ne.symm n4)))
theorem Vr.turnUsed (h : Vr K w s o S F D U) (ht : w.mapTurned w' K.mu) {c : Nat} (hs : w'.ownsMap Tryz.prog 157 (unitElem (H := Unit)) K.mu c U') : RGoes K w w' s o S F D U' := by
  obtain ⟨n1, n2, n3, n4, n5, n6⟩ := h.ne
  exact h.turn (.inr rfl) (only_turned ht) (set_same h.opens ((only_turned ht).block _ h.vo.lt.1 n4)) (set_tight hs)
/-- Bytes beside a volume are beside each of its disks. -/
theorem beside_disk {A : Option Addr} {l : Sh.Bs} (h : Sh.Beside w (AllV K F) A l) {i : Nat} (hi : i < K.n) : Sh.Beside w (With F (K.a i)) A l :=
  ⟨h.1, fun x hx e => h.2 x hx (.inl (e.imp id fun e => ⟨i, hi, e⟩))⟩
theorem Vr.beside_new (h : Vr K w s o S F D U) {A : Option Addr} {l : Sh.Bs} (hb : Sh.Bytes w w' A l) : Sh.Beside w' (AllV K F) A l :=
  ⟨hb.1, fun x hx e => by
    have := (hb.2 x hx).1
    have := h.lt _ e
    omega⟩
end
end Go.Proofs.YtplbgjjacomceaaGreatDoor.U
namespace Go.Proofs.YtplbgjjacomceaaGreatDoor.U
open Go.RowKit Go.Maps

/-- An array's numbers, and that it fits its disks. -/
structure Fits (n L : Nat) (s : Go.Proofs.YtplbgjjacomceaaGreatDoor.S.Sup) (M St : Nat) (S : Sh.Sf) : Prop where
  mem : s.mem = (M : Int)
  str : s.str = (St : Int)
  logs : s.logs = (L : Int)
  m3 : 3 ≤ M
  m16 : M ≤ 16
  s1 : 1 ≤ St
  s2 : St ≤ 1024
  l1 : 1 ≤ L
  l2 : L ≤ 8
  cnt : n = M ∨ n = M + 1
  spare : s.spare = -1 ∨ (n = M + 1 ∧ 0 ≤ s.spare ∧ s.spare < (M : Int))
  mark : 0 ≤ s.mark ∧ s.mark ≤ (St : Int)
  len : S.disks.length = n
  need : 2 + 2 * L + St ≤ blk S.sectors
theorem Fits.same {n L M St : Nat} {s : Go.Proofs.YtplbgjjacomceaaGreatDoor.S.Sup} {S S' : Sh.Sf} (h : Fits n L s M St S) (h1 : S'.disks.length = S.disks.length) (h2 : S'.sectors = S.sectors) : Fits n L s M St S' :=
  ⟨h.mem, h.str, h.logs, h.m3, h.m16, h.s1, h.s2, h.l1, h.l2, h.cnt, h.spare, h.mark, h1.trans h.len, by rw [h2]; exact h.need⟩
/-- The disk that has a member's block of a stripe. -/
def numOf (s : Go.Proofs.YtplbgjjacomceaaGreatDoor.S.Sup) (M st m : Nat) : Nat := if (m : Int) = s.spare ∧ (st : Int) < s.mark then M else m
theorem Fits.num_lt {n L M St : Nat} {s : Go.Proofs.YtplbgjjacomceaaGreatDoor.S.Sup} {S : Sh.Sf} (h : Fits n L s M St S) (st : Nat) {m : Nat} (hm : m < M) : numOf s M st m < n := by
  unfold numOf
  have := h.cnt
  have := h.spare
  split
  · rename_i e; omega
  · omega
/-! ### reads -/
/-- The blocks of a stripe that are taken, put together, so many members of them: the shelf, the sum, what was told. -/
def tog (s : Go.Proofs.YtplbgjjacomceaaGreatDoor.S.Sup) (M k st : Nat) (tk : Nat → Bool) (S : Sh.Sf) : Nat → Sh.Sf × Sh.Bs × Int
  | 0 => (S, Sh.noughts, 0)
  | j + 1 =>
    let r := tog s M k st tk S j
    if r.2.2 ≠ 0 ∨ tk j = false then r
    else (Looked r.1 (numOf s M st j), if rdY r.1 (numOf s M st j) k = 0 then xorL r.2.1 (V r.1 (numOf s M st j) (dataOf k)) else r.2.1,
      if rdY r.1 (numOf s M st j) k = 0 then 0 else if rdY r.1 (numOf s M st j) k = 4 ∨ rdY r.1 (numOf s M st j) k = 5 then 10 else rdY r.1 (numOf s M st j) k)
section
variable {s : Go.Proofs.YtplbgjjacomceaaGreatDoor.S.Sup} {M k st : Nat} {tk : Nat → Bool} {S : Sh.Sf}
theorem tog_stop {j n : Nat} (h : (tog s M k st tk S j).2.2 ≠ 0) (hj : j ≤ n) : tog s M k st tk S n = tog s M k st tk S j := by
  induction n with
  | zero => have : j = 0 := by omega
            rw [this]
  | succ n ih =>
    by_cases e : j = n + 1
    · rw [e]
    · have e2 := ih (by omega)
      show (if (tog s M k st tk S n).2.2 ≠ 0 ∨ tk n = false then _ else _) = _
      rw [if_pos (.inl (by rw [e2]; exact h)), e2]
theorem tog_skip {j : Nat} (h : tk j = false) : tog s M k st tk S (j + 1) = tog s M k st tk S j := if_pos (.inr h)
theorem tog_take {j : Nat} (h : (tog s M k st tk S j).2.2 = 0) (ht : tk j = true) : tog s M k st tk S (j + 1) = (Looked (tog s M k st tk S j).1 (numOf s M st j), if rdY (tog s M k st tk S j).1 (numOf s M st j) k = 0 then xorL (tog s M k st tk S j).2.1 (V (tog s M k st tk S j).1 (numOf s M st j) (dataOf k)) else (tog s M k st tk S j).2.1,
      if rdY (tog s M k st tk S j).1 (numOf s M st j) k = 0 then 0 else if rdY (tog s M k st tk S j).1 (numOf s M st j) k = 4 ∨ rdY (tog s M k st tk S j).1 (numOf s M st j) k = 5 then 10 else rdY (tog s M k st tk S j).1 (numOf s M st j) k) :=
  if_neg (fun e => e.elim (fun e => e h) (fun e => by rw [ht] at e; cases e))
/-- Only the count turns. -/
theorem tog_same (j : Nat) : Same S (tog s M k st tk S j).1 := by
  induction j with
  | zero => exact Same.refl S
  | succ j ih =>
    unfold tog
    simp only
    split
    · exact ih
    · exact ih.looked _
end
theorem Same.why {S T : Sh.Sf} (h : Same S T) (d : Nat) : Sh.why T d = Sh.why S d := by unfold Sh.why; rw [h.disks, h.off]
theorem Same.rdY {S T : Sh.Sf} (h : Same S T) (d k : Nat) : rdY T d k = U.rdY S d k := by unfold U.rdY; rw [h.why, h.good]
theorem Same.len {S T : Sh.Sf} (h : Same S T) : T.disks.length = S.disks.length := by rw [h.disks]
theorem Same.trans {S T R : Sh.Sf} (h : Same S T) (k : Same T R) : Same S R := ⟨k.disks.trans h.disks, k.sectors.trans h.sectors, k.off.trans h.off, k.left.trans h.left⟩
/-! ### a set of slots -/
/-- How a slot stands in a set. -/
def slotKey (d k : Nat) : Lit := .string (keyBytes [.int .i64 (d : Int), .int .i64 (k : Int)])
/-- All slots of so many disks, and of the next one so many. -/
def slotsTo (L j k : Nat) : List (Nat × Nat) := (List.range j).flatMap (fun d => (List.range L).map fun x => (d, x)) ++ (List.range k).map fun x => (j, x)
theorem slotsTo_zero (L : Nat) : slotsTo L 0 0 = [] := rfl
theorem slotsTo_succ (L j k : Nat) : slotsTo L j (k + 1) = slotsTo L j k ++ [(j, k)] := by simp [slotsTo, List.range_succ]
theorem slotsTo_next (L j : Nat) : slotsTo L (j + 1) 0 = slotsTo L j L := by simp [slotsTo, List.range_succ]
/-- A state: the shelf, and which block of each disk is open. -/
structure Stt where
  S : Sh.Sf
  o : Nat → Int
/-- A slot is cleared, if it is used: what was told, that a disk is dead left out. -/
def ClrStep (U : Set0) (x : Nat × Nat) (a : Stt) (y : Int) (b : Stt) : Prop :=
  (Maps.has U (slotKey x.1 x.2) = false ∧ y = 0 ∧ b = a) ∨
  (Maps.has U (slotKey x.1 x.2) = true ∧ ∃ z z', DW a.S x.1 (a.o x.1) (2 + 2 * x.2) Sh.noughts z z' b.S ∧ y = bd z ∧ b.o = put1 a.o x.1 z')
inductive ClrSteps (U : Set0) : List (Nat × Nat) → Stt → Stt → Prop
  | nil (a : Stt) : ClrSteps U [] a a
  | snoc {l : List (Nat × Nat)} {x : Nat × Nat} {a b c : Stt} : ClrSteps U l a b → ClrStep U x b 0 c → ClrSteps U (l ++ [x]) a c
/-- What clearSlots leaves. -/
def ClrR (n L : Nat) (U : Set0) (a : Stt) (y : Int) (b : Stt) : Prop :=
  (y = 0 ∧ ClrSteps U (slotsTo L n 0) a b) ∨ (y ≠ 0 ∧ ∃ j k c, j < n ∧ k < L ∧ ClrSteps U (slotsTo L j k) a c ∧ ClrStep U (j, k) c y b)
theorem ClrStep.len {U : Set0} {x : Nat × Nat} {a b : Stt} {y : Int} (h : ClrStep U x a y b) : b.S.disks.length = a.S.disks.length ∧ b.S.sectors = a.S.sectors := by
  rcases h with ⟨_, _, rfl⟩ | ⟨_, z, z', h, _, _⟩
  · exact ⟨rfl, rfl⟩
  · exact ⟨h.len, h.sectors⟩
theorem ClrStep.waits {U : Set0} {x : Nat × Nat} {a b : Stt} {y : Int} {m : Nat} (h : ClrStep U x a y b) (hL : ∀ x ∈ a.S.disks, x.waits.length ≤ m) : ∀ x ∈ b.S.disks, x.waits.length ≤ m + 3 := by
  rcases h with ⟨_, _, rfl⟩ | ⟨_, z, z', h, _, _⟩
  · intro x hx; have := hL x hx; omega
  · exact h.waits hL
theorem ClrSteps.len {U : Set0} {l : List (Nat × Nat)} {a b : Stt} (h : ClrSteps U l a b) : b.S.disks.length = a.S.disks.length ∧ b.S.sectors = a.S.sectors := by
  induction h with
  | nil => exact ⟨rfl, rfl⟩
  | snoc _ k ih => exact ⟨k.len.1.trans ih.1, k.len.2.trans ih.2⟩
theorem ClrSteps.waits {U : Set0} {l : List (Nat × Nat)} {a b : Stt} {m : Nat} (h : ClrSteps U l a b) (hL : ∀ x ∈ a.S.disks, x.waits.length ≤ m) : ∀ x ∈ b.S.disks, x.waits.length ≤ m + 3 * l.length := by
  induction h with
  | nil => simpa using hL
  | snoc _ k ih =>
    intro x hx
    have := k.waits (ih hL) x hx
    simp only [List.length_append, List.length_singleton]
    omega
theorem slotsTo_length (L j k : Nat) : (slotsTo L j k).length = j * L + k := by
  unfold slotsTo
  rw [List.length_append, List.length_map, List.length_range]
  congr 1
  induction j with
  | zero => simp
  | succ j ih => rw [List.range_succ, List.flatMap_append, List.length_append, ih]; simp [Nat.succ_mul]
theorem ClrR.len {n L : Nat} {U : Set0} {a b : Stt} {y : Int} (h : ClrR n L U a y b) : b.S.disks.length = a.S.disks.length ∧ b.S.sectors = a.S.sectors := by
  rcases h with ⟨_, h⟩ | ⟨_, j, k, c, _, _, h, h2⟩
  · exact h.len
  · exact ⟨h2.len.1.trans h.len.1, h2.len.2.trans h.len.2⟩
theorem fdS_sectors (S : Sh.Sf) (k : Nat) : (fdS S k).1.sectors = S.sectors := by
  induction k with
  | zero => rfl
  | succ k ih =>
    unfold fdS
    split
    · exact (fl_sectors _ _).trans ih
    · exact ih
theorem fdS_lens {S : Sh.Sf} {m : Nat} (hL : ∀ x ∈ S.disks, x.waits.length ≤ m) (k : Nat) : ∀ x ∈ (fdS S k).1.disks, x.waits.length ≤ m := by
  induction k with
  | zero => exact hL
  | succ k ih =>
    unfold fdS
    split
    · exact fl_lens ih
    · exact ih
abbrev noSet : Set0 := .map []
/-- What Flush leaves: what was told, the shelf, which blocks are open, the two sets. -/
inductive FlR (n L : Nat) (D U : Set0) (S : Sh.Sf) : Int → Stt → Set0 → Set0 → Prop
  | first (o' : Nat → Int) : (fdS S n).2 ≠ 0 → FlR n L D U S (fdS S n).2 ⟨(fdS S n).1, o'⟩ D U
  | slots (o1 : Nat → Int) (y : Int) (b : Stt) : (fdS S n).2 = 0 → Maps.size U ≠ 0 → ClrR n L U ⟨(fdS S n).1, o1⟩ y b → y ≠ 0 → FlR n L D U S y b D U
  | again (o1 o' : Nat → Int) (b : Stt) : (fdS S n).2 = 0 → Maps.size U ≠ 0 → ClrR n L U ⟨(fdS S n).1, o1⟩ 0 b → (fdS b.S n).2 ≠ 0 → FlR n L D U S (fdS b.S n).2 ⟨(fdS b.S n).1, o'⟩ D U
  | none (o' : Nat → Int) : (fdS S n).2 = 0 → Maps.size U = 0 → FlR n L D U S 0 ⟨(fdS S n).1, o'⟩ noSet noSet
  | all (o1 o' : Nat → Int) (b : Stt) : (fdS S n).2 = 0 → Maps.size U ≠ 0 → ClrR n L U ⟨(fdS S n).1, o1⟩ 0 b → (fdS b.S n).2 = 0 → FlR n L D U S 0 ⟨(fdS b.S n).1, o'⟩ noSet noSet
section
variable {n L m : Nat} {D U D' U' : Set0} {S : Sh.Sf} {y : Int} {b : Stt}
theorem ClrR.waits {a : Stt} (h : ClrR n L U a y b) (hn : n ≤ 17) (h8 : L ≤ 8) (hL : ∀ x ∈ a.S.disks, x.waits.length ≤ m) : ∀ x ∈ b.S.disks, x.waits.length ≤ m + 408 := by
  rcases h with ⟨_, h⟩ | ⟨_, j, k, c, hj, hk, h, h2⟩
  · intro x hx
    have := h.waits hL x hx
    rw [slotsTo_length] at this
    have : n * L ≤ 17 * 8 := Nat.mul_le_mul hn h8
    omega
  · intro x hx
    have := h2.waits (h.waits hL) x hx
    rw [slotsTo_length] at this
    have : (j + 1) * L ≤ 17 * 8 := Nat.mul_le_mul (by omega) h8
    rw [Nat.succ_mul] at this
    omega
theorem FlR.len (h : FlR n L D U S y b D' U') : b.S.disks.length = S.disks.length ∧ b.S.sectors = S.sectors := by
  cases h with
  | first o' h => exact ⟨fdS_length S n, fdS_sectors S n⟩
  | slots o1 y b h1 h2 h3 h4 => exact ⟨h3.len.1.trans (fdS_length S n), h3.len.2.trans (fdS_sectors S n)⟩
  | again o1 o' b h1 h2 h3 h4 => exact ⟨(fdS_length _ n).trans (h3.len.1.trans (fdS_length S n)), (fdS_sectors _ n).trans (h3.len.2.trans (fdS_sectors S n))⟩
  | none o' h1 h2 => exact ⟨fdS_length S n, fdS_sectors S n⟩
  | all o1 o' b h1 h2 h3 h4 => exact ⟨(fdS_length _ n).trans (h3.len.1.trans (fdS_length S n)), (fdS_sectors _ n).trans (h3.len.2.trans (fdS_sectors S n))⟩
theorem FlR.waits (h : FlR n L D U S y b D' U') (hn : n ≤ 17) (h8 : L ≤ 8) (hL : ∀ x ∈ S.disks, x.waits.length ≤ m) : ∀ x ∈ b.S.disks, x.waits.length ≤ m + 408 := by
  have h0 := fdS_lens hL n
  cases h with
  | first o' h => intro x hx; have := h0 x hx; omega
  | slots o1 y b h1 h2 h3 h4 => exact h3.waits hn h8 h0
  | again o1 o' b h1 h2 h3 h4 => exact fdS_lens (h3.waits hn h8 h0) n
  | none o' h1 h2 => intro x hx; have := h0 x hx; omega
  | all o1 o' b h1 h2 h3 h4 => exact fdS_lens (h3.waits hn h8 h0) n
theorem FlR.sets (h : FlR n L D U S y b D' U') (hD : Maps.size D ≤ m) (hU : Maps.size U ≤ m) : Maps.size D' ≤ m ∧ Maps.size U' ≤ m := by
  cases h with
  | first o' h => exact ⟨hD, hU⟩
  | slots o1 y b h1 h2 h3 h4 => exact ⟨hD, hU⟩
  | again o1 o' b h1 h2 h3 h4 => exact ⟨hD, hU⟩
  | none o' h1 h2 => exact ⟨Nat.zero_le _, Nat.zero_le _⟩
  | all o1 o' b h1 h2 h3 h4 => exact ⟨Nat.zero_le _, Nat.zero_le _⟩
end
end Go.Proofs.YtplbgjjacomceaaGreatDoor.U
namespace Go.Proofs.YtplbgjjacomceaaGreatDoor.U
open Go.RowKit Go.Maps

section
variable {w : World} {v p t n mo mu : Nat} {s : Go.Proofs.YtplbgjjacomceaaGreatDoor.S.Sup} {base : Int} {a : Nat → Nat} {g : Nat → Option Addr}
theorem numberOf_ok (h : VolIs w v p t n mo mu s base a g) {M : Nat} (hm : s.mem = (M : Int)) (st m : Nat) :
    Calls Tryz.prog 110 #[.pointer (some ⟨v, 0, none⟩), .int .i64 st, .int .i64 m] w fun e w' => e = .returned (.int .i64 (numOf s M st m : Nat)) ∧ w = w' := by
  have c2 := cell_of_row _ _ 2 _ _ _ h.root
  have c6 := cell_of_row _ _ 6 _ _ _ h.root
  have c7 := cell_of_row _ _ 7 _ _ _ h.root
  simp only [List.getElem?_toArray, List.getElem?_cons_zero, List.getElem?_cons_succ] at c2 c6 c7
  rw [hm] at c2
  unfold numOf
  generalize s.spare = sp at *
  generalize s.mark = mk at *
  clear h hm
  by_cases h1 : (m : Int) = sp
  · have q1 : ((m : Int) == sp) = true := by simpa using h1
    by_cases h2 : (st : Int) < mk
    · rw [if_pos ⟨h1, h2⟩]
      subst h1
      clear q1
      go_enter Tryz.func110, Tryz.ntmps110
      go_wp2
      go_ret
      exact ⟨rfl, rfl⟩
    · rw [if_neg (fun e => h2 e.2)]
      have q2 : decide ((st : Int) < mk) = false := by simpa using h2
      subst h1
      clear q1 h2
      go_enter Tryz.func110, Tryz.ntmps110
      go_wp2
      go_ret
      exact ⟨rfl, rfl⟩
  · have q1 : ((m : Int) == sp) = false := by rw [beq_eq_false_iff_ne]; exact h1
    rw [if_neg (fun e => h1 e.1)]
    clear h1
    go_enter Tryz.func110, Tryz.ntmps110
    go_wp2
    go_ret
    exact ⟨rfl, rfl⟩
end
theorem isLacking_any (y : Int) (w : World) : Calls Tryz.prog 58 #[.int .i64 y] w fun e w' => e = .returned (.bool (decide (y = 4 ∨ y = 5))) ∧ w = w' := by
  by_cases h4 : y = 4
  · subst h4
    go_enter Tryz.func58, Tryz.ntmps58
    go_wp2
    go_ret
    exact ⟨rfl, rfl⟩
  · by_cases h5 : y = 5
    · subst h5
      go_enter Tryz.func58, Tryz.ntmps58
      go_wp2
      go_ret
      exact ⟨rfl, rfl⟩
    · have q4 : (y == 4) = false := by rw [beq_eq_false_iff_ne]; exact h4
      have q5 : (y == 5) = false := by rw [beq_eq_false_iff_ne]; exact h5
      rw [show decide (y = 4 ∨ y = 5) = false by simp [h4, h5]]
      clear h4 h5
      go_enter Tryz.func58, Tryz.ntmps58
      go_wp2
      go_ret
      exact ⟨rfl, rfl⟩
/-- Two blocks put together. -/
theorem rxor_ok (A C : Option Addr) (c d : Nat) (x y : List Nat) (w : World) (hx : Small x) (hy : Small y) (hrx : Reads w w.heap.size A 128 (bts x)) (hry : Reads w w.heap.size C 128 (bts y)) :
    Calls Tryz.prog 62 #[.slice A 128 c, .slice C 128 d] w fun e w' => ∃ E f, e = .returned (.slice E 128 f) ∧ w'.ownsRow w.heap.size 5 1 (.slice E 128 f) 128 (bts (xorL x y)) ∧ Below w.heap.size w w' := by
  have hl : (xorL x y).length = 128 := by
    have := hrx.len
    unfold xorL
    rw [tab_length]
    exact this
  have HX := Lib.hid (xor_ok A C 128 c d w.heap.size x y w hx hy hrx hry (Nat.le_refl _) (by omega))
  clear hrx hry
  go_enter Tryz.func62, Tryz.ntmps62
  go_wp2_with fail
  refine HX.out.mono ?_
  rintro e w' ⟨vv, rfl, hown, hb⟩
  rw [hl] at hown
  obtain ⟨E, f, rfl⟩ : ∃ E f, vv = .slice E 128 f := by
    obtain ⟨E, f, h, _⟩ := own_shape hown
    exact ⟨E, f, h⟩
  have HO := Lib.hid hown
  have HB := Lib.hid hb
  clear hown hb hl
  go_wp2
  go_ret
  exact ⟨E, f, rfl, HO.out, HB.out⟩
theorem xorL_small {x y : List Nat} (hx : Small x) (hy : Small y) : Small (xorL x y) := by
  exact tab_small fun i _ => Nat.xor_lt_two_pow (n := 8) (hx.get i) (hy.get i)
theorem xorL_sec {x y : List Nat} (hx : Sh.Sec x) (hy : Sh.Sec y) : Sh.Sec (xorL x y) := ⟨by unfold xorL; rw [tab_length]; exact hx.1, xorL_small hx.2 hy.2⟩
end Go.Proofs.YtplbgjjacomceaaGreatDoor.U
