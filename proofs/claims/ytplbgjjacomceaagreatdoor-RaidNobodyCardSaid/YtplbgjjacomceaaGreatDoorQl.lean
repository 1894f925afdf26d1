/-
  ppl: Decode, the definition.
  Conditions: each theorem's own.
-/
import Derived.Test.YtplbgjjacomceaaGreatDoorQk
import Derived.Lib.SlBytesConst
namespace Go.Proofs.YtplbgjjacomceaaGreatDoor.U
open Go.RowKit Go.Maps

theorem cells_set {w : World} {b i : Nat} {c : Array Value} {t : TypeId} (v : Value) (h : w.heap[b]? = some (.cells c t (0, 0))) : (w.setCell ⟨b, i, none⟩ v).heap[b]? = some (.cells (c.setIfInBounds i v) t (0, 0)) := heap_setCell_same w b i c t v h
/-- A record is stored, cell by cell. -/
noncomputable def put3 (w : World) (g : Nat) (a0 a1 a2 : Value) : World := ((w.setCell ⟨g, 0, none⟩ a0).setCell ⟨g, 1, none⟩ a1).setCell ⟨g, 2, none⟩ a2
theorem put3_row {w : World} {g : Nat} {t : TypeId} {v0 v1 v2 : Value} (h : w.heap[g]? = some (.cells #[v0, v1, v2] t (0, 0))) (a0 a1 a2 : Value) :
    (put3 w g a0 a1 a2).heap[g]? = some (.cells #[a0, a1, a2] t (0, 0)) := by
  have h0 : (w.setCell ⟨g, 0, none⟩ a0).heap[g]? = some (.cells #[a0, v1, v2] t (0, 0)) := cells_set (i := 0) a0 h
  have h1 : ((w.setCell ⟨g, 0, none⟩ a0).setCell ⟨g, 1, none⟩ a1).heap[g]? = some (.cells #[a0, a1, v2] t (0, 0)) := cells_set (i := 1) a1 h0
  exact cells_set (i := 2) a2 h1
theorem put3_below {B : Nat} {w0 w : World} {g : Nat} (h : Below B w0 w) (hg : B ≤ g) (a0 a1 a2 : Value) : Below B w0 (put3 w g a0 a1 a2) :=
  ((h.setCell (p := ⟨g, 0, none⟩) hg a0).setCell (p := ⟨g, 1, none⟩) hg a1).setCell (p := ⟨g, 2, none⟩) hg a2
theorem put3_only (w : World) (g : Nat) (a0 a1 a2 : Value) : Sh.Only (fun b => b = g) w (put3 w g a0 a1 a2) :=
  (((Sh.Only.refl (fun b => b = g) w).setCell (p := ⟨g, 0, none⟩) (.inl rfl) a0).setCell (p := ⟨g, 1, none⟩) (.inl rfl) a1).setCell (p := ⟨g, 2, none⟩) (.inl rfl) a2
theorem store3_0 {w : World} {g : Nat} {t : TypeId} {v0 v1 v2 : Value} (h : w.heap[g]? = some (.cells #[v0, v1, v2] t (0, 0))) (a : Value) (ha : a.oneCell' = true) :
    (store ⟨g, 0, none⟩ a).run Tryz.prog w = .ok () (w.setCell ⟨g, 0, none⟩ a) := by
  obtain ⟨k0, _, _, f⟩ := cells3_of h
  rw [run_store _ _ _ _ _ ha, k0]
  simp only [f 0]
  rfl
theorem own_low {w : World} {base base' n : Nat} {v : Value} {xs : List Value} (h : w.ownsRow base 5 1 v n xs) (hb : base' ≤ base) : w.ownsRow base' 5 1 v n xs :=
  ⟨h.1, h.2.imp id fun ⟨g, cap, cur, hv, hg, r⟩ => ⟨g, cap, cur, hv, Nat.le_trans hb hg, r⟩⟩
theorem load_rec {w : World} {g : Nat} {v0 v1 v2 : Value} (h : w.heap[g]? = some (.cells #[v0, v1, v2] 161 (0, 0))) : (loadVar 161 ⟨g, 0, none⟩).run Tryz.prog w = .ok (.agg #[v0, v1, v2]) w :=
  run_loadVar_row (P := Tryz.prog) _ g 161 161 _ (0, 0) _ h Tryz.underlying161 rfl info_record
/-- The head that a part with these numbers has. -/
def headOf (h l : List Nat) : List Nat := headL (numF (numAt h 0) (numAt h 1) (Nums.sum 0 l))
/-- Is it the head of a part of n bytes? -/
def okD (h l : List Nat) (n : Nat) : Bool := mayB (numAt h 0) (numAt h 1) n && decide (h = headOf h l)
theorem headOf_mb (a b : Nat) (la : a < 4294967296) (lb : b < 4294967296) (A : Option Addr) (n c : Nat) (l : List Nat) (w : World) (hm : mayB a b n = true) (hl : Small l) (hr : Reads w w.heap.size A n (bts l)) (hT : Tabs w) (hF : Flds w) :
    Calls Tryz.prog 170 #[.agg #[.int .i64 a, .int .i64 b, .slice A n c]] w fun e w' => ∃ v, e = .returned v ∧ Fresh w (headL (numF a b (Nums.sum 0 l))) v w' := by
  obtain ⟨rfl, ha, hb⟩ := (mayB_iff (by omega) (by omega)).1 hm
  exact headOf_any a b (by omega) (by omega) A c l w hl hr hT hF
set_option maxRecDepth 20000 in
set_option maxHeartbeats 1000000 in
theorem decode_no (A B : Option Addr) (m c n d : Nat) (h l : List Nat) (w : World) (hh : Small h) (hl : Small l) (hr : Reads w w.heap.size A m (bts h)) (hq : Reads w w.heap.size B n (bts l)) (hm : m ≤ maxLen) (hn : n ≤ maxLen) (hT : Tabs w) (hF : Flds w) (hok : okD h l n = false) :
    Calls Tryz.prog 166 #[.slice A m c, .slice B n d] w fun e w' => e = .returned (.tuple #[.agg #[.int .i64 0, .int .i64 0, .slice none 0 0], .int .i64 8]) ∧ Below w.heap.size w w' := by
  have HA := Lib.hid (fun i hi w' (hb : Below w.heap.size w w') => numberAt_any A m c h i hi w' hh ((hr.below hb).more hb.size) hm (hF.below hF.size hb))
  have HM := Lib.hid (fun w' (hb : Below w.heap.size w w') => mayBe_any (numAt h 0) (numAt h 1) B n d l w' hl ((hq.below hb).more hb.size) hn (hT.below hT.size hb) (hF.below hF.size hb))
  have H0 := Lib.hid (HA.out 0 (by decide))
  have H1 := Lib.hid (HA.out 1 (by decide))
  clear HA
  have la := numAt_lt hh 0
  have lb := numAt_lt hh 1
  unfold okD headOf at hok
  generalize numAt h 0 = a at *
  generalize numAt h 1 = b at *
  have hb0 : Below w.heap.size w (w.alloc (.cells #[.int .i64 0, .int .i64 0, .slice none 0 0] 161)) := (Below.refl _ _).alloc (Nat.le_refl _) _
  obtain ⟨q0, q1, hz, hB⟩ := two_new' w #[.int .i64 0, .int .i64 0, .slice none 0 0] #[.int .i64 a, .int .i64 b, .slice B n d] 161 161
  have Q0 := Lib.hid q0
  have Q1 := Lib.hid q1
  have HZ := Lib.hid hz
  have HB := Lib.hid hB
  have HH := Lib.hid (fun hmb w' (hb : Below w.heap.size w w') => headOf_mb a b la lb B n d l w' hmb hl ((hq.below hb).more hb.size) (hT.below hT.size hb) (hF.below hF.size hb))
  clear q0 q1 hz hB hT hF
  go_enter Tryz.func166, Tryz.ntmps166
  go_wp2_with fail
  refine (H0.out _ hb0).mono ?_
  rintro e w1 ⟨rfl, rfl⟩
  go_wp2_with fail
  refine (H1.out _ hb0).mono ?_
  rintro e w1 ⟨rfl, rfl⟩
  clear hb0
  go_wp2_with fail
  generalize (w.alloc (.cells #[.int .i64 0, .int .i64 0, .slice none 0 0] 161)).alloc (.cells #[.int .i64 a, .int .i64 b, .slice B n d] 161) = W2 at *
  refine (HM.out W2 HB.out).mono ?_
  rintro e w3 ⟨rfl, b3⟩
  have q0 := (b3.block w.heap.size (by have := HZ.out; omega)).trans Q0.out
  have q1 := (b3.block (w.heap.size + 1) (by have := HZ.out; omega)).trans Q1.out
  have hB3 := HB.out.trans (b3.mono (by have := HZ.out; omega))
  have hz3 : w.heap.size + 1 < w3.heap.size := Nat.lt_of_lt_of_le (by have := HZ.out; omega) b3.size
  have HB3 := Lib.hid hB3
  have HZ3 := Lib.hid hz3
  clear b3 hB3 hz3 HB Q0 Q1 HZ
  cases hmb : mayB (a : Int) (b : Int) n
  · obtain ⟨k0, k1, k2, f⟩ := cells3_of q0
    have f0 := f 0
    have f1 := f 1
    have f2 := f 2
    have s0 := store3_0 q0 (.int .i64 0) (by rfl)
    have HROW := Lib.hid (put3_row q0 (.int .i64 0) (.int .i64 0) (.slice none 0 0))
    have HLV := Lib.hid (load_rec HROW.out)
    have HBE := Lib.hid (put3_below (g := w.heap.size) HB3.out (Nat.le_refl _) (.int .i64 0) (.int .i64 0) (.slice none 0 0))
    clear q0 q1 f hok
    go_wp2_with fail
    refine bodyPost_ret (results_cell2 (g := w.heap.size) Tryz.results166 rfl HLV.out rfl) rfl ?_
    exact ⟨rfl, HBE.out⟩
  · have hne : decide (h = headL (numF a b (Nums.sum 0 l))) = false := by rw [hmb, Bool.true_and] at hok; exact hok
    have HHL := Lib.hid (headL_small (numF a b (Nums.sum 0 l)))
    have HLN := Lib.hid (headL_length (numF a b (Nums.sum 0 l)))
    have HH1 := Lib.hid (HH.out hmb w3 HB3.out)
    generalize headL (numF a b (Nums.sum 0 l)) = hL at *
    have HNE := Lib.hid hne
    clear hok hne hmb HH
    obtain ⟨k0, k1, k2, _⟩ := cells3_of q1
    go_wp2_with fail
    refine HH1.out.mono ?_
    rintro e w4 ⟨v, rfl, g, rfl, hg, hrow, b4⟩
    have q2 := Lib.hid ((b4.block w.heap.size (Nat.lt_of_succ_lt HZ3.out)).trans q0)
    have HB4 := Lib.hid (HB3.out.trans (b4.mono (Nat.le_of_lt (Nat.lt_of_succ_lt HZ3.out))))
    have hlt : g < w4.heap.size := (Array.getElem?_eq_some_iff.1 hrow).1
    have hr4 := (hr.below HB4.out).more HB4.out.size
    have hr5 : Reads w4 w4.heap.size (some ⟨g, 0, none⟩) 128 (bts hL) := by
      refine ⟨by rw [bts_length, HLN.out], fun _ => ⟨_, rfl, hlt, fun j u hu => ?_⟩⟩
      have e : (⟨g, 0, none⟩ : Addr).add j = ⟨g, j, none⟩ := by unfold Addr.add; split <;> simp_all
      rw [e, cell_of_row _ _ j _ _ _ hrow, List.getElem?_toArray]
      exact hu
    have HE := Lib.hid (equal_any A (some ⟨g, 0, none⟩) m c 128 128 h hL w4 hh HHL.out hr4 hr5)
    rw [HNE.out] at HE
    clear k0 k1 k2 q1 q0 b4 hr4 hr5 hrow hlt hr hq
    go_wp2_with fail
    refine HE.out.mono ?_
    rintro e w5 ⟨rfl, rfl⟩
    have q0 := q2.out
    obtain ⟨k0, k1, k2, f⟩ := cells3_of q0
    have f0 := f 0
    have f1 := f 1
    have f2 := f 2
    have s0 := store3_0 q0 (.int .i64 0) (by rfl)
    have HROW := Lib.hid (put3_row q0 (.int .i64 0) (.int .i64 0) (.slice none 0 0))
    have HLV := Lib.hid (load_rec HROW.out)
    have HBE := Lib.hid (put3_below (g := w.heap.size) HB4.out (Nat.le_refl _) (.int .i64 0) (.int .i64 0) (.slice none 0 0))
    clear q0 f
    go_wp2_with fail
    refine bodyPost_ret (results_cell2 (g := w.heap.size) Tryz.results166 rfl HLV.out rfl) rfl ?_
    exact ⟨rfl, HBE.out⟩
set_option maxRecDepth 20000 in
set_option maxHeartbeats 1000000 in
theorem decode_yes (A : Option Addr) (ad : Addr) (m c d : Nat) (h l : List Nat) (w : World) (hh : Small h) (hl : Small l) (hr : Reads w w.heap.size A m (bts h)) (hq : Reads w w.heap.size (some ad) 128 (bts l)) (hm : m ≤ maxLen) (hT : Tabs w) (hF : Flds w) (hok : okD h l 128 = true) :
    Calls Tryz.prog 166 #[.slice A m c, .slice (some ad) 128 d] w fun e w' => ∃ v, e = .returned (.tuple #[.agg #[.int .i64 (numAt h 0 : Nat), .int .i64 (numAt h 1 : Nat), v], .int .i64 0]) ∧ w'.ownsRow w.heap.size 5 1 v 128 (bts l) ∧ Below w.heap.size w w' := by
  have HA := Lib.hid (fun i hi w' (hb : Below w.heap.size w w') => numberAt_any A m c h i hi w' hh ((hr.below hb).more hb.size) hm (hF.below hF.size hb))
  have HM := Lib.hid (fun w' (hb : Below w.heap.size w w') => mayBe_any (numAt h 0) (numAt h 1) (some ad) 128 d l w' hl ((hq.below hb).more hb.size) (by decide) (hT.below hT.size hb) (hF.below hF.size hb))
  have H0 := Lib.hid (HA.out 0 (by decide))
  have H1 := Lib.hid (HA.out 1 (by decide))
  clear HA
  have la := numAt_lt hh 0
  have lb := numAt_lt hh 1
  unfold okD headOf at hok
  generalize numAt h 0 = a at *
  generalize numAt h 1 = b at *
  have hb0 : Below w.heap.size w (w.alloc (.cells #[.int .i64 0, .int .i64 0, .slice none 0 0] 161)) := (Below.refl _ _).alloc (Nat.le_refl _) _
  obtain ⟨q0, q1, hz, hB⟩ := two_new' w #[.int .i64 0, .int .i64 0, .slice none 0 0] #[.int .i64 a, .int .i64 b, .slice (some ad) 128 d] 161 161
  have Q0 := Lib.hid q0
  have Q1 := Lib.hid q1
  have HZ := Lib.hid hz
  have HB := Lib.hid hB
  have HH := Lib.hid (fun hmb w' (hb : Below w.heap.size w w') => headOf_mb a b la lb (some ad) 128 d l w' hmb hl ((hq.below hb).more hb.size) (hT.below hT.size hb) (hF.below hF.size hb))
  clear q0 q1 hz hB hT hF
  go_enter Tryz.func166, Tryz.ntmps166
  go_wp2_with fail
  refine (H0.out _ hb0).mono ?_
  rintro e w1 ⟨rfl, rfl⟩
  go_wp2_with fail
  refine (H1.out _ hb0).mono ?_
  rintro e w1 ⟨rfl, rfl⟩
  clear hb0
  go_wp2_with fail
  generalize (w.alloc (.cells #[.int .i64 0, .int .i64 0, .slice none 0 0] 161)).alloc (.cells #[.int .i64 a, .int .i64 b, .slice (some ad) 128 d] 161) = W2 at *
  refine (HM.out W2 HB.out).mono ?_
  rintro e w3 ⟨rfl, b3⟩
  have q0 := (b3.block w.heap.size (by have := HZ.out; omega)).trans Q0.out
  have q1 := (b3.block (w.heap.size + 1) (by have := HZ.out; omega)).trans Q1.out
  have hB3 := HB.out.trans (b3.mono (by have := HZ.out; omega))
  have hz3 : w.heap.size + 1 < w3.heap.size := Nat.lt_of_lt_of_le (by have := HZ.out; omega) b3.size
  have HB3 := Lib.hid hB3
  have HZ3 := Lib.hid hz3
  clear b3 hB3 hz3 HB Q0 Q1 HZ
  have hmb : mayB (a : Int) (b : Int) 128 = true := (Bool.and_eq_true_iff.1 hok).1
  have hne := of_decide_eq_true (Bool.and_eq_true_iff.1 hok).2
  rw [hmb]
  have HHL := Lib.hid (headL_small (numF a b (Nums.sum 0 l)))
  have HLN := Lib.hid (headL_length (numF a b (Nums.sum 0 l)))
  have HH1 := Lib.hid (HH.out hmb w3 HB3.out)
  generalize headL (numF a b (Nums.sum 0 l)) = hL at *
  have HNE := Lib.hid hne
  clear hok hne hmb HH
  obtain ⟨k0, k1, k2, _⟩ := cells3_of q1
  go_wp2_with fail
  refine HH1.out.mono ?_
  rintro e w4 ⟨v, rfl, g, rfl, hg, hrow, b4⟩
  have q2 := (b4.block w.heap.size (Nat.lt_of_succ_lt HZ3.out)).trans q0
  have q3 := (b4.block (w.heap.size + 1) HZ3.out).trans q1
  have HB4 := Lib.hid (HB3.out.trans (b4.mono (Nat.le_of_lt (Nat.lt_of_succ_lt HZ3.out))))
  have HZ4 := Lib.hid (Nat.lt_of_lt_of_le HZ3.out b4.size)
  have hlt : g < w4.heap.size := (Array.getElem?_eq_some_iff.1 hrow).1
  have hr4 := (hr.below HB4.out).more HB4.out.size
  have hr5 : Reads w4 w4.heap.size (some ⟨g, 0, none⟩) 128 (bts hL) := by
    refine ⟨by rw [bts_length, HLN.out], fun _ => ⟨_, rfl, hlt, fun j u hu => ?_⟩⟩
    have e : (⟨g, 0, none⟩ : Addr).add j = ⟨g, j, none⟩ := by unfold Addr.add; split <;> simp_all
    rw [e, cell_of_row _ _ j _ _ _ hrow, List.getElem?_toArray]
    exact hu
  have HE := Lib.hid (equal_any A (some ⟨g, 0, none⟩) m c 128 128 h hL w4 hh HHL.out hr4 hr5)
  rw [decide_eq_true HNE.out] at HE
  have HC := Lib.hid (clone_any ad d l w4 ((hq.below HB4.out).more HB4.out.size))
  have Q2 := Lib.hid q2
  have Q3 := Lib.hid q3
  clear k0 k1 k2 q1 q0 b4 hr4 hr5 hrow hlt hr hq q2 q3
  go_wp2_with fail
  refine HE.out.mono ?_
  rintro e w5 ⟨rfl, rfl⟩
  go_wp2_with fail
  refine HC.out.mono ?_
  rintro e w6 ⟨v, rfl, own6, b6⟩
  obtain ⟨A6, c6, rfl, _, _, _⟩ := own_shape own6
  have q2 := (b6.block w.heap.size (Nat.lt_of_succ_lt HZ4.out)).trans Q2.out
  have q3 := (b6.block (w.heap.size + 1) HZ4.out).trans Q3.out
  have HB6 := Lib.hid (HB4.out.trans (b6.mono HB4.out.size))
  obtain ⟨j0, j1, j2, jf⟩ := cells3_of q3
  have j2f := jf 2
  have hne2 : w.heap.size ≠ w.heap.size + 1 := by omega
  have O7 : Sh.Only (fun b => b = w.heap.size + 1) w6 (w6.setCell ⟨w.heap.size + 1, 2, none⟩ (.slice A6 128 c6)) := (Sh.Only.refl (fun b => b = w.heap.size + 1) w6).setCell (p := ⟨w.heap.size + 1, 2, none⟩) (.inl rfl) _
  have r3 : (w6.setCell ⟨w.heap.size + 1, 2, none⟩ (.slice A6 128 c6)).heap[w.heap.size + 1]? = some (.cells #[.int .i64 a, .int .i64 b, .slice A6 128 c6] 161 (0, 0)) := cells_set (i := 2) (.slice A6 128 c6) q3
  have hz6 : w.heap.size + 1 < w6.heap.size := Nat.lt_of_lt_of_le HZ4.out b6.size
  have r2 := (O7.block w.heap.size (Nat.lt_of_succ_lt hz6) hne2).trans q2
  have hlb : ∀ x, (Value.slice A6 128 c6).ownBlock = some x → w4.heap.size ≤ x := fun x hx => (own6.lt x hx).1
  have own7 : (w6.setCell ⟨w.heap.size + 1, 2, none⟩ (.slice A6 128 c6)).ownsRow w.heap.size 5 1 (.slice A6 128 c6) 128 (bts l) :=
    own_low (Sh.same_row own6 (fun x hx => O7.block x (own6.lt x hx).2 (by have := hlb x hx; have := HZ4.out; omega))) HB4.out.size
  have B7 := HB6.out.setCell (p := ⟨w.heap.size + 1, 2, none⟩) (Nat.le_succ _) (.slice A6 128 c6)
  have s1 := store3_0 r2 (.int .i64 (a : Int)) (by rfl)
  have O8 := put3_only (w6.setCell ⟨w.heap.size + 1, 2, none⟩ (.slice A6 128 c6)) w.heap.size (.int .i64 a) (.int .i64 b) (.slice A6 128 c6)
  have hz7 : w4.heap.size ≤ (w6.setCell ⟨w.heap.size + 1, 2, none⟩ (.slice A6 128 c6)).heap.size := Nat.le_trans b6.size O7.size
  have OWN := Lib.hid (Sh.same_row own7 (fun x hx => O8.block x ((own7.lt x hx).2) (by have := hlb x hx; have := HZ4.out; omega)))
  have HROW := Lib.hid (put3_row r2 (.int .i64 a) (.int .i64 b) (.slice A6 128 c6))
  have HLV := Lib.hid (load_rec HROW.out)
  have HBE := Lib.hid (put3_below (g := w.heap.size) B7 (Nat.le_refl _) (.int .i64 a) (.int .i64 b) (.slice A6 128 c6))
  obtain ⟨i0, i1, i2, _⟩ := cells3_of r3
  obtain ⟨k0, k1, k2, f⟩ := cells3_of r2
  have f0 := f 0
  have f1 := f 1
  have f2 := f 2
  clear jf b6 q2 q3 r2 r3 O7 O8 own6 own7 hlb B7 hz6 hz7 f
  go_wp2_with fail
  refine bodyPost_ret (results_cell2 (g := w.heap.size) Tryz.results166 rfl HLV.out rfl) rfl ?_
  exact ⟨_, rfl, OWN.out, HBE.out⟩
end Go.Proofs.YtplbgjjacomceaaGreatDoor.U
namespace Go.Proofs.YtplbgjjacomceaaGreatDoor.U
open Go.RowKit Go.Maps

end Go.Proofs.YtplbgjjacomceaaGreatDoor.U
namespace Go.Proofs.YtplbgjjacomceaaGreatDoor.U
open Go.RowKit Go.Maps

theorem heap_alloc_last (w : World) (o : Obj) : (w.alloc o).heap[w.heap.size]? = some o := by
  show (w.heap.push o)[w.heap.size]? = some o
  simp
theorem add_plain (g o j : Nat) : (⟨g, o, none⟩ : Addr).add j = ⟨g, o + j, none⟩ := by unfold Addr.add; split <;> simp_all
theorem reads_onto {w : World} {base : Nat} {g n m cc : Nat} {ad : Addr} {l k : List Nat} (ty : TypeId) (i : TypeInfo) (hi : Tryz.prog.info? 5 = some i) (hz : i.zero = some (.int .u8 0)) (hsz : i.size = 1) (hby : i.bytes = 1)
    (hl : l.length = n) (hk : k.length = m) (hr : ∀ j v, (bts l)[j]? = some v → w.cell? ⟨g, j, none⟩ = some v) (hr2 : ∀ j v, (bts k)[j]? = some v → w.cell? (ad.add j) = some v) (hm : 0 < m) (hb : n + m ≤ 1000) (hbase : base ≤ w.heap.size) :
    ∃ v' w', (Builtin.append_ #[45, 45] ty #[.slice (some ⟨g, 0, none⟩) n n, .slice (some ad) m cc]).run Tryz.prog w = .ok v' w' ∧ w'.ownsRow base 5 1 v' (n + m) (bts (l ++ k)) ∧ Below base w w' := by
  have hs : Src Tryz.prog i.size 45 (.slice (some ad) m cc) m (bts k) w := by
    rw [hsz]
    exact Src.ofSlice w Tryz.underlying45 ad m cc _ (by rw [bts_length, hk, Nat.mul_one]) hr2 (bts_one k)
  have hold : (Builtin.firstCells i.size n (.slice (some ⟨g, 0, none⟩) n n)).run Tryz.prog w.drew = .ok (bts l).toArray w.drew := by
    rw [hsz]
    refine run_firstCells_some w.drew 1 n ⟨g, 0, none⟩ n n (bts l) (by rw [bts_length, hl, Nat.mul_one]) (fun j v hv => ?_)
    rw [add_plain, Nat.zero_add]
    exact hr j v hv
  have hg := grownCap_ge w (n + m) n 5
  have hg2 := grownCap_le_maxLen w (n + m) n 5 (by unfold maxLen; omega)
  have hrun := run_append_grow_src w 45 45 ty 5 i _ Tryz.underlying45 hi hz (some ⟨g, 0, none⟩) n n (bts l) hold _ m _ hs (by omega) (by omega) (by rw [hby]; have := nextslicecap_le (need := n + m) (old := n) (by omega); omega)
  refine ⟨_, _, hrun, ?_, ?_⟩
  · generalize grownCap w (n + m) n 5 = G at *
    have hlen : (bts (l ++ k)).length = n + m := by rw [bts_length, List.length_append, hl, hk]
    have hz2 : (Builtin.zeroCells (Value.int .u8 0).cells (G - (n + m))).size = G - (n + m) := by
      have h1 : (Value.int .u8 0).cells.size = 1 := rfl
      simp [Builtin.zeroCells, h1]
    rw [← bts_append]
    refine ⟨by omega, .inr ⟨w.heap.size, G, _, rfl, hbase, heap_alloc_new w.drew _, hg, hg2, ?_, ?_⟩⟩
    · rw [Array.size_append, hz2, List.size_toArray, hlen]; omega
    · rw [Array.toList_append, Nat.mul_one, List.take_append_of_le_length (by simp [hlen]), List.take_of_length_le (by simp [hlen])]
  · exact ((Below.refl base w).drew).alloc (by simpa using hbase) _
theorem appendFirst {ops : Array Oper} {rest : List Oper} {o : Oper} {a : Act} {Q : Exit → Act → World → Prop} (w : World) (hgd : o.guard = none) (s x : Operand)
    (ho : o.op = .call { callee := .builtin .append, args := #[s, x], argTypes := #[45, 45] }) (u y v' : Value) (w' : World) (hs : a.eval s = u) (hx : a.eval x = y)
    (hrun : (Builtin.append_ #[45, 45] o.type #[u, y]).run Tryz.prog w = .ok v' w') (h : wpList Tryz.prog ops Q rest (a.put o.dst v') w') : wpList Tryz.prog ops Q (o :: rest) a w := by
  refine wpList_plain hgd fun K hK => ?_
  unfold Oper.wp execOp
  simp only [ho, resolve, invoke, builtin, Sem.run_bind, Sem.run_pure, Result.andThen_ok, List.map_toArray, List.map_cons, List.map_nil, hs, hx, hrun]
  exact hK _ _ h
def lenV (v : Value) : Nat := match v with | .slice _ n _ => n | _ => 0
theorem own_below {w w1 : World} {base n : Nat} {v : Value} {xs : List Value} (h : w.ownsRow base 5 1 v n xs) (hb : Below w.heap.size w w1) : w1.ownsRow base 5 1 v n xs :=
  Sh.same_row h (fun b hb2 => hb.block b (h.lt b hb2).2)
end Go.Proofs.YtplbgjjacomceaaGreatDoor.U
namespace Go.Proofs.YtplbgjjacomceaaGreatDoor.U
open Go.RowKit Go.Maps

/-- What Decode tells. -/
def DecIs (ok : Bool) (a b n : Nat) (l : List Nat) (w : World) (e : Ending) (w' : World) : Prop :=
  (ok = false ∧ e = .returned (.tuple #[.agg #[.int .i64 0, .int .i64 0, .slice none 0 0], .int .i64 8]) ∧ Below w.heap.size w w') ∨
  (ok = true ∧ ∃ v, e = .returned (.tuple #[.agg #[.int .i64 a, .int .i64 b, v], .int .i64 0]) ∧ w'.ownsRow w.heap.size 5 1 v n (bts l) ∧ Below w.heap.size w w')
section
variable (A B : Option Addr) (m c n d : Nat) (h l : List Nat) (w : World)
theorem okD_len {m : Nat} (hr : Reads w w.heap.size A m (bts h)) (hm : m ≠ 128) : okD h l n = false := by
  unfold okD headOf
  have : decide (h = headL (numF (numAt h 0) (numAt h 1) (Nums.sum 0 l))) = false := by
    rw [decide_eq_false_iff_not]
    intro e
    have h1 := congrArg List.length e
    rw [headL_length, hr.len] at h1
    exact hm h1
  rw [this, Bool.and_false]
theorem decode_any (hh : Small h) (hl : Small l) (hr : Reads w w.heap.size A m (bts h)) (hq : Reads w w.heap.size B n (bts l)) (hm : m ≤ maxLen) (hn : n ≤ maxLen) (hT : Tabs w) (hF : Flds w) :
    Calls Tryz.prog 166 #[.slice A m c, .slice B n d] w (DecIs (okD h l n) (numAt h 0) (numAt h 1) n l w) := by
  cases hok : okD h l n
  · refine (decode_no A B m c n d h l w hh hl hr hq hm hn hT hF hok).mono ?_
    rintro e w' ⟨rfl, hb⟩
    exact .inl ⟨rfl, rfl, hb⟩
  · have la := numAt_lt hh 0
    have lb := numAt_lt hh 1
    have hmb : mayB (numAt h 0) (numAt h 1) n = true := (Bool.and_eq_true_iff.1 hok).1
    obtain ⟨rfl, _, _⟩ := (mayB_iff (by omega) (by omega)).1 hmb
    obtain ⟨ad, rfl, _, _⟩ := hq.2 (by decide)
    refine (decode_yes A ad m c d h l w hh hl hr hq hm hT hF hok).mono ?_
    rintro e w' ⟨v, rfl, h1, h2⟩
    exact .inr ⟨rfl, v, rfl, h1, h2⟩
end
end Go.Proofs.YtplbgjjacomceaaGreatDoor.U
