/-
  ppl: Decode, the definition.
  Conditions: each theorem's own.
-/
import Derived.Test.YtohdieddocogkaaDoorQk
import Derived.Lib.SlBytesConst
namespace Go.Proofs.YtohdieddocogkaaDoor.U
open Go.RowKit Go.Maps

theorem cells_set {w : World} {b i : Nat} {c : Array Value} {t : TypeId} (v : Value) (h : w.heap[b]? = some (.cells c t (0, 0))) : (w.setCell ⟨b, i, none⟩ v).heap[b]? = some (.cells (c.setIfInBounds i v) t (0, 0)) := heap_setCell_same w b i c t v h
/-- A record is stored, cell by cell. -/
noncomputable def put3 (w : World) (g : Nat) (a0 a1 a2 : Value) : World := ((w.setCell ⟨g, 0, none⟩ a0).setCell ⟨g, 1, none⟩ a1).setCell ⟨g, 2, none⟩ a2
theorem put3_row {w : World} {g : Nat} {t : TypeId} {v0 v1 v2 : Value} (h : w.heap[g]? = some (.cells #[v0, v1, v2] t (0, 0))) (a0 a1 a2 : Value) :
    (put3 w g a0 a1 a2).heap[g]? = some (.cells #[a0, a1, a2] t (0, 0)) := by
  have h0 : (w.setCell ⟨g, 0, none⟩ a0).heap[g]? = some (.cells #[a0, v1, v2] t (0, 0)) := cells_set (i := 0) a0 h
  have h1 : ((w.setCell ⟨g, 0, none⟩ a0).setCell ⟨g, 1, none⟩ a1).heap[g]? = some (.cells #[a0, a1, v2] t (0, 0)) := cells_set (i := 1) a1 h0
  exact cells_set (i := 2) a2 h1
theorem put3_below {B : Nat} {w0 w : World} {g : Nat} (h : Below B w0 w) (hg : B ≤ g) (a0 a1 a2 : Value) : Below B w0 (put3 w g a0 a1 a2) :=
  ((h.setCell (p := ⟨g, 0, none⟩) hg a0).setCell (p := ⟨g, 1, none⟩) hg a1).setCell (p := ⟨g, 2, none⟩) hg a2
theorem put3_only (w : World) (g : Nat) (a0 a1 a2 : Value) : Sh.Only (fun b => b = g) w (put3 w g a0 a1 a2) :=
  (((Sh.Only.refl (fun b => b = g) w).setCell (p := ⟨g, 0, none⟩) (.inl rfl) a0).setCell (p := ⟨g, 1, none⟩) (.inl rfl) a1).setCell (p := ⟨g, 2, none⟩) (.inl rfl) a2
theorem store3_0 {w : World} {g : Nat} {t : TypeId} {v0 v1 v2 : Value} (h : w.heap[g]? = some (.cells #[v0, v1, v2] t (0, 0))) (a : Value) (ha : a.oneCell' = true) :
    (store ⟨g, 0, none⟩ a).run Tryd.prog w = .ok () (w.setCell ⟨g, 0, none⟩ a) := by
  obtain ⟨k0, _, _, f⟩ := cells3_of h
  rw [run_store _ _ _ _ _ ha, k0]
  simp only [f 0]
  rfl
theorem own_low {w : World} {base base' n : Nat} {v : Value} {xs : List Value} (h : w.ownsRow base 5 1 v n xs) (hb : base' ≤ base) : w.ownsRow base' 5 1 v n xs :=
  ⟨h.1, h.2.imp id fun ⟨g, cap, cur, hv, hg, r⟩ => ⟨g, cap, cur, hv, Nat.le_trans hb hg, r⟩⟩
theorem load_rec {w : World} {g : Nat} {v0 v1 v2 : Value} (h : w.heap[g]? = some (.cells #[v0, v1, v2] 24 (0, 0))) : (loadVar 24 ⟨g, 0, none⟩).run Tryd.prog w = .ok (.agg #[v0, v1, v2]) w :=
  run_loadVar_row (P := Tryd.prog) _ g 24 24 _ (0, 0) _ h Tryd.underlying24 rfl info_record
/-- The head that a part with these numbers has. -/
def headOf (h l : List Nat) : List Nat := headL (numF (numAt h 0) (numAt h 1) (Nums.sum 0 l))
/-- Is it the head of a part of n bytes? -/
def okD (h l : List Nat) (n : Nat) : Bool := mayB (numAt h 0) (numAt h 1) n && decide (h = headOf h l)
theorem headOf_mb (a b : Nat) (la : a < 4294967296) (lb : b < 4294967296) (A : Option Addr) (n c : Nat) (l : List Nat) (w : World) (hm : mayB a b n = true) (hl : Small l) (hr : Reads w w.heap.size A n (bts l)) (hT : Tabs w) (hF : Flds w) :
    Calls Tryd.prog 32 #[.agg #[.int .i64 a, .int .i64 b, .slice A n c]] w fun e w' => ∃ v, e = .returned v ∧ Fresh w (headL (numF a b (Nums.sum 0 l))) v w' := by
  obtain ⟨rfl, ha, hb⟩ := (mayB_iff (by omega) (by omega)).1 hm
  exact headOf_any a b (by omega) (by omega) A c l w hl hr hT hF
set_option maxRecDepth 20000 in
set_option maxHeartbeats 1000000 in
theorem decode_no (A B : Option Addr) (m c n d : Nat) (h l : List Nat) (w : World) (hh : Small h) (hl : Small l) (hr : Reads w w.heap.size A m (bts h)) (hq : Reads w w.heap.size B n (bts l)) (hm : m ≤ maxLen) (hn : n ≤ maxLen) (hT : Tabs w) (hF : Flds w) (hok : okD h l n = false) :
    Calls Tryd.prog 12 #[.slice A m c, .slice B n d] w fun e w' => e = .returned (.tuple #[.agg #[.int .i64 0, .int .i64 0, .slice none 0 0], .int .i64 8]) ∧ Below w.heap.size w w' := by
  have HA := Lib.hid (fun i hi w' (hb : Below w.heap.size w w') => numberAt_any A m c h i hi w' hh ((hr.below hb).more hb.size) hm (hF.below hF.size hb))
  have HM := Lib.hid (fun w' (hb : Below w.heap.size w w') => mayBe_any (numAt h 0) (numAt h 1) B n d l w' hl ((hq.below hb).more hb.size) hn (hT.below hT.size hb) (hF.below hF.size hb))
  have H0 := Lib.hid (HA.out 0 (by decide))
  have H1 := Lib.hid (HA.out 1 (by decide))
  clear HA
  have la := numAt_lt hh 0
  have lb := numAt_lt hh 1
  unfold okD headOf at hok
  generalize numAt h 0 = a at *
  generalize numAt h 1 = b at *
  have hb0 : Below w.heap.size w (w.alloc (.cells #[.int .i64 0, .int .i64 0, .slice none 0 0] 24)) := (Below.refl _ _).alloc (Nat.le_refl _) _
  obtain ⟨q0, q1, hz, hB⟩ := two_new' w #[.int .i64 0, .int .i64 0, .slice none 0 0] #[.int .i64 a, .int .i64 b, .slice B n d] 24 24
  have Q0 := Lib.hid q0
  have Q1 := Lib.hid q1
  have HZ := Lib.hid hz
  have HB := Lib.hid hB
  have HH := Lib.hid (fun hmb w' (hb : Below w.heap.size w w') => headOf_mb a b la lb B n d l w' hmb hl ((hq.below hb).more hb.size) (hT.below hT.size hb) (hF.below hF.size hb))
  clear q0 q1 hz hB hT hF
  go_enter Tryd.func12, Tryd.ntmps12
  go_wp2_with fail
  refine (H0.out _ hb0).mono ?_
  rintro e w1 ⟨rfl, rfl⟩
  go_wp2_with fail
  refine (H1.out _ hb0).mono ?_
  rintro e w1 ⟨rfl, rfl⟩
  clear hb0
  go_wp2_with fail
  generalize (w.alloc (.cells #[.int .i64 0, .int .i64 0, .slice none 0 0] 24)).alloc (.cells #[.int .i64 a, .int .i64 b, .slice B n d] 24) = W2 at *
  refine (HM.out W2 HB.out).mono ?_
  rintro e w3 ⟨rfl, b3⟩
  have q0 := (b3.block w.heap.size (by have := HZ.out; omega)).trans Q0.out
  have q1 := (b3.block (w.heap.size + 1) (by have := HZ.out; omega)).trans Q1.out
  have hB3 := HB.out.trans (b3.mono (by have := HZ.out; omega))
  have hz3 : w.heap.size + 1 < w3.heap.size := Nat.lt_of_lt_of_le (by have := HZ.out; omega) b3.size
  have HB3 := Lib.hid hB3
  have HZ3 := Lib.hid hz3
  clear b3 hB3 hz3 HB Q0 Q1 HZ
  cases hmb : mayB (a : Int) (b : Int) n
  · obtain ⟨k0, k1, k2, f⟩ := cells3_of q0
    have f0 := f 0
    have f1 := f 1
    have f2 := f 2
    have s0 := store3_0 q0 (.int .i64 0) (by rfl)
    have HROW := Lib.hid (put3_row q0 (.int .i64 0) (.int .i64 0) (.slice none 0 0))
    have HLV := Lib.hid (load_rec HROW.out)
    have HBE := Lib.hid (put3_below (g := w.heap.size) HB3.out (Nat.le_refl _) (.int .i64 0) (.int .i64 0) (.slice none 0 0))
    clear q0 q1 f hok
    go_wp2_with fail
    refine bodyPost_ret (results_cell2 (g := w.heap.size) Tryd.results12 rfl HLV.out rfl) rfl ?_
    exact ⟨rfl, HBE.out⟩
  · have hne : decide (h = headL (numF a b (Nums.sum 0 l))) = false := by rw [hmb, Bool.true_and] at hok; exact hok
    have HHL := Lib.hid (headL_small (numF a b (Nums.sum 0 l)))
    have HLN := Lib.hid (headL_length (numF a b (Nums.sum 0 l)))
    have HH1 := Lib.hid (HH.out hmb w3 HB3.out)
    generalize headL (numF a b (Nums.sum 0 l)) = hL at *
    have HNE := Lib.hid hne
    clear hok hne hmb HH
    obtain ⟨k0, k1, k2, _⟩ := cells3_of q1
    go_wp2_with fail
    refine HH1.out.mono ?_
    rintro e w4 ⟨v, rfl, g, rfl, hg, hrow, b4⟩
    have q2 := Lib.hid ((b4.block w.heap.size (Nat.lt_of_succ_lt HZ3.out)).trans q0)
    have HB4 := Lib.hid (HB3.out.trans (b4.mono (Nat.le_of_lt (Nat.lt_of_succ_lt HZ3.out))))
    have hlt : g < w4.heap.size := (Array.getElem?_eq_some_iff.1 hrow).1
    have hr4 := (hr.below HB4.out).more HB4.out.size
    have hr5 : Reads w4 w4.heap.size (some ⟨g, 0, none⟩) 128 (bts hL) := by
      refine ⟨by rw [bts_length, HLN.out], fun _ => ⟨_, rfl, hlt, fun j u hu => ?_⟩⟩
      have e : (⟨g, 0, none⟩ : Addr).add j = ⟨g, j, none⟩ := by unfold Addr.add; split <;> simp_all
      rw [e, cell_of_row _ _ j _ _ _ hrow, List.getElem?_toArray]
      exact hu
    have HE := Lib.hid (equal_any A (some ⟨g, 0, none⟩) m c 128 128 h hL w4 hh HHL.out hr4 hr5)
    rw [HNE.out] at HE
    clear k0 k1 k2 q1 q0 b4 hr4 hr5 hrow hlt hr hq
    go_wp2_with fail
    refine HE.out.mono ?_
    rintro e w5 ⟨rfl, rfl⟩
    have q0 := q2.out
    obtain ⟨k0, k1, k2, f⟩ := cells3_of q0
    have f0 := f 0
    have f1 := f 1
    have f2 := f 2
    have s0 := store3_0 q0 (.int .i64 0) (by rfl)
    have HROW := Lib.hid (put3_row q0 (.int .i64 0) (.int .i64 0) (.slice none 0 0))
    have HLV := Lib.hid (load_rec HROW.out)
    have HBE := Lib.hid (put3_below (g := w.heap.size) HB4.out (Nat.le_refl _) (.int .i64 0) (.int .i64 0) (.slice none 0 0))
    clear q0 f
    go_wp2_with fail
    refine bodyPost_ret (results_cell2 (g := w.heap.size) Tryd.results12 rfl HLV.out rfl) rfl ?_
    exact ⟨rfl, HBE.out⟩
set_option maxRecDepth 20000 in
set_option maxHeartbeats 1000000 in
theorem decode_yes (A : Option Addr) (ad : Addr) (m c d : Nat) (h l : List Nat) (w : World) (hh : Small h) (hl : Small l) (hr : Reads w w.heap.size A m (bts h)) (hq : Reads w w.heap.size (some ad) 128 (bts l)) (hm : m ≤ maxLen) (hT : Tabs w) (hF : Flds w) (hok : okD h l 128 = true) :
    Calls Tryd.prog 12 #[.slice A m c, .slice (some ad) 128 d] w fun e w' => ∃ v, e = .returned (.tuple #[.agg #[.int .i64 (numAt h 0 : Nat), .int .i64 (numAt h 1 : Nat), v], .int .i64 0]) ∧ w'.ownsRow w.heap.size 5 1 v 128 (bts l) ∧ Below w.heap.size w w' := by
  have HA := Lib.hid (fun i hi w' (hb : Below w.heap.size w w') => numberAt_any A m c h i hi w' hh ((hr.below hb).more hb.size) hm (hF.below hF.size hb))
  have HM := Lib.hid (fun w' (hb : Below w.heap.size w w') => mayBe_any (numAt h 0) (numAt h 1) (some ad) 128 d l w' hl ((hq.below hb).more hb.size) (by decide) (hT.below hT.size hb) (hF.below hF.size hb))
  have H0 := Lib.hid (HA.out 0 (by decide))
  have H1 := Lib.hid (HA.out 1 (by decide))
  clear HA
  have la := numAt_lt hh 0
  have lb := numAt_lt hh 1
  unfold okD headOf at hok
  generalize numAt h 0 = a at *
  generalize numAt h 1 = b at *
  have hb0 : Below w.heap.size w (w.alloc (.cells #[.int .i64 0, .int .i64 0, .slice none 0 0] 24)) := (Below.refl _ _).alloc (Nat.le_refl _) _
  obtain ⟨q0, q1, hz, hB⟩ := two_new' w #[.int .i64 0, .int .i64 0, .slice none 0 0] #[.int .i64 a, .int .i64 b, .slice (some ad) 128 d] 24 24
  have Q0 := Lib.hid q0
  have Q1 := Lib.hid q1
  have HZ := Lib.hid hz
  have HB := Lib.hid hB
  have HH := Lib.hid (fun hmb w' (hb : Below w.heap.size w w') => headOf_mb a b la lb (some ad) 128 d l w' hmb hl ((hq.below hb).more hb.size) (hT.below hT.size hb) (hF.below hF.size hb))
  clear q0 q1 hz hB hT hF
  go_enter Tryd.func12, Tryd.ntmps12
  go_wp2_with fail
  refine (H0.out _ hb0).mono ?_
  rintro e w1 ⟨rfl, rfl⟩
  go_wp2_with fail
  refine (H1.out _ hb0).mono ?_
  rintro e w1 ⟨rfl, rfl⟩
  clear hb0
  go_wp2_with fail
  generalize (w.alloc (.cells #[.int .i64 0, .int .i64 0, .slice none 0 0] 24)).alloc (.cells #[.int .i64 a, .int .i64 b, .slice (some ad) 128 d] 24) = W2 at *
  refine (HM.out W2 HB.out).mono ?_
  rintro e w3 ⟨rfl, b3⟩
  have q0 := (b3.block w.heap.size (by have := HZ.out; omega)).trans Q0.out
  have q1 := (b3.block (w.heap.size + 1) (by have := HZ.out; omega)).trans Q1.out
  have hB3 := HB.out.trans (b3.mono (by have := HZ.out; omega))
  have hz3 : w.heap.size + 1 < w3.heap.size := Nat.lt_of_lt_of_le (by have := HZ.out; omega) b3.size
  have HB3 := Lib.hid hB3
  have HZ3 := Lib.hid hz3
  clear b3 hB3 hz3 HB Q0 Q1 HZ
  have hmb : mayB (a : Int) (b : Int) 128 = true := (Bool.and_eq_true_iff.1 hok).1
  have hne := of_decide_eq_true (Bool.and_eq_true_iff.1 hok).2
  rw [hmb]
  have HHL := Lib.hid (headL_small (numF a b (Nums.sum 0 l)))
  have HLN := Lib.hid (headL_length (numF a b (Nums.sum 0 l)))
  have HH1 := Lib.hid (HH.out hmb w3 HB3.out)
  generalize headL (numF a b (Nums.sum 0 l)) = hL at *
  have HNE := Lib.hid hne
  clear hok hne hmb HH
  obtain ⟨k0, k1, k2, _⟩ := cells3_of q1
  go_wp2_with fail
  refine HH1.out.mono ?_
  rintro e w4 ⟨v, rfl, g, rfl, hg, hrow, b4⟩
  have q2 := (b4.block w.heap.size (Nat.lt_of_succ_lt HZ3.out)).trans q0
  have q3 := (b4.block (w.heap.size + 1) HZ3.out).trans q1
  have HB4 := Lib.hid (HB3.out.trans (b4.mono (Nat.le_of_lt (Nat.lt_of_succ_lt HZ3.out))))
  have HZ4 := Lib.hid (Nat.lt_of_lt_of_le HZ3.out b4.size)
  have hlt : g < w4.heap.size := (Array.getElem?_eq_some_iff.1 hrow).1
  have hr4 := (hr.below HB4.out).more HB4.out.size
  have hr5 : Reads w4 w4.heap.size (some ⟨g, 0, none⟩) 128 (bts hL) := by
    refine ⟨by rw [bts_length, HLN.out], fun _ => ⟨_, rfl, hlt, fun j u hu => ?_⟩⟩
    have e : (⟨g, 0, none⟩ : Addr).add j = ⟨g, j, none⟩ := by unfold Addr.add; split <;> simp_all
    rw [e, cell_of_row _ _ j _ _ _ hrow, List.getElem?_toArray]
    exact hu
  have HE := Lib.hid (equal_any A (some ⟨g, 0, none⟩) m c 128 128 h hL w4 hh HHL.out hr4 hr5)
  rw [decide_eq_true HNE.out] at HE
  have HC := Lib.hid (clone_any ad d l w4 ((hq.below HB4.out).more HB4.out.size))
  have Q2 := Lib.hid q2
  have Q3 := Lib.hid q3
  clear k0 k1 k2 q1 q0 b4 hr4 hr5 hrow hlt hr hq q2 q3
  go_wp2_with fail
  refine HE.out.mono ?_
  rintro e w5 ⟨rfl, rfl⟩
  go_wp2_with fail
  refine HC.out.mono ?_
  rintro e w6 ⟨v, rfl, own6, b6⟩
  obtain ⟨A6, c6, rfl, _, _, _⟩ := own_shape own6
  have q2 := (b6.block w.heap.size (Nat.lt_of_succ_lt HZ4.out)).trans Q2.out
  have q3 := (b6.block (w.heap.size + 1) HZ4.out).trans Q3.out
  have HB6 := Lib.hid (HB4.out.trans (b6.mono HB4.out.size))
  obtain ⟨j0, j1, j2, jf⟩ := cells3_of q3
  have j2f := jf 2
  have hne2 : w.heap.size ≠ w.heap.size + 1 := by omega
  have O7 : Sh.Only (fun b => b = w.heap.size + 1) w6 (w6.setCell ⟨w.heap.size + 1, 2, none⟩ (.slice A6 128 c6)) := (Sh.Only.refl (fun b => b = w.heap.size + 1) w6).setCell (p := ⟨w.heap.size + 1, 2, none⟩) (.inl rfl) _
  have r3 : (w6.setCell ⟨w.heap.size + 1, 2, none⟩ (.slice A6 128 c6)).heap[w.heap.size + 1]? = some (.cells #[.int .i64 a, .int .i64 b, .slice A6 128 c6] 24 (0, 0)) := cells_set (i := 2) (.slice A6 128 c6) q3
  have hz6 : w.heap.size + 1 < w6.heap.size := Nat.lt_of_lt_of_le HZ4.out b6.size
  have r2 := (O7.block w.heap.size (Nat.lt_of_succ_lt hz6) hne2).trans q2
  have hlb : ∀ x, (Value.slice A6 128 c6).ownBlock = some x → w4.heap.size ≤ x := fun x hx => (own6.lt x hx).1
  have own7 : (w6.setCell ⟨w.heap.size + 1, 2, none⟩ (.slice A6 128 c6)).ownsRow w.heap.size 5 1 (.slice A6 128 c6) 128 (bts l) :=
    own_low (Sh.same_row own6 (fun x hx => O7.block x (own6.lt x hx).2 (by have := hlb x hx; have := HZ4.out; omega))) HB4.out.size
  have B7 := HB6.out.setCell (p := ⟨w.heap.size + 1, 2, none⟩) (Nat.le_succ _) (.slice A6 128 c6)
  have s1 := store3_0 r2 (.int .i64 (a : Int)) (by rfl)
  have O8 := put3_only (w6.setCell ⟨w.heap.size + 1, 2, none⟩ (.slice A6 128 c6)) w.heap.size (.int .i64 a) (.int .i64 b) (.slice A6 128 c6)
  have hz7 : w4.heap.size ≤ (w6.setCell ⟨w.heap.size + 1, 2, none⟩ (.slice A6 128 c6)).heap.size := Nat.le_trans b6.size O7.size
  have OWN := Lib.hid (Sh.same_row own7 (fun x hx => O8.block x ((own7.lt x hx).2) (by have := hlb x hx; have := HZ4.out; omega)))
  have HROW := Lib.hid (put3_row r2 (.int .i64 a) (.int .i64 b) (.slice A6 128 c6))
  have HLV := Lib.hid (load_rec HROW.out)
  have HBE := Lib.hid (put3_below (g := w.heap.size) B7 (Nat.le_refl _) (.int .i64 a) (.int .i64 b) (.slice A6 128 c6))
  obtain ⟨i0, i1, i2, _⟩ := cells3_of r3
  obtain ⟨k0, k1, k2, f⟩ := cells3_of r2
  have f0 := f 0
  have f1 := f 1
  have f2 := f 2
  clear jf b6 q2 q3 r2 r3 O7 O8 own6 own7 hlb B7 hz6 hz7 f
  go_wp2_with fail
  refine bodyPost_ret (results_cell2 (g := w.heap.size) Tryd.results12 rfl HLV.out rfl) rfl ?_
  exact ⟨_, rfl, OWN.out, HBE.out⟩
end Go.Proofs.YtohdieddocogkaaDoor.U
namespace Go.Proofs.YtohdieddocogkaaDoor.U
open Go.RowKit Go.Maps

theorem four_any (x : Nat) (hx : x < 4294967296) (w : World) :
    Calls Tryd.prog 33 #[.int .i64 x] w fun e w' => ∃ ad cc, e = .returned (.slice (some ad) 4 cc) ∧ w'.ownsRow w.heap.size 5 1 (.slice (some ad) 4 cc) 4 (bts (putL x 4)) ∧ Reads w' w'.heap.size (some ad) 4 (bts (putL x 4)) ∧ Below w.heap.size w w' := by
  have q : Calls Tryd.prog 58 #[.int .u64 x, .int .i64 4] w (RefMade (putL x 4) w) := (refPut_any x 4 w (by decide) (by decide) (by omega)).mono fun e w' h => by
    unfold PutRef at h
    rwa [if_pos (show x < 2 ^ (8 * 4) from hx)] at h
  have w1 : IntKind.u32.wrap (x : Int) = x := by rw [IntKind.wrap_u32]; omega
  have w2 : IntKind.u64.wrap (x : Int) = x := by rw [IntKind.wrap_u64]; omega
  have hl := putL_length x 4
  have HQ := Lib.hid q
  have HL := Lib.hid hl
  clear q hl
  go_enter Tryd.func33, Tryd.ntmps33
  go_wp2_with fail
  refine HQ.out.mono ?_
  rintro e w1 ⟨v, rfl, hown, hb⟩
  rw [HL.out] at hown
  obtain ⟨A, c, rfl, hr, _, _⟩ := own_shape hown
  obtain ⟨ad, rfl, _, _⟩ := hr.2 (by decide)
  go_wp2
  go_ret
  exact ⟨ad, c, rfl, hown, hr, hb⟩
theorem refMay_any (s p : Int) (A : Option Addr) (n c : Nat) (w : World) (hs : -9223372036854775808 ≤ s ∧ s ≤ 9223372036854775807) (hp : -9223372036854775808 ≤ p ∧ p ≤ 9223372036854775807) (hn : n ≤ maxLen) :
    Calls Tryd.prog 16 #[.agg #[.int .i64 s, .int .i64 p, .slice A n c]] w fun e w' => e = .returned (.bool (mayB s p n)) ∧ Below w.heap.size w w' := by
  have hb0 : Below w.heap.size w (w.alloc (.cells #[.int .i64 s, .int .i64 p, .slice A n c] 24)) := (Below.refl _ _).alloc (Nat.le_refl _) _
  have HB := Lib.hid hb0
  clear hb0
  unfold maxLen at hn
  obtain ⟨k0, k1, k2, _⟩ := cells3_of (heap_alloc_new w (.cells #[.int .i64 s, .int .i64 p, .slice A n c] 24))
  have hm := mayB_iff (n := n) hs hp
  generalize mayB s p n = res at *
  by_cases h1 : 0 ≤ s
  · by_cases h2 : s ≤ 1023
    · by_cases h3 : 0 ≤ p
      · by_cases h4 : p ≤ 14
        · by_cases h5 : n = 128
          · have hr := Lib.hid (hm.2 ⟨h5, ⟨h1, h2⟩, h3, h4⟩)
            clear hm
            subst h5
            go_enter Tryd.func16, Tryd.ntmps16
            go_wp2
            go_ret
            exact ⟨by rw [hr.out]; rfl, HB.out⟩
          · have hr := Lib.hid (show res = false from by cases res; rfl; exact absurd (hm.1 rfl).1 h5)
            have h6 : ((n : Int) == 128) = false := by rw [beq_eq_false_iff_ne]; omega
            clear hm h5
            go_enter Tryd.func16, Tryd.ntmps16
            go_wp2
            go_ret
            exact ⟨by rw [hr.out]; rfl, HB.out⟩
        · have hr := Lib.hid (show res = false from by cases res; rfl; exact absurd (hm.1 rfl).2.2.2 h4)
          have h6 : decide (p ≤ 14) = false := by simpa using h4
          clear hm h4
          go_enter Tryd.func16, Tryd.ntmps16
          go_wp2
          go_ret
          exact ⟨by rw [hr.out]; rfl, HB.out⟩
      · have hr := Lib.hid (show res = false from by cases res; rfl; exact absurd (hm.1 rfl).2.2.1 h3)
        have h6 : decide (0 ≤ p) = false := by simpa using h3
        clear hm h3
        go_enter Tryd.func16, Tryd.ntmps16
        go_wp2
        go_ret
        exact ⟨by rw [hr.out]; rfl, HB.out⟩
    · have hr := Lib.hid (show res = false from by cases res; rfl; exact absurd (hm.1 rfl).2.1.2 h2)
      have h6 : decide (s ≤ 1023) = false := by simpa using h2
      clear hm h2
      go_enter Tryd.func16, Tryd.ntmps16
      go_wp2
      go_ret
      exact ⟨by rw [hr.out]; rfl, HB.out⟩
  · have hr := Lib.hid (show res = false from by cases res; rfl; exact absurd (hm.1 rfl).2.1.1 h1)
    have h6 : decide (0 ≤ s) = false := by simpa using h1
    clear hm h1
    go_enter Tryd.func16, Tryd.ntmps16
    go_wp2
    go_ret
    exact ⟨by rw [hr.out]; rfl, HB.out⟩
theorem refSame_any (s p s2 p2 : Int) (A B : Option Addr) (n c n2 c2 : Nat) (l k : List Nat) (w : World) (hl : Small l) (hk : Small k) (hr : Reads w w.heap.size A n (bts l)) (hq : Reads w w.heap.size B n2 (bts k)) :
    Calls Tryd.prog 15 #[.agg #[.int .i64 s, .int .i64 p, .slice A n c], .agg #[.int .i64 s2, .int .i64 p2, .slice B n2 c2]] w fun e w' => e = .returned (.bool (decide (s = s2 ∧ p = p2 ∧ l = k))) ∧ Below w.heap.size w w' := by
  obtain ⟨q0, q1, hz, hB⟩ := two_new' w #[.int .i64 s, .int .i64 p, .slice A n c] #[.int .i64 s2, .int .i64 p2, .slice B n2 c2] 24 24
  have h1 := Sh.run_str c (hr.below hB)
  have h2 := Sh.run_str c2 (hq.below hB)
  have he := str_eq hk hl
  have HE := Lib.hid he
  have HB := Lib.hid hB
  clear he hr hq hl hk hB hz
  obtain ⟨k0, k1, k2, _⟩ := cells3_of q0
  obtain ⟨j0, j1, j2, _⟩ := cells3_of q1
  clear q0 q1
  generalize Sh.strL l = t at *
  generalize Sh.strL k = u at *
  by_cases e1 : s = s2
  · by_cases e2 : p = p2
    · have hr : decide (s = s2 ∧ p = p2 ∧ l = k) = decide (l = k) := by simp [e1, e2]
      rw [hr]
      clear hr
      generalize decide (l = k) = res at *
      subst e1 e2
      go_enter Tryd.func15, Tryd.ntmps15
      go_wp2
      go_ret
      exact ⟨by rw [← HE.out]; rfl, HB.out⟩
    · have hr : decide (s = s2 ∧ p = p2 ∧ l = k) = false := by simp [e2]
      rw [hr]
      have h6 : (p == p2) = false := beq_eq_false_iff_ne.2 e2
      subst e1
      clear hr e2 HE
      go_enter Tryd.func15, Tryd.ntmps15
      go_wp2
      go_ret
      exact ⟨rfl, HB.out⟩
  · have hr : decide (s = s2 ∧ p = p2 ∧ l = k) = false := by simp [e1]
    rw [hr]
    have h6 : (s == s2) = false := beq_eq_false_iff_ne.2 e1
    clear hr e1 HE
    go_enter Tryd.func15, Tryd.ntmps15
    go_wp2
    go_ret
    exact ⟨rfl, HB.out⟩
end Go.Proofs.YtohdieddocogkaaDoor.U
namespace Go.Proofs.YtohdieddocogkaaDoor.U
open Go.RowKit Go.Maps

theorem heap_alloc_last (w : World) (o : Obj) : (w.alloc o).heap[w.heap.size]? = some o := by
  show (w.heap.push o)[w.heap.size]? = some o
  simp
theorem add_plain (g o j : Nat) : (⟨g, o, none⟩ : Addr).add j = ⟨g, o + j, none⟩ := by unfold Addr.add; split <;> simp_all
theorem reads_onto {w : World} {base : Nat} {g n m cc : Nat} {ad : Addr} {l k : List Nat} (ty : TypeId) (i : TypeInfo) (hi : Tryd.prog.info? 5 = some i) (hz : i.zero = some (.int .u8 0)) (hsz : i.size = 1) (hby : i.bytes = 1)
    (hl : l.length = n) (hk : k.length = m) (hr : ∀ j v, (bts l)[j]? = some v → w.cell? ⟨g, j, none⟩ = some v) (hr2 : ∀ j v, (bts k)[j]? = some v → w.cell? (ad.add j) = some v) (hm : 0 < m) (hb : n + m ≤ 1000) (hbase : base ≤ w.heap.size) :
    ∃ v' w', (Builtin.append_ #[22, 22] ty #[.slice (some ⟨g, 0, none⟩) n n, .slice (some ad) m cc]).run Tryd.prog w = .ok v' w' ∧ w'.ownsRow base 5 1 v' (n + m) (bts (l ++ k)) ∧ Below base w w' := by
  have hs : Src Tryd.prog i.size 22 (.slice (some ad) m cc) m (bts k) w := by
    rw [hsz]
    exact Src.ofSlice w Tryd.underlying22 ad m cc _ (by rw [bts_length, hk, Nat.mul_one]) hr2 (bts_one k)
  have hold : (Builtin.firstCells i.size n (.slice (some ⟨g, 0, none⟩) n n)).run Tryd.prog w.drew = .ok (bts l).toArray w.drew := by
    rw [hsz]
    refine run_firstCells_some w.drew 1 n ⟨g, 0, none⟩ n n (bts l) (by rw [bts_length, hl, Nat.mul_one]) (fun j v hv => ?_)
    rw [add_plain, Nat.zero_add]
    exact hr j v hv
  have hg := grownCap_ge w (n + m) n 5
  have hg2 := grownCap_le_maxLen w (n + m) n 5 (by unfold maxLen; omega)
  have hrun := run_append_grow_src w 22 22 ty 5 i _ Tryd.underlying22 hi hz (some ⟨g, 0, none⟩) n n (bts l) hold _ m _ hs (by omega) (by omega) (by rw [hby]; have := nextslicecap_le (need := n + m) (old := n) (by omega); omega)
  refine ⟨_, _, hrun, ?_, ?_⟩
  · generalize grownCap w (n + m) n 5 = G at *
    have hlen : (bts (l ++ k)).length = n + m := by rw [bts_length, List.length_append, hl, hk]
    have hz2 : (Builtin.zeroCells (Value.int .u8 0).cells (G - (n + m))).size = G - (n + m) := by
      have h1 : (Value.int .u8 0).cells.size = 1 := rfl
      simp [Builtin.zeroCells, h1]
    rw [← bts_append]
    refine ⟨by omega, .inr ⟨w.heap.size, G, _, rfl, hbase, heap_alloc_new w.drew _, hg, hg2, ?_, ?_⟩⟩
    · rw [Array.size_append, hz2, List.size_toArray, hlen]; omega
    · rw [Array.toList_append, Nat.mul_one, List.take_append_of_le_length (by simp [hlen]), List.take_of_length_le (by simp [hlen])]
  · exact ((Below.refl base w).drew).alloc (by simpa using hbase) _
theorem appendFirst {ops : Array Oper} {rest : List Oper} {o : Oper} {a : Act} {Q : Exit → Act → World → Prop} (w : World) (hgd : o.guard = none) (s x : Operand)
    (ho : o.op = .call { callee := .builtin .append, args := #[s, x], argTypes := #[22, 22] }) (u y v' : Value) (w' : World) (hs : a.eval s = u) (hx : a.eval x = y)
    (hrun : (Builtin.append_ #[22, 22] o.type #[u, y]).run Tryd.prog w = .ok v' w') (h : wpList Tryd.prog ops Q rest (a.put o.dst v') w') : wpList Tryd.prog ops Q (o :: rest) a w := by
  refine wpList_plain hgd fun K hK => ?_
  unfold Oper.wp execOp
  simp only [ho, resolve, invoke, builtin, Sem.run_bind, Sem.run_pure, Result.andThen_ok, List.map_toArray, List.map_cons, List.map_nil, hs, hx, hrun]
  exact hK _ _ h
def lenV (v : Value) : Nat := match v with | .slice _ n _ => n | _ => 0
theorem own_below {w w1 : World} {base n : Nat} {v : Value} {xs : List Value} (h : w.ownsRow base 5 1 v n xs) (hb : Below w.heap.size w w1) : w1.ownsRow base 5 1 v n xs :=
  Sh.same_row h (fun b hb2 => hb.block b (h.lt b hb2).2)
theorem refEncode_no (s p : Int) (A : Option Addr) (n c : Nat) (w : World) (hs : -9223372036854775808 ≤ s ∧ s ≤ 9223372036854775807) (hp : -9223372036854775808 ≤ p ∧ p ≤ 9223372036854775807) (hn : n ≤ maxLen) (hm : mayB s p n = false) :
    Calls Tryd.prog 11 #[.agg #[.int .i64 s, .int .i64 p, .slice A n c]] w fun e w' => e = .returned (.tuple #[.slice none 0 0, .int .i64 1]) ∧ Below w.heap.size w w' := by
  have HM := Lib.hid (fun w' => refMay_any s p A n c w' hs hp hn)
  rw [hm] at HM
  clear hm
  have hB0 : Below w.heap.size w (w.alloc (.cells #[.int .i64 s, .int .i64 p, .slice A n c] 24)) := (Below.refl _ _).alloc (Nat.le_refl _) _
  obtain ⟨k0, k1, k2, _⟩ := cells3_of (heap_alloc_new w (.cells #[.int .i64 s, .int .i64 p, .slice A n c] 24))
  have hz0 : w.heap.size ≤ (w.alloc (.cells #[.int .i64 s, .int .i64 p, .slice A n c] 24)).heap.size := by simp
  go_enter Tryd.func11, Tryd.ntmps11
  go_wp2_with fail
  generalize w.alloc (.cells #[.int .i64 s, .int .i64 p, .slice A n c] 24) = W0 at *
  refine (HM.out W0).mono ?_
  rintro e w1 ⟨rfl, b1⟩
  have hB1 := hB0.trans (b1.mono hz0)
  go_wp2
  go_ret2
  exact ⟨rfl, hB1⟩
set_option maxRecDepth 20000 in
set_option maxHeartbeats 2000000 in
theorem refEncode_ok (a b : Nat) (ha : a < 1024) (hb : b < 15) (A : Option Addr) (c : Nat) (l : List Nat) (w : World) (hl : Small l) (hr : Reads w w.heap.size A 128 (bts l)) :
    Calls Tryd.prog 11 #[.agg #[.int .i64 a, .int .i64 b, .slice A 128 c]] w fun e w' => ∃ v, e = .returned (.tuple #[v, .int .i64 0]) ∧ w'.ownsRow w.heap.size 5 1 v 128 (bts (headL (numF a b (Nums.sum 0 l)))) ∧ Below w.heap.size w w' := by
  obtain ⟨i0, hi, hz0, hz1, hz2⟩ := info_parts info_u8
  have HM := Lib.hid (fun w' => refMay_any a b A 128 c w' (by omega) (by omega) (by decide))
  have hm : mayB (a : Int) (b : Int) 128 = true := (mayB_iff (by omega) (by omega)).2 ⟨rfl, by omega, by omega⟩
  rw [hm] at HM
  have HC := Lib.hid (fun w' (h : Below w.heap.size w w') => refCrc_any A 128 c w'.heap.size l 0 w' (by decide) hl ((hr.below h).more h.size) (by decide))
  have hz : Nums.sum 0 l < 4294967296 := Nums.sum_lt hl (by decide)
  have HH := Lib.hid (show headL (numF a b (Nums.sum 0 l)) = bodyL (numF a b (Nums.sum 0 l)) ++ putL (Nums.sum 0 (bodyL (numF a b (Nums.sum 0 l)))) 4 from rfl)
  have HP := Lib.hid (show bodyL (numF a b (Nums.sum 0 l)) = (((signL ++ putL a 4) ++ putL b 4) ++ putL (Nums.sum 0 l) 4) ++ List.replicate 108 0 from rfl)
  have HS := Lib.hid (bodyL_small (numF a b (Nums.sum 0 l)))
  have HF := Lib.hid (four_any a (by omega))
  have HF2 := Lib.hid (four_any b (by omega))
  have HF3 := Lib.hid (four_any (Nums.sum 0 l) hz)
  have wz : IntKind.i64.wrap ((Nums.sum 0 l : Nat) : Int) = ((Nums.sum 0 l : Nat) : Int) := by rw [IntKind.wrap_i64]; omega
  generalize headL (numF a b (Nums.sum 0 l)) = hL at *
  generalize bodyL (numF a b (Nums.sum 0 l)) = bL at *
  generalize Nums.sum 0 l = z at *
  have L1 := Lib.hid (putL_length a 4)
  have L2 := Lib.hid (putL_length b 4)
  have L3 := Lib.hid (putL_length z 4)
  generalize putL a 4 = la at *
  generalize putL b 4 = lb at *
  generalize putL z 4 = lz at *
  clear hm hr hl hz
  have hB0 : Below w.heap.size w (w.alloc (.cells #[.int .i64 (a : Int), .int .i64 (b : Int), .slice A 128 c] 24)) := (Below.refl _ _).alloc (Nat.le_refl _) _
  have q0 := heap_alloc_new w (.cells #[.int .i64 (a : Int), .int .i64 (b : Int), .slice A 128 c] 24)
  have hz0' : w.heap.size + 1 = (w.alloc (.cells #[.int .i64 (a : Int), .int .i64 (b : Int), .slice A 128 c] 24)).heap.size := by simp
  obtain ⟨k0, k1, k2, _⟩ := cells3_of q0
  go_enter Tryd.func11, Tryd.ntmps11
  go_wp2_with fail
  generalize w.alloc (.cells #[.int .i64 (a : Int), .int .i64 (b : Int), .slice A 128 c] 24) = W0 at *
  refine (HM.out W0).mono ?_
  rintro e w1 ⟨rfl, b1⟩
  have hs1 : w.heap.size + 1 ≤ w1.heap.size := by have := b1.size; omega
  have kc := Lib.run_convert_bytes_const (P := Tryd.prog) w1 22 5 #[.int .u8 80, .int .u8 65, .int .u8 82, .int .u8 84] 4 4 Tryd.underlying22 Tryd.underlying5
  have r1 := (b1.block w.heap.size (by omega)).trans q0
  have hB1 := hB0.trans (b1.mono (by omega))
  have hlit0 : (w1.alloc (.cells #[.int .u8 80, .int .u8 65, .int .u8 82, .int .u8 84] 5 (4, 5))).heap[w1.heap.size]? = some (.cells #[.int .u8 80, .int .u8 65, .int .u8 82, .int .u8 84] 5 (4, 5)) := heap_alloc_last _ _
  have hb2 : Below w1.heap.size w1 (w1.alloc (.cells #[.int .u8 80, .int .u8 65, .int .u8 82, .int .u8 84] 5 (4, 5))) := (Below.refl _ _).alloc (Nat.le_refl _) _
  have r2 := (hb2.block w.heap.size (by omega)).trans r1
  have hB2 := hB1.trans (hb2.mono (by omega))
  have hz2' : (w1.alloc (.cells #[.int .u8 80, .int .u8 65, .int .u8 82, .int .u8 84] 5 (4, 5))).heap.size = w1.heap.size + 1 := by simp
  clear k0 k1 k2 q0 b1 hB0 hz0' r1 hB1
  obtain ⟨k0, k1, k2, _⟩ := cells3_of r2
  go_wp2_with fail
  generalize hW2 : w1.alloc (.cells #[.int .u8 80, .int .u8 65, .int .u8 82, .int .u8 84] 5 (4, 5)) = W2 at *
  have HW2 := Lib.hid hW2
  clear hW2 hb2
  refine (HF.out W2).mono ?_
  rintro e w3 ⟨ad3, cc3, rfl, own3, rd3, b3⟩
  have hlit : ∀ j v, (bts signL)[j]? = some v → w3.cell? ⟨w1.heap.size, j, none⟩ = some v := fun j v hv => by
    rw [b3.cell (p := ⟨w1.heap.size, j, none⟩) (show w1.heap.size < W2.heap.size by omega), cell_of_row _ _ j _ _ _ hlit0]
    exact (List.getElem?_toArray (xs := bts signL)).trans hv
  obtain ⟨_, e3, _, hc3⟩ := rd3.2 (by decide)
  injection e3 with e3
  subst e3
  have hB3 := hB2.trans (b3.mono (by omega))
  have r3 := (b3.block w.heap.size (by omega)).trans r2
  have hs3 : w.heap.size + 1 ≤ w3.heap.size := by have := b3.size; omega
  obtain ⟨v4, w4, hrun4, own4, b4⟩ := reads_onto (base := w.heap.size + 1) (n := 4) (m := 4) (cc := cc3) 22 i0 hi hz0 hz1 hz2 (l := signL) (k := la) rfl L1.out hlit hc3 (by decide) (by decide) hs3
  have hB4 := hB3.trans (b4.mono (Nat.le_succ _))
  have r4 := (b4.block w.heap.size (Nat.lt_succ_self _)).trans r3
  have hs4 := Nat.le_trans hs3 b4.size
  clear k0 k1 k2 r2 hB2 hs1 b3 own3 rd3 hc3 hlit hlit0 kc r3 hB3 b4 hz2'
  obtain ⟨A4, c4, rfl, _, _, _⟩ := own_shape own4
  obtain ⟨k0, k1, k2, _⟩ := cells3_of r4
  go_wp2_with (at_builtin; refine appendFirst _ rfl _ _ rfl _ _ _ w4 rfl rfl hrun4 ?_)
  refine (HF2.out w4).mono ?_
  rintro e w5 ⟨ad5, cc5, rfl, own5, rd5, b5⟩
  have own4' := own_below own4 b5
  have hB5 := hB4.trans (b5.mono (by omega))
  have hb5 : Below (w.heap.size + 1) w4 w5 := b5.mono hs4
  have r5 := (b5.block w.heap.size (by omega)).trans r4
  have hs5 := Nat.le_trans hs4 b5.size
  have R4 := Lib.hid r4
  clear k0 k1 k2 r4 b5 own5 own4 hrun4
  obtain ⟨k0, k1, k2, _⟩ := cells3_of r5
  go_wp2_with (at_builtin; refine appendAll _ rfl _ _ 22 rfl (w.heap.size + 1) 5 i0 (.int .u8 0) 1 Tryd.underlying22 hi hz0 hz1 hz2 rfl _ 8 (bts (signL ++ la)) rfl own4' _ _ 4 cc5 (bts lb) rfl rd5 (bts_one _) (by decide) (by decide) w4 hb5 hs5 ?_; intro v6 w6 own6 _ b6; have r6 := (b6.block w.heap.size (Nat.lt_succ_self _)).trans R4.out; obtain ⟨k0, k1, k2, _⟩ := cells3_of r6; rw [← bts_append] at own6; obtain ⟨A6, c6, rfl, _, _, _⟩ := own_shape own6)
  have hB6 := hB4.trans (b6.mono (Nat.le_succ _))
  have hs6 : w.heap.size + 1 ≤ w6.heap.size := Nat.le_trans hs4 b6.size
  clear k0 k1 k2 r5 own4' rd5 hB5 hb5 hs5 r6 hB4 R4
  refine (HC.out w6 hB6).mono ?_
  rintro e w7 ⟨rfl, rfl⟩
  go_wp2_with fail
  refine (HF3.out w6).mono ?_
  rintro e w7 ⟨ad7, cc7, rfl, own7, rd7, b7⟩
  have own6' := own_below own6 b7
  have hB7 := hB6.trans (b7.mono (by omega))
  have hb7 : Below (w.heap.size + 1) w6 w7 := b7.mono hs6
  have hs7 := Nat.le_trans hs6 b7.size
  clear k0 k1 k2 b7 own7 own6
  go_wp2_with (at_builtin; refine appendAll _ rfl _ _ 22 rfl (w.heap.size + 1) 5 i0 (.int .u8 0) 1 Tryd.underlying22 hi hz0 hz1 hz2 rfl _ 12 (bts ((signL ++ la) ++ lb)) rfl own6' _ _ 4 cc7 (bts lz) rfl rd7 (bts_one _) (by decide) (by decide) w6 hb7 hs7 ?_; intro v8 w8 own8 _ b8; rw [← bts_append] at own8; obtain ⟨A8, c8, rfl, _, _, _⟩ := own_shape own8)
  have hB8 := hB6.trans (b8.mono (Nat.le_succ _))
  have hs8 : w.heap.size + 1 ≤ w8.heap.size := Nat.le_trans hs6 b8.size
  generalize ((signL ++ la) ++ lb) ++ lz = lp at *
  clear own6' rd7 hB7 hb7 hs7 hB6 hs6 L1 L2 L3 HF HF2 HF3 HC HM b8 wz
  go_loopw [4] (fun s4 wr => ∃ k : Nat, 16 ≤ k ∧ k ≤ 124 ∧ wr.ownsRow (w.heap.size + 1) 5 1 s4 k (bts (lp ++ List.replicate (k - 16) 0)) ∧ Below (w.heap.size + 1) w8 wr) (fun s4 _ => 124 - lenV s4)
  case atStart => exact ⟨16, by decide, by decide, by simpa using own8, Below.refl _ _⟩
  case round =>
    obtain ⟨k, hk1, hk2, hown, hbr⟩ := hrel
    have hsz : w.heap.size + 1 ≤ wr.heap.size := Nat.le_trans hs8 hbr.size
    obtain ⟨A, c, rfl, hrd, hkc, hcm⟩ := own_shape hown
    by_cases hlt : k < 124
    · have hd : decide ((k : Int) < 124) = true := by simp; omega
      have hrep : bts (lp ++ List.replicate (k - 16) 0) ++ [.int .u8 0] = bts (lp ++ List.replicate (k + 1 - 16) 0) := by
        rw [show k + 1 - 16 = (k - 16) + 1 by omega, List.replicate_succ', ← List.append_assoc, bts_append (lp ++ _)]
        rfl
      have Hrep := Lib.hid hrep
      clear hrep
      go_wp2_with (at_builtin; refine append1 rfl _ _ 22 rfl (w.heap.size + 1) 5 i0 (.int .u8 0) 1 Tryd.underlying22 hi hz0 hz1 hz2 rfl _ k _ rfl (.int .u8 0) rfl rfl (by exact hown) (by unfold maxLen; omega) (by omega) w8 hbr (by omega) ?_; intro v' w11 hown1 hbel1)
      rw [Hrep.out] at hown1
      obtain ⟨A3, c3, rfl, _, _, _⟩ := own_shape hown1
      go_roundw
      case rel => exact ⟨k + 1, by omega, by omega, hown1, hbel1⟩
      case measure => simp [lenV]; omega
    · obtain rfl : k = 124 := by omega
      have hl : lp ++ List.replicate (124 - 16) 0 = bL := HP.out.symm
      rw [hl] at hown hrd
      have hs32 : Nums.sum 0 bL < 4294967296 := Nums.sum_lt HS.out (by decide)
      have qc := refCrc_any A 124 c wr.heap.size bL 0 wr (by decide) HS.out hrd (by decide)
      have wS : IntKind.i64.wrap ((Nums.sum 0 bL : Nat) : Int) = ((Nums.sum 0 bL : Nat) : Int) := by rw [IntKind.wrap_i64]; omega
      generalize hS : Nums.sum 0 bL = S at *
      have qp := four_any S hs32
      have hbb := hB8.trans (hbr.mono (Nat.le_succ _))
      have HLE := Lib.hid HH.out
      clear hl hrd hS HH hs32
      go_wp2_with fail
      refine qc.mono ?_
      rintro e w11 ⟨rfl, rfl⟩
      go_wp2_with fail
      refine (qp wr).mono ?_
      rintro e w12 ⟨ad12, cc12, rfl, _, rd12, b12⟩
      have own12 := own_below hown b12
      have hb12 : Below (w.heap.size + 1) wr w12 := b12.mono hsz
      have hs12 := Nat.le_trans hsz b12.size
      clear hown b12
      go_wp2_with (at_builtin; refine appendAll _ rfl _ _ 22 rfl (w.heap.size + 1) 5 i0 (.int .u8 0) 1 Tryd.underlying22 hi hz0 hz1 hz2 rfl _ 124 (bts bL) rfl own12 _ _ 4 cc12 (bts (putL S 4)) rfl rd12 (bts_one _) (by decide) (by decide) wr hb12 hs12 ?_; intro v13 w13 own13 _ b13; rw [← bts_append] at own13; obtain ⟨A13, c13, rfl, _, _, _⟩ := own_shape own13)
      go_ret2
      exact ⟨_, rfl, by rw [HLE.out]; exact own_low own13 (Nat.le_succ _), hbb.trans (b13.mono (Nat.le_succ _))⟩
end Go.Proofs.YtohdieddocogkaaDoor.U
namespace Go.Proofs.YtohdieddocogkaaDoor.U
open Go.RowKit Go.Maps

/-- What Decode tells. -/
def DecIs (ok : Bool) (a b n : Nat) (l : List Nat) (w : World) (e : Ending) (w' : World) : Prop :=
  (ok = false ∧ e = .returned (.tuple #[.agg #[.int .i64 0, .int .i64 0, .slice none 0 0], .int .i64 8]) ∧ Below w.heap.size w w') ∨
  (ok = true ∧ ∃ v, e = .returned (.tuple #[.agg #[.int .i64 a, .int .i64 b, v], .int .i64 0]) ∧ w'.ownsRow w.heap.size 5 1 v n (bts l) ∧ Below w.heap.size w w')
section
variable (A B : Option Addr) (m c n d : Nat) (h l : List Nat) (w : World)
set_option maxRecDepth 20000 in
theorem refDecode_len (hm : m ≠ 128) (_hm : m ≤ maxLen) :
    Calls Tryd.prog 13 #[.slice A m c, .slice B n d] w fun e w' => e = .returned (.tuple #[.agg #[.int .i64 0, .int .i64 0, .slice none 0 0], .int .i64 8]) ∧ Below w.heap.size w w' := by
  have hq : ((m : Int) != 128) = true := by rw [bne_iff_ne]; omega
  have hq2 : ((m : Int) == 128) = false := by rw [beq_eq_false_iff_ne]; omega
  have q0 := heap_alloc_new w (.cells #[.int .i64 0, .int .i64 0, .slice none 0 0] 24)
  have HLV := Lib.hid (load_rec q0)
  have HB := Lib.hid (show Below w.heap.size w (w.alloc (.cells #[.int .i64 0, .int .i64 0, .slice none 0 0] 24)) from (Below.refl _ _).alloc (Nat.le_refl _) _)
  clear hm q0
  go_enter Tryd.func13, Tryd.ntmps13
  go_wp2_with fail
  refine bodyPost_ret (results_cell2 (g := w.heap.size) Tryd.results13 rfl HLV.out rfl) rfl ?_
  exact ⟨rfl, HB.out⟩
set_option maxRecDepth 20000 in
set_option maxHeartbeats 2000000 in
theorem refDecode_go (hh : Small h) (hl : Small l) (hr : Reads w w.heap.size A 128 (bts h)) (hq : Reads w w.heap.size B n (bts l)) (hn : n ≤ 140737488351232) :
    Calls Tryd.prog 13 #[.slice A 128 c, .slice B n d] w (DecIs (okD h l n) (numAt h 0) (numAt h 1) n l w) := by
  obtain ⟨i0, hi, hz0, hz1, hz2⟩ := info_parts info_u8
  have hlen := hr.len
  have e0 : numAt h 0 = getN (cutAt h 4 4) := by unfold numAt; rw [if_pos (by omega)]
  have e1 : numAt h 1 = getN (cutAt h 8 4) := by unfold numAt; rw [if_pos (by omega)]
  have HG0 := Lib.hid (fun w' (hb : Below w.heap.size w w') => refGet_ok A 128 c w.heap.size h 4 4 w' (by decide) (by decide) hh (hr.below hb) (by decide) (by decide))
  have HG1 := Lib.hid (fun w' (hb : Below w.heap.size w w') => refGet_ok A 128 c w.heap.size h 8 4 w' (by decide) (by decide) hh (hr.below hb) (by decide) (by decide))
  rw [← e0] at HG0
  rw [← e1] at HG1
  have la := numAt_lt hh 0
  have lb := numAt_lt hh 1
  have HOK := Lib.hid (show okD h l n = (mayB (numAt h 0) (numAt h 1) n && decide (h = headL (numF (numAt h 0) (numAt h 1) (Nums.sum 0 l)))) from rfl)
  generalize okD h l n = ok at *
  unfold Told at HG0 HG1
  generalize numAt h 0 = a at *
  generalize numAt h 1 = b at *
  have wa : IntKind.i64.wrap (a : Int) = a := by rw [IntKind.wrap_i64]; omega
  have wb : IntKind.i64.wrap (b : Int) = b := by rw [IntKind.wrap_i64]; omega
  have LA := Lib.hid la
  have LB := Lib.hid lb
  have hb0 : Below w.heap.size w (w.alloc (.cells #[.int .i64 0, .int .i64 0, .slice none 0 0] 24)) := (Below.refl _ _).alloc (Nat.le_refl _) _
  have q0 := heap_alloc_new w (.cells #[.int .i64 0, .int .i64 0, .slice none 0 0] 24)
  clear e0 e1 la lb
  go_enter Tryd.func13, Tryd.ntmps13
  go_wp2_with fail
  refine (HG0.out _ hb0).mono ?_
  rintro e w1 ⟨rfl, rfl⟩
  go_wp2_with fail
  refine (HG1.out _ hb0).mono ?_
  rintro e w1 ⟨rfl, rfl⟩
  clear HG0 HG1
  have hz0' : (w.alloc (.cells #[.int .i64 0, .int .i64 0, .slice none 0 0] 24)).heap.size = w.heap.size + 1 := by simp
  have hrq := (hq.below hb0).alloc (by omega) (.cells #[] 5)
  have hbe : Below (w.heap.size + 1) (w.alloc (.cells #[.int .i64 0, .int .i64 0, .slice none 0 0] 24)) ((w.alloc (.cells #[.int .i64 0, .int .i64 0, .slice none 0 0] 24)).alloc (.cells #[] 5)) := (Below.refl _ _).alloc (by omega) _
  have hown : ((w.alloc (.cells #[.int .i64 0, .int .i64 0, .slice none 0 0] 24)).alloc (.cells #[] 5)).ownsRow (w.heap.size + 1) 5 1 (.slice (some ⟨w.heap.size + 1, 0, none⟩) 0 0) 0 [] := by
    have := World.ownsRow_made (w.alloc (.cells #[.int .i64 0, .int .i64 0, .slice none 0 0] 24)) (base := w.heap.size + 1) (e := 5) (size := 1) #[] 0 (by omega) (Nat.zero_le _) rfl
    rwa [hz0'] at this
  have HQ0 := Lib.hid q0
  have HB0 := Lib.hid hb0
  clear q0 hb0 hz0'
  go_wp2_with (at_builtin; refine appendAll _ rfl _ _ 22 rfl (w.heap.size + 1) 5 i0 (.int .u8 0) 1 Tryd.underlying22 hi hz0 hz1 hz2 rfl _ 0 [] rfl hown _ _ n d (bts l) rfl hrq (bts_one _) (by unfold maxLen; omega) (by omega) _ hbe (by simp) ?_; intro v3 w3 own3 _ b3; simp only [List.nil_append, Nat.zero_add] at own3; obtain ⟨A3, c3, rfl, rd3, _, _⟩ := own_shape own3)
  have hs3 : w.heap.size + 1 ≤ w3.heap.size := Nat.le_trans (by simp) b3.size
  have q3 := (b3.block w.heap.size (Nat.lt_succ_self _)).trans HQ0.out
  have hB3 := HB0.out.trans (b3.mono (Nat.le_succ _))
  have hB4 := hB3.alloc (by omega) (.cells #[.int .i64 a, .int .i64 b, .slice A3 n c3] 24)
  have t4 := heap_alloc_new w3 (.cells #[.int .i64 a, .int .i64 b, .slice A3 n c3] 24)
  have q4 : (w3.alloc (.cells #[.int .i64 a, .int .i64 b, .slice A3 n c3] 24)).heap[w.heap.size]? = some (.cells #[.int .i64 0, .int .i64 0, .slice none 0 0] 24 (0, 0)) := (Below.heap_alloc _ _ _ (show w.heap.size < w3.heap.size by omega)).trans q3
  have own4 := own3.alloc (.cells #[.int .i64 a, .int .i64 b, .slice A3 n c3] 24)
  have hs4 : (w3.alloc (.cells #[.int .i64 a, .int .i64 b, .slice A3 n c3] 24)).heap.size = w3.heap.size + 1 := by simp
  have rd4 : Reads (w3.alloc (.cells #[.int .i64 a, .int .i64 b, .slice A3 n c3] 24)) (w3.alloc (.cells #[.int .i64 a, .int .i64 b, .slice A3 n c3] 24)).heap.size A3 n (bts l) := (rd3.alloc (Nat.le_refl _) _).more (by omega)
  have hr4 := (hr.below hB4).more hB4.size
  clear hown hbe hrq HQ0 HB0 q3 hB3 own3 rd3 b3 hr hq
  generalize w3.alloc (.cells #[.int .i64 a, .int .i64 b, .slice A3 n c3] 24) = W4 at *
  generalize w3.heap.size = T at *
  cases hmb : mayB (a : Int) (b : Int) n
  · have hx := Lib.hid (show ok = false by rw [HOK.out, hmb]; rfl)
    refine (refEncode_no a b A3 n c3 W4 (by have := LA.out; omega) (by have := LB.out; omega) (by unfold maxLen; omega) hmb).mono ?_
    rintro e w5 ⟨rfl, b5⟩
    have q5 := (b5.block w.heap.size (by omega)).trans q4
    have hB5 := hB4.trans (b5.mono (by omega))
    obtain ⟨k0, k1, k2, f⟩ := cells3_of q5
    have f0 := f 0
    have f1 := f 1
    have f2 := f 2
    have s0 := store3_0 q5 (.int .i64 0) (by rfl)
    have HROW := Lib.hid (put3_row q5 (.int .i64 0) (.int .i64 0) (.slice none 0 0))
    have HLV := Lib.hid (load_rec HROW.out)
    have HBE := Lib.hid (put3_below (g := w.heap.size) hB5 (Nat.le_refl _) (.int .i64 0) (.int .i64 0) (.slice none 0 0))
    clear q5 f q4 t4 own4 rd4 hr4 b5 hB4 hB5 hs3 hs4 hmb HOK
    go_wp2_with fail
    refine bodyPost_ret (results_cell2 (g := w.heap.size) Tryd.results13 rfl HLV.out rfl) rfl ?_
    exact .inl ⟨hx.out, rfl, HBE.out⟩
  · obtain ⟨rfl, ha, hb⟩ := (mayB_iff (by have := LA.out; omega) (by have := LB.out; omega)).1 hmb
    have HHS := Lib.hid (headL_small (numF a b (Nums.sum 0 l)))
    have HE := Lib.hid (refEncode_ok a b (by omega) (by omega) A3 c3 l W4 hl rd4)
    rw [hmb, Bool.true_and] at HOK
    generalize headL (numF a b (Nums.sum 0 l)) = hL at *
    refine HE.out.mono ?_
    rintro e w5 ⟨v5, rfl, own5, b5⟩
    obtain ⟨A5, c5, rfl, rd5, _, _⟩ := own_shape own5
    have q5 := (b5.block w.heap.size (by omega)).trans q4
    have t5 := (b5.block T (by omega)).trans t4
    have hB5 := hB4.trans (b5.mono (by omega))
    have own6 := own_below own4 b5
    have hr5 := (hr4.below b5).more b5.size
    have h1 := Sh.run_str c5 rd5
    have h2 := Sh.run_str c hr5
    have he := str_eq hh HHS.out
    clear q4 t4 own4 rd4 hr4 hB4 own5 rd5 hr5 HE hmb
    generalize Sh.strL hL = s at *
    generalize Sh.strL h = t at *
    obtain ⟨k0, k1, k2, f⟩ := cells3_of q5
    obtain ⟨j0, j1, j2, _⟩ := cells3_of t5
    have f0 := f 0
    have f1 := f 1
    have f2 := f 2
    clear f
    by_cases hL2 : h = hL
    · rw [decide_eq_true hL2.symm] at he
      have hx := Lib.hid (show ok = true by rw [HOK.out, decide_eq_true hL2])
      have s0 := store3_0 q5 (.int .i64 (a : Int)) (by rfl)
      have O8 := put3_only w5 w.heap.size (.int .i64 a) (.int .i64 b) (.slice A3 128 c3)
      have hne : ∀ x, (Value.slice A3 128 c3).ownBlock = some x → x ≠ w.heap.size := fun x hx => by have := (own6.lt x hx).1; omega
      have OWN := Lib.hid (own_low (Sh.same_row own6 (fun x hx => O8.block x ((own6.lt x hx).2) (hne x hx))) (Nat.le_succ _))
      have HROW := Lib.hid (put3_row q5 (.int .i64 a) (.int .i64 b) (.slice A3 128 c3))
      have HLV := Lib.hid (load_rec HROW.out)
      have HBE := Lib.hid (put3_below (g := w.heap.size) hB5 (Nat.le_refl _) (.int .i64 a) (.int .i64 b) (.slice A3 128 c3))
      clear hL2 HOK q5 t5 O8 hne own6 hB5 b5
      go_wp2_with fail
      refine bodyPost_ret (results_cell2 (g := w.heap.size) Tryd.results13 rfl HLV.out rfl) rfl ?_
      exact .inr ⟨hx.out, _, rfl, OWN.out, HBE.out⟩
    · rw [decide_eq_false (fun e => hL2 e.symm)] at he
      have hx := Lib.hid (show ok = false by rw [HOK.out, decide_eq_false hL2])
      have s0 := store3_0 q5 (.int .i64 0) (by rfl)
      have HROW := Lib.hid (put3_row q5 (.int .i64 0) (.int .i64 0) (.slice none 0 0))
      have HLV := Lib.hid (load_rec HROW.out)
      have HBE := Lib.hid (put3_below (g := w.heap.size) hB5 (Nat.le_refl _) (.int .i64 0) (.int .i64 0) (.slice none 0 0))
      clear hL2 HOK q5 t5 own6 hB5 b5
      go_wp2_with fail
      refine bodyPost_ret (results_cell2 (g := w.heap.size) Tryd.results13 rfl HLV.out rfl) rfl ?_
      exact .inl ⟨hx.out, rfl, HBE.out⟩
theorem okD_len {m : Nat} (hr : Reads w w.heap.size A m (bts h)) (hm : m ≠ 128) : okD h l n = false := by
  unfold okD headOf
  have : decide (h = headL (numF (numAt h 0) (numAt h 1) (Nums.sum 0 l))) = false := by
    rw [decide_eq_false_iff_not]
    intro e
    have h1 := congrArg List.length e
    rw [headL_length, hr.len] at h1
    exact hm h1
  rw [this, Bool.and_false]
theorem refDecode_any (hh : Small h) (hl : Small l) (hr : Reads w w.heap.size A m (bts h)) (hq : Reads w w.heap.size B n (bts l)) (hm : m ≤ maxLen) (hn : n ≤ 140737488351232) :
    Calls Tryd.prog 13 #[.slice A m c, .slice B n d] w (DecIs (okD h l n) (numAt h 0) (numAt h 1) n l w) := by
  by_cases h1 : m = 128
  · subst h1
    exact refDecode_go A B c n d h l w hh hl hr hq hn
  · refine (refDecode_len A B m c n d w h1 hm).mono ?_
    rintro e w' ⟨rfl, hb⟩
    exact .inl ⟨okD_len A n h l w hr h1, rfl, hb⟩
theorem decode_any (hh : Small h) (hl : Small l) (hr : Reads w w.heap.size A m (bts h)) (hq : Reads w w.heap.size B n (bts l)) (hm : m ≤ maxLen) (hn : n ≤ maxLen) (hT : Tabs w) (hF : Flds w) :
    Calls Tryd.prog 12 #[.slice A m c, .slice B n d] w (DecIs (okD h l n) (numAt h 0) (numAt h 1) n l w) := by
  cases hok : okD h l n
  · refine (decode_no A B m c n d h l w hh hl hr hq hm hn hT hF hok).mono ?_
    rintro e w' ⟨rfl, hb⟩
    exact .inl ⟨rfl, rfl, hb⟩
  · have la := numAt_lt hh 0
    have lb := numAt_lt hh 1
    have hmb : mayB (numAt h 0) (numAt h 1) n = true := (Bool.and_eq_true_iff.1 hok).1
    obtain ⟨rfl, _, _⟩ := (mayB_iff (by omega) (by omega)).1 hmb
    obtain ⟨ad, rfl, _, _⟩ := hq.2 (by decide)
    refine (decode_yes A ad m c d h l w hh hl hr hq hm hT hF hok).mono ?_
    rintro e w' ⟨v, rfl, h1, h2⟩
    exact .inr ⟨rfl, v, rfl, h1, h2⟩
end
end Go.Proofs.YtohdieddocogkaaDoor.U
