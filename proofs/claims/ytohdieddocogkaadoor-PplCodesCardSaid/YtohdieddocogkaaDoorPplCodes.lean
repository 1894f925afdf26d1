/-
  PplCodes is true for every record and any two blocks of bytes: the program's head and record are the definition's.
  Conditions: none of its own; the tables hold what the program's text lays (the card ties that).
-/
import Derived.Test.YtohdieddocogkaaDoorQo
namespace Go.Proofs.YtohdieddocogkaaDoor.U.pplCodes
open Go.ChangeShapes Go.WideShapes Go.ChangeAt Go.RowKit Go.Maps

/-- What a record is encoded as, and the error's number. -/
def encL (s q : Int) (n : Nat) (l : List Nat) : List Nat := if mayB s q n then headL (numF s.toNat q.toNat (Nums.sum 0 l)) else []
def encE (s q : Int) (n : Nat) : Int := if mayB s q n then 0 else 1
/-- What two blocks are decoded as. -/
def decX (h l : List Nat) (n i : Nat) : Int := if okD h l n then ((numAt h i : Nat) : Int) else 0
def decL (h l : List Nat) (n : Nat) : List Nat := if okD h l n then l else []
def decE (h l : List Nat) (n : Nat) : Int := if okD h l n then 0 else 8
theorem encL_small (s q : Int) (n : Nat) (l : List Nat) : Small (encL s q n l) := by
  unfold encL
  split
  · exact headL_small _
  · exact fun x hx => by cases hx
theorem decL_small {h l : List Nat} (n : Nat) (hl : Small l) : Small (decL h l n) := by
  unfold decL
  split
  · exact hl
  · exact fun x hx => by cases hx
section
variable (s q : Int) (A : Option Addr) (n c : Nat) (l : List Nat) (w : World)
theorem encode_u (hs : -9223372036854775808 ≤ s ∧ s ≤ 9223372036854775807) (hq : -9223372036854775808 ≤ q ∧ q ≤ 9223372036854775807) (hl : Small l) (hr : Reads w w.heap.size A n (bts l)) (hn : n ≤ maxLen) (hA : All w) :
    Calls Tryd.prog 10 #[.agg #[.int .i64 s, .int .i64 q, .slice A n c]] w fun e w' => ∃ A' n' c', e = .returned (.tuple #[.slice A' n' c', .int .i64 (encE s q n)]) ∧ Reads w' w'.heap.size A' n' (bts (encL s q n l)) ∧ Below w.heap.size w w' := by
  unfold encE encL
  cases hm : mayB s q n
  · refine (encode_no s q A n c l w hl hr hn hA.tabs hA.fld hm).mono ?_
    rintro e w' ⟨rfl, hb⟩
    exact ⟨none, 0, 0, rfl, Reads.none_, hb⟩
  · obtain ⟨rfl, h1, h2⟩ := (mayB_iff hs hq).1 hm
    obtain ⟨a, rfl⟩ := nat_of h1.1
    obtain ⟨b, rfl⟩ := nat_of h2.1
    refine (encode_ok a b (by omega) (by omega) A c l w hl hr hA.tabs hA.fld).mono ?_
    rintro e w' ⟨v, rfl, g, rfl, _, hrow, hb⟩
    refine ⟨_, _, _, rfl, ?_, hb⟩
    refine ⟨(bts_length _).trans (headL_length _), fun _ => ⟨_, rfl, (Array.getElem?_eq_some_iff.1 hrow).1, fun j u hu => ?_⟩⟩
    rw [add_plain, Nat.zero_add, cell_of_row _ _ j _ _ _ hrow, List.getElem?_toArray]
    exact hu
theorem refEncode_u (hs : -9223372036854775808 ≤ s ∧ s ≤ 9223372036854775807) (hq : -9223372036854775808 ≤ q ∧ q ≤ 9223372036854775807) (hl : Small l) (hr : Reads w w.heap.size A n (bts l)) (hn : n ≤ maxLen) :
    Calls Tryd.prog 11 #[.agg #[.int .i64 s, .int .i64 q, .slice A n c]] w fun e w' => ∃ A' n' c', e = .returned (.tuple #[.slice A' n' c', .int .i64 (encE s q n)]) ∧ Reads w' w'.heap.size A' n' (bts (encL s q n l)) ∧ Below w.heap.size w w' := by
  unfold encE encL
  cases hm : mayB s q n
  · refine (refEncode_no s q A n c w hs hq hn hm).mono ?_
    rintro e w' ⟨rfl, hb⟩
    exact ⟨none, 0, 0, rfl, Reads.none_, hb⟩
  · obtain ⟨rfl, h1, h2⟩ := (mayB_iff hs hq).1 hm
    obtain ⟨a, rfl⟩ := nat_of h1.1
    obtain ⟨b, rfl⟩ := nat_of h2.1
    refine (refEncode_ok a b (by omega) (by omega) A c l w hl hr).mono ?_
    rintro e w' ⟨v, rfl, own, hb⟩
    obtain ⟨A', c', rfl, rd, _, _⟩ := own_shape own
    exact ⟨_, _, _, rfl, rd, hb⟩
end
theorem dec_u {h l : List Nat} {n : Nat} {w : World} {e : Ending} {w' : World} (hd : DecIs (okD h l n) (numAt h 0) (numAt h 1) n l w e w') :
    ∃ A' n' c', e = .returned (.tuple #[.agg #[.int .i64 (decX h l n 0), .int .i64 (decX h l n 1), .slice A' n' c'], .int .i64 (decE h l n)]) ∧ Reads w' w'.heap.size A' n' (bts (decL h l n)) ∧ Below w.heap.size w w' := by
  unfold decX decE decL
  rcases hd with ⟨h0, rfl, hb⟩ | ⟨h0, v, rfl, own, hb⟩
  · rw [h0]
    exact ⟨none, 0, 0, rfl, Reads.none_, hb⟩
  · rw [h0]
    obtain ⟨A', c', rfl, rd, _, _⟩ := own_shape own
    exact ⟨_, _, _, rfl, rd, hb⟩
set_option maxRecDepth 20000 in
set_option maxHeartbeats 4000000 in
theorem walk {w : World} (z : RecV) (hz : RecOk w z) (hzn : z.n ≤ 140737488351232) (B : Option Addr) (nh ch : Nat) (h : List Nat) (hh : Small h) (hrh : Reads w w.heap.size B nh (bts h)) (hnh : nh ≤ 140737488351232)
    (C : Option Addr) (np cp : Nat) (p : List Nat) (hp : Small p) (hrp : Reads w w.heap.size C np (bts p)) (hnp : np ≤ 140737488351232) (hA : All w) :
    Calls Tryd.prog 3 #[z.val, .slice B nh ch, .slice C np cp] w fun e w' => e = .returned (.bool true) ∧ Below w.heap.size w w' := by
  obtain ⟨s, q, A, n, c, l⟩ := z
  obtain ⟨hs, hq, hl, hr, hn⟩ := hz
  dsimp only at hs hq hl hr hn hzn
  unfold RecV.val
  dsimp only
  have HNH := Lib.hid (show nh ≤ maxLen by unfold maxLen; omega)
  have HNP := Lib.hid (show np ≤ maxLen by unfold maxLen; omega)
  obtain ⟨q0, q1, hz0, hB0⟩ := two_new' w #[.int .i64 s, .int .i64 q, .slice A n c] #[.int .i64 s, .int .i64 q, .slice A n c] 24 24
  have rd0 := (hr.below hB0).more hB0.size
  obtain ⟨k0, k1, k2, _⟩ := cells3_of q0
  have Q0 := Lib.hid q0
  have Q1 := Lib.hid q1
  have HZ0 := Lib.hid hz0
  have HB0 := Lib.hid hB0
  have HS := Lib.hid hs
  have HQ := Lib.hid hq
  have HN := Lib.hid hn
  have HZN := Lib.hid hzn
  clear q0 q1 hz0 hB0 hs hq
  go_enter Tryd.func3, Tryd.ntmps3
  go_wp2_with (at_builtin; refine append_copy rfl _ _ rfl (by rw [HZ0.out]; rfl) rfl rd0 hzn ?_; intro v3 w3 own3 b3; obtain ⟨A3, c3, rfl, rd3, _, _⟩ := own_shape own3; obtain ⟨j0, j1, j2, jf⟩ := cells3_of ((b3.block (w.heap.size + 1) (by have := HZ0.out; omega)).trans Q1.out); have jf2 := jf 2)
  have hne : w.heap.size ≠ w.heap.size + 1 := by omega
  have O4 := only_set w3 (w.heap.size + 1) 2 (.slice A3 n c3)
  have hs3 := b3.size
  have q3 := (b3.block w.heap.size (by have := HZ0.out; omega)).trans Q0.out
  have t3 := (b3.block (w.heap.size + 1) (by have := HZ0.out; omega)).trans Q1.out
  have Q4 := Lib.hid ((O4.block w.heap.size (by have := HZ0.out; omega) hne).trans q3)
  have T4 := Lib.hid (show (w3.setCell ⟨w.heap.size + 1, 2, none⟩ (.slice A3 n c3)).heap[w.heap.size + 1]? = some (.cells #[.int .i64 s, .int .i64 q, .slice A3 n c3] 24 (0, 0)) from cells_set (i := 2) (.slice A3 n c3) t3)
  have hA3 : ∀ x, A3 = some x → ¬ x.block = w.heap.size + 1 := fun x hx e => by
    rcases own3.2 with ⟨h0, _⟩ | ⟨g', cap, cur, hv, hg', _⟩
    · injection h0 with h0 _ _; rw [h0] at hx; cases hx
    · injection hv with hv _ _
      rw [hx] at hv
      injection hv with hv
      subst hv
      have := HZ0.out
      have hg' : _ ≤ g' := hg'
      have e : g' = w.heap.size + 1 := e
      omega
  have RD4 := Lib.hid (reads_only rd3 O4 hA3)
  have HB3 := Lib.hid (HB0.out.trans (b3.mono (by have := HZ0.out; omega)))
  have HB4 := Lib.hid (only_row_below' HB3.out O4 (Nat.le_succ _) (Nat.le_refl _))
  have HZ4 := Lib.hid (show w.heap.size + 1 < (w3.setCell ⟨w.heap.size + 1, 2, none⟩ (.slice A3 n c3)).heap.size from Nat.lt_of_lt_of_le (by have := HZ0.out; omega) O4.size)
  have HE := Lib.hid (encode_u s q A3 n c3 l _ HS.out HQ.out hl RD4.out HN.out (hA.over HB4.out))
  clear k0 k1 k2 j0 j1 j2 jf2 O4 q3 t3 hA3 own3 rd3 b3 rd0 hs3 hne
  go_wp2_with fail
  generalize w3.setCell ⟨w.heap.size + 1, 2, none⟩ (.slice A3 n c3) = W4 at *
  refine HE.out.mono ?_
  rintro e w5 ⟨A5, n5, c5, rfl, rd5, b5⟩
  have HB5 := Lib.hid (HB4.out.trans (b5.mono HB4.out.size))
  have q5 := (b5.block w.heap.size (Nat.lt_of_succ_lt HZ4.out)).trans Q4.out
  have T5 := Lib.hid ((b5.block (w.heap.size + 1) HZ4.out).trans T4.out)
  have RD5 := Lib.hid ((RD4.out.below b5).more b5.size)
  have HZ5 := Lib.hid (Nat.lt_of_lt_of_le HZ4.out b5.size)
  have HE2 := Lib.hid (refEncode_u s q A n c l w5 HS.out HQ.out hl ((hr.below HB5.out).more HB5.out.size) HN.out)
  have Q5 := Lib.hid q5
  have RA5 := Lib.hid rd5
  obtain ⟨k0, k1, k2, _⟩ := cells3_of q5
  clear q5 rd5 b5 HE Q4 T4 RD4 HB3 HB4 HZ4
  go_wp2_with fail
  refine HE2.out.mono ?_
  rintro e w6 ⟨A6, n6, c6, rfl, rd6, b6⟩
  have HB6 := Lib.hid (HB5.out.trans (b6.mono HB5.out.size))
  have Q6 := Lib.hid ((b6.block w.heap.size (Nat.lt_of_succ_lt HZ5.out)).trans Q5.out)
  have T6 := Lib.hid ((b6.block (w.heap.size + 1) HZ5.out).trans T5.out)
  have RD6 := Lib.hid ((RD5.out.below b6).more b6.size)
  have RA6 := Lib.hid ((RA5.out.below b6).more b6.size)
  have RB6 := Lib.hid rd6
  have HZ6 := Lib.hid (Nat.lt_of_lt_of_le HZ5.out b6.size)
  have hrh6 := (hrh.below HB6.out).more HB6.out.size
  have HRP6 := Lib.hid ((hrp.below HB6.out).more HB6.out.size)
  have HNPN := Lib.hid hnp
  clear k0 k1 k2 b6 rd6 HE2 Q5 T5 RD5 RA5 HB5 HZ5 hnp
  go_wp2_with (at_builtin; first
    | (refine append_copy rfl _ _ rfl rfl rfl hrh6 hnh ?_; intro v7 w7 own7 b7; obtain ⟨A7, c7, rfl, rd7, _, _⟩ := own_shape own7; have hrp7 := (HRP6.out.below b7).more b7.size; have hnp := HNPN.out)
    | (refine append_copy rfl _ _ rfl rfl rfl hrp7 hnp ?_; intro v8 w8 own8 b8; obtain ⟨A8, c8, rfl, rd8, _, _⟩ := own_shape own8))
  have HRD := Lib.hid (fun w' (hb : Below w.heap.size w w') => (refDecode_any B C nh ch np cp h p w' hh hp ((hrh.below hb).more hb.size) ((hrp.below hb).more hb.size) HNH.out HNPN.out).mono (fun e w'' hd => dec_u hd))
  have b68 := b7.trans (b8.mono b7.size)
  have HB8 := Lib.hid (HB6.out.trans (b68.mono HB6.out.size))
  have HDE := Lib.hid (decode_any A7 A8 nh c7 np c8 h p w8 hh hp ((rd7.below b8).more b8.size) rd8 HNH.out HNP.out (hA.over HB8.out).tabs (hA.over HB8.out).fld)
  have Q8 := Lib.hid ((b68.block w.heap.size (Nat.lt_of_succ_lt HZ6.out)).trans Q6.out)
  have T8 := Lib.hid ((b68.block (w.heap.size + 1) HZ6.out).trans T6.out)
  have RD8 := Lib.hid ((RD6.out.below b68).more b68.size)
  have RA8 := Lib.hid ((RA6.out.below b68).more b68.size)
  have RB8 := Lib.hid ((RB6.out.below b68).more b68.size)
  have HZ8 := Lib.hid (Nat.lt_of_lt_of_le HZ6.out b68.size)
  clear hrh6 hrp7 own7 own8 rd7 rd8 b7 b8 b68 Q6 T6 RD6 RA6 RB6 HZ6 HB6 HRP6 hnp
  refine HDE.out.mono ?_
  rintro e w9 hd9
  obtain ⟨A9, n9, c9, rfl, rd9, b9⟩ := dec_u hd9
  have hls := encL_small s q n l
  have hld := decL_small (h := h) np hp
  clear hd9 HDE
  generalize decX h p np 0 = x0 at *
  generalize decX h p np 1 = x1 at *
  generalize decE h p np = xe at *
  generalize decL h p np = ld at *
  generalize encL s q n l = le at *
  generalize encE s q n = ce at *
  have b10 : Below w9.heap.size w9 (w9.alloc (.cells #[.int .i64 x0, .int .i64 x1, .slice A9 n9 c9] 24)) := (Below.refl _ _).alloc (Nat.le_refl _) _
  have V10 := Lib.hid (heap_alloc_new w9 (.cells #[.int .i64 x0, .int .i64 x1, .slice A9 n9 c9] 24))
  have b810 := b9.trans (b10.mono b9.size)
  have HB10 := Lib.hid (HB8.out.trans (b810.mono HB8.out.size))
  have Q10 := Lib.hid ((b810.block w.heap.size (Nat.lt_of_succ_lt HZ8.out)).trans Q8.out)
  have T10 := Lib.hid ((b810.block (w.heap.size + 1) HZ8.out).trans T8.out)
  have RD10 := Lib.hid ((RD8.out.below b810).more b810.size)
  have RA10 := Lib.hid ((RA8.out.below b810).more b810.size)
  have RB10 := Lib.hid ((RB8.out.below b810).more b810.size)
  have RV10 := Lib.hid ((rd9.below b10).more b10.size)
  have HZ10 := Lib.hid (Nat.lt_of_lt_of_le HZ8.out b810.size)
  have HZV := Lib.hid (show w9.heap.size < (w9.alloc (.cells #[.int .i64 x0, .int .i64 x1, .slice A9 n9 c9] 24)).heap.size by simp)
  clear b9 b10 b810 rd9 Q8 T8 RD8 RA8 RB8 HZ8 HB8
  go_wp2_with fail
  generalize w9.alloc (.cells #[.int .i64 x0, .int .i64 x1, .slice A9 n9 c9] 24) = W10 at *
  refine (HRD.out W10 HB10.out).mono ?_
  rintro e w11 ⟨A11, n11, c11, rfl, rd11, b11⟩
  have b12 : Below w11.heap.size w11 (w11.alloc (.cells #[.int .i64 x0, .int .i64 x1, .slice A11 n11 c11] 24)) := (Below.refl _ _).alloc (Nat.le_refl _) _
  have U12 := Lib.hid (heap_alloc_new w11 (.cells #[.int .i64 x0, .int .i64 x1, .slice A11 n11 c11] 24))
  have b1012 := b11.trans (b12.mono b11.size)
  have HB12 := Lib.hid (HB10.out.trans (b1012.mono HB10.out.size))
  have Q12 := Lib.hid ((b1012.block w.heap.size (Nat.lt_of_succ_lt HZ10.out)).trans Q10.out)
  have T12 := Lib.hid ((b1012.block (w.heap.size + 1) HZ10.out).trans T10.out)
  have V12 := Lib.hid ((b1012.block w9.heap.size HZV.out).trans V10.out)
  have RD12 := Lib.hid ((RD10.out.below b1012).more b1012.size)
  have RA12 := Lib.hid ((RA10.out.below b1012).more b1012.size)
  have RB12 := Lib.hid ((RB10.out.below b1012).more b1012.size)
  have RV12 := Lib.hid ((RV10.out.below b1012).more b1012.size)
  have RU12 := Lib.hid ((rd11.below b12).more b12.size)
  have HZ12 := Lib.hid (Nat.lt_of_lt_of_le HZ10.out b1012.size)
  have HZV12 := Lib.hid (Nat.lt_of_lt_of_le HZV.out b1012.size)
  have HZU := Lib.hid (show w11.heap.size < (w11.alloc (.cells #[.int .i64 x0, .int .i64 x1, .slice A11 n11 c11] 24)).heap.size by simp)
  clear b11 b12 b1012 rd11 Q10 T10 RD10 RA10 RB10 RV10 HZ10 HB10 HRD V10 HZV
  go_wp2_with fail
  generalize w11.alloc (.cells #[.int .i64 x0, .int .i64 x1, .slice A11 n11 c11] 24) = W12 at *
  have A12 := hA.over HB12.out
  refine (lives_true W12 A12.tabs A12.fld).mono ?_
  rintro e w13 ⟨rfl, b13⟩
  have HB13 := Lib.hid (HB12.out.trans (b13.mono HB12.out.size))
  have Q13 := Lib.hid ((b13.block w.heap.size (Nat.lt_of_succ_lt HZ12.out)).trans Q12.out)
  have T13 := Lib.hid ((b13.block (w.heap.size + 1) HZ12.out).trans T12.out)
  have v13 := (b13.block w9.heap.size HZV12.out).trans V12.out
  have u13 := (b13.block w11.heap.size HZU.out).trans U12.out
  have RD13 := Lib.hid ((RD12.out.below b13).more b13.size)
  have hs1 := Sh.run_str c5 ((RA12.out.below b13).more b13.size)
  have hs2 := Sh.run_str c6 ((RB12.out.below b13).more b13.size)
  have HQS := Lib.hid (refSame_self x0 x1 A9 A11 n9 c9 n11 c11 ld w13 hld ((RV12.out.below b13).more b13.size) ((RU12.out.below b13).more b13.size))
  have HZ13 := Lib.hid (Nat.lt_of_lt_of_le HZ12.out b13.size)
  obtain ⟨k0, k1, k2, _⟩ := cells3_of v13
  obtain ⟨j0, j1, j2, _⟩ := cells3_of u13
  have hse : ((Sh.strL le).toList == (Sh.strL le).toList) = true := by simp
  clear b13 v13 u13 Q12 T12 V12 U12 RD12 RA12 RB12 RV12 RU12 HZ12 HZV12 HZU HB12 A12
  generalize Sh.strL le = str at *
  go_wp2_with fail
  refine HQS.out.mono ?_
  rintro e w14 ⟨rfl, b14⟩
  have HB14 := Lib.hid (HB13.out.trans (b14.mono HB13.out.size))
  have q14 := (b14.block w.heap.size (Nat.lt_of_succ_lt HZ13.out)).trans Q13.out
  have t14 := (b14.block (w.heap.size + 1) HZ13.out).trans T13.out
  have HQ2 := Lib.hid (refSame_self s q A3 A n c3 n c l w14 hl ((RD13.out.below b14).more b14.size) ((hr.below HB14.out).more HB14.out.size))
  clear k0 k1 k2 j0 j1 j2
  obtain ⟨k0, k1, k2, _⟩ := cells3_of q14
  obtain ⟨j0, j1, j2, _⟩ := cells3_of t14
  clear q14 t14 b14 hs1 hs2 hse
  go_wp2_with fail
  refine HQ2.out.mono ?_
  rintro e w15 ⟨rfl, b15⟩
  have HB15 := Lib.hid (HB14.out.trans (b15.mono HB14.out.size))
  clear b15
  go_wp2_with fail
  go_ret
  exact ⟨rfl, HB15.out⟩
set_option maxRecDepth 100000 in
/-- WHAT THE WALK GIVES, FOR EVERY ARGUMENT AND EVERY WORLD THAT HOLDS THE TABLES. -/
theorem contract (H : Type) (enc : TypeId × Value → H) (W : World) (base : Nat) (args : Array Value) (ds gs : List (DataW H)) (before : List MemPlace)
    (hval : ∀ (j : Nat) t v, Tryd.f3.params[j]? = some t → args[j]? = some v → Value.okWide Tryd.prog W .any base t v)
    (hW : DataW.Whole enc Tryd.prog Tryd.f3.params.toList Rows.pplCodesSpec.vars false W args.toList ds gs before)
    (hsz : (DataW.weightsEach Tryd.prog (Tryd.f3.params.toList ++ (OpenSpec.ofChange Rows.pplCodesSpec).bare.plain.varTypes Tryd.prog) (ds ++ gs)).all (· ≤ reachBytes) = true) (hL : laidMetH Tryd.prog laidBoth W) :
    Calls Tryd.prog 3 args W fun e W' => ∃ v, e = .returned v ∧ Rows.pplCodesSpec.post enc Tryd.prog Tryd.f3 false true false false W args v W' := by
  have hW' := hW
  obtain ⟨p, q, hA0, hV, rfl, hfz, hnd⟩ := hW
  have hA : DataW.TrodAll enc Tryd.prog W 0 (fun _ => true) true Tryd.f3.params.toList args.toList ds p := hA0
  have hsz2 : (DataW.weightsEach Tryd.prog (Tryd.f3.params.toList ++ []) (ds ++ gs)).all (· ≤ reachBytes) = true := hsz
  rw [Tryd.params3] at hA hval hsz2
  obtain ⟨v0, vs0, d0, ds0, p0, q0, hargs, rfl, rfl, h0, r0⟩ := trodAll_cons hA
  obtain ⟨v1, vs1, d1, ds1, p1, q1, rfl, rfl, rfl, h1, r1⟩ := trodAll_cons r0
  obtain ⟨v2, vs2, d2, ds2, p2, q2, rfl, rfl, rfl, h2, r2⟩ := trodAll_cons r1
  obtain ⟨rfl, rfl, rfl⟩ := trodAll_nil r2
  obtain rfl : args = #[v0, v1, v2] := by cases args; simp_all
  obtain ⟨rfl, rfl⟩ := trodVars_none hV
  have k0 := h0
  have lt0 : ∀ x ∈ p0, x.block < W.heap.size := by obtain ⟨m, hm⟩ := k0; exact DataW.trod_lt m _ _ _ hm
  have hw0 : ∀ m ∈ d0.weights Tryd.prog 24, m ≤ reachBytes := fun m hm => by simpa using List.all_eq_true.1 hsz2 m (DataW.weights_mem_each (j := 0) (t := 24) rfl rfl m hm)
  obtain ⟨z0, rfl, zf0, zb0⟩ := rec_came (hval 0 24 v0 rfl rfl) h0 hw0
  obtain ⟨A1, n1, c1, rfl⟩ := okWide_slice Tryd.underlying22 (hval 1 22 v1 rfl rfl)
  have k1 := h1
  have lt1 : ∀ x ∈ p1, x.block < W.heap.size := by obtain ⟨m, hm⟩ := k1; exact DataW.trod_lt m _ _ _ hm
  obtain ⟨l1, sl1, rd1, nc1, _, dd1⟩ : ∃ l, Small l ∧ Reads W W.heap.size A1 n1 (bts l) ∧ n1 ≤ c1 ∧ c1 ≤ maxLen ∧ ((d1 = .nil ∧ c1 = 0) ∨ ∃ es sp, d1 = .slice es sp ∧ es.length + sp.length = c1) := by obtain ⟨fuel, hf⟩ := h1; exact bytes_in (by simpa [Value.cells] using hf)
  have b1 : n1 ≤ 140737488351232 := by
    rcases dd1 with ⟨_, hc0⟩ | ⟨es, sp, hd, hc0⟩
    · omega
    · have := sized_slice (P := Tryd.prog) hsz2 (j := 1) (t := 22) (e := 5) rfl (by rw [hd]; rfl) Tryd.underlying22
      rw [bytesU8] at this; simp only [reachBytes] at this; omega
  obtain ⟨A2, n2, c2, rfl⟩ := okWide_slice Tryd.underlying22 (hval 2 22 v2 rfl rfl)
  have k2 := h2
  have lt2 : ∀ x ∈ p2, x.block < W.heap.size := by obtain ⟨m, hm⟩ := k2; exact DataW.trod_lt m _ _ _ hm
  obtain ⟨l2, sl2, rd2, nc2, _, dd2⟩ : ∃ l, Small l ∧ Reads W W.heap.size A2 n2 (bts l) ∧ n2 ≤ c2 ∧ c2 ≤ maxLen ∧ ((d2 = .nil ∧ c2 = 0) ∨ ∃ es sp, d2 = .slice es sp ∧ es.length + sp.length = c2) := by obtain ⟨fuel, hf⟩ := h2; exact bytes_in (by simpa [Value.cells] using hf)
  have b2 : n2 ≤ 140737488351232 := by
    rcases dd2 with ⟨_, hc0⟩ | ⟨es, sp, hd, hc0⟩
    · omega
    · have := sized_slice (P := Tryd.prog) hsz2 (j := 2) (t := 22) (e := 5) rfl (by rw [hd]; rfl) Tryd.underlying22
      rw [bytesU8] at this; simp only [reachBytes] at this; omega
  have hT := tabs_of_laid hL
  refine (walk z0 zf0 zb0 A1 n1 c1 l1 sl1 rd1 b1 A2 n2 c2 l2 sl2 rd2 b2 hT).mono fun e W' ⟨he, bel⟩ => ?_
  subst he
  exact ⟨_, rfl, _, _, _, [], _, [], hW', trodAll_mk1 (shut_bool Tryd.underlying4 _), (trodAll_cons_mk (Below.trod laidOut (by kernel_rfl) (of_decide_eq_true (by kernel_rfl)) k0 bel lt0) (trodAll_cons_mk (Below.trod laidOut (by kernel_rfl) (of_decide_eq_true (by kernel_rfl)) k1 bel lt1) (trodAll_cons_mk (Below.trod laidOut (by kernel_rfl) (of_decide_eq_true (by kernel_rfl)) k2 bel lt2) trodAll_mk0))), rfl, bel.frame _, fun h => by cases h⟩

theorem laid_met (os : Os) : laidMetH Tryd.prog laidBoth ((laidWorld os).forCall (fun _ _ => 0) ⟨#[], #[.agg #[.int .i64 0, .int .i64 0, .slice none 0 0], .slice none 0 0, .slice none 0 0], []⟩).memory :=
  laidMetH_of_parts3 (fuel := 8) (laidMet_of_run' 8 (by kernel_rfl) (by kernel_rfl)) (by kernel_rfl) (by kernel_rfl)
theorem reads (os : Os) {H : Type} (enc : TypeId × Value → H) : ∃ places, DataW.whole enc Tryd.prog ((laidWorld os).forCall (fun _ _ => 0) ⟨#[], #[.agg #[.int .i64 0, .int .i64 0, .slice none 0 0], .slice none 0 0, .slice none 0 0], []⟩).memory Tryd.f3.params.toList Rows.pplCodesSpec.vars false (#[.agg #[.int .i64 0, .int .i64 0, .slice none 0 0], .slice none 0 0, .slice none 0 0] : Array Value).toList 8 = some ([.agg [.lit (.int .i64 0), .lit (.int .i64 0), .nil], .nil, .nil], [], places) :=
  ⟨[], by kernel_rfl⟩
set_option maxRecDepth 100000 in
theorem lifted (os : Os) (started : os.Started) (H : Type) (enc : TypeId × Value → H) (F : Stop.Interp) :
    ReturnsInHanded {} Tryd.checked os 3 .any ((OpenSpec.ofChange Rows.pplCodesSpec).preRow enc Tryd.prog Tryd.f3 Rows.pplCodesRow.domain false Rows.pplCodesRow.laid) (((OpenSpec.ofChange Rows.pplCodesSpec).at F).post enc Tryd.prog Tryd.f3 false true false false) := by
  obtain ⟨places, hx⟩ := reads os enc
  refine returnsInHanded_of_row (C := Tryd.checked) (s := (OpenSpec.ofChange Rows.pplCodesSpec)) own started (by kernel_rfl) Tryd.func3
    (witness_row_at (enc := enc) (C := Tryd.checked) false (laidWorld os) #[.agg #[.int .i64 0, .int .i64 0, .slice none 0 0], .slice none 0 0, .slice none 0 0] rfl (by kernel_rfl) (by kernel_rfl) (by kernel_rfl)
      (OpenSpec.preRow_of_cond 8 hx (by kernel_rfl) (fun k hk => by cases hk) (by kernel_rfl) (laid_met os))) ?_
  intro W base args ds gs before hval hW _ hcond hsz hL _ _
  exact contract H enc W base args ds gs before hval hW hsz hL
theorem said : Rows.PplCodesSaid :=
  OpenClaim.holds_of_cond 3 Tryd.f3 rfl rfl rfl rfl rfl rfl rfl ⟨rfl, rfl, rfl, rfl, rfl⟩ rfl rfl rfl rfl rfl (by kernel_rfl) Tryd.func3 (by kernel_rfl)
    (of_decide_eq_true (by kernel_rfl)) (by unfold Func.isWrapper; first | (rw [if_pos (by decide +kernel)]; kernel_rfl) | (rw [if_neg (by decide +kernel)]; exact ⟨rfl, rfl⟩))
    (fun os started H enc _ F => by rw [OpenClaim.pre_eq_preRow]; exact lifted os started H enc F)
theorem plain (f : FuncId) (fn : Func) (hf : Tryd.pinned.checked.prog.funcNamed "ashlar/ashlarlaw07.PplCodes" = some f) (hfn : Tryd.pinned.checked.prog.funcs[f]? = some fn) :
    false = Tryd.pinned.checked.prog.looks [] ∧ ∀ (j : Nat) t, fn.params[j]? = some t → Tryd.pinned.checked.prog.wantsStandIn t = false := by
  obtain rfl : f = 3 := Option.some.inj ((show Tryd.prog.funcNamed "ashlar/ashlarlaw07.PplCodes" = some 3 by kernel_rfl).symm.trans hf) |>.symm
  obtain rfl : fn = Tryd.f3 := (Option.some.inj (Tryd.func3.symm.trans hfn)).symm
  refine ⟨by kernel_rfl, fun j t ht => ?_⟩
  rw [Tryd.params3] at ht
  have hm : t ∈ [24, 22, 22] := by simpa using Array.mem_of_getElem? ht
  have hall : ([24, 22, 22].all fun u => !Tryd.prog.wantsStandIn u) = true := by kernel_rfl
  exact (show Tryd.prog.wantsStandIn t = false by simpa using List.all_eq_true.1 hall t hm)

/-- ████ THE CARD ████ -/
theorem card : Rows.PplCodesCardSaid :=
  Claim7.holds_tied_plain_at .later [] _ _ _ _ said (fun _ h => by cases h) (by kernel_rfl) (fun _ h => by cases h) pplCodes_row_tie rfl ⟨rfl, rfl⟩ (by kernel_rfl) rfl plain (by kernel_rfl)
end Go.Proofs.YtohdieddocogkaaDoor.U.pplCodes
