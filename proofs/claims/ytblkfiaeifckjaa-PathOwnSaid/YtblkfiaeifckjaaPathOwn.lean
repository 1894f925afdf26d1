/-
  PathOwn is true for all texts: the names of a parent are memory of their own: what is put behind them changes no other answer.
  Conditions: none.
-/
import Derived.Test.YtblkfiaeifckjaaN15
import Derived.ArgAppend
namespace Go.Proofs.Ytblkfiaeifckjaa.pathOwn
open Go.ChangeShapes Go.WideShapes Go.ChangeAt Go.RowKit

theorem parent_case (p : Bs) : ∃ e l x, parentE p = (e, l, x) ∧ l.length < 16 := by
  rcases split_cases p with ⟨e, _, _, h⟩ | ⟨_, h⟩ | ⟨l, k, _, hk, h16, x, _, h⟩
  · exact ⟨e, [], [], h, by simp⟩
  · exact ⟨25, [], [], h, by simp⟩
  · exact ⟨0, l.take k, x, h, by simp; omega⟩
theorem Reads.other {w : World} {D n b : Nat} {A : Option Addr} {xs : List Value} (h : Reads w D A n xs) (hne : ∀ ad, A = some ad → ad.block ≠ b) (o : Nat) (u : Value) : Reads (w.setCell ⟨b, o, none⟩ u) D A n xs :=
  ⟨h.1, fun hn => by
    obtain ⟨ad, e, hb, hc⟩ := h.2 hn
    refine ⟨ad, e, hb, fun j v hv => ?_⟩
    rw [World.cell?_setCell_other w _ _ u (fun e2 => hne ad e (by rw [← block_of_add ad j, ← e2]))]
    exact hc j v hv⟩

set_option maxRecDepth 100000 in
set_option maxHeartbeats 4000000 in
theorem walk {w : World} (s : ByteArray) (hs : s.size ≤ 140737488351232) (more : ByteArray) (_ : more.size ≤ 140737488351232) :
    Calls Try.prog 9 #[.string s, .string more] w fun e w' => e = .returned (.bool true) ∧ Below w.heap.size w w' := by
  obtain ⟨i0, hi, hz0, hz1, hz2⟩ := info_parts info_str
  obtain ⟨eP, lP, xP, hr, h16⟩ := parent_case s.data.toList
  have HP := Lib.hid (fun w => parentFresh s w (by omega))
  rw [hr] at HP
  dsimp only at HP
  obtain ⟨k, hk⟩ : ∃ k, lP.length = k := ⟨_, rfl⟩
  rw [hk] at HP h16
  unfold sv at HP
  obtain ⟨X, hX⟩ : ∃ X : ByteArray, (⟨xP.toArray⟩ : ByteArray) = X := ⟨_, rfl⟩
  rw [hX] at HP
  clear hX hr
  go_enter Try.func9, Try.ntmps9
  go_wp2_with (fail)
  refine (HP.out _).mono ?_
  rintro e w1 ⟨A1, rfl, r1, hb1, _⟩
  go_wp2_with (fail)
  refine (HP.out _).mono ?_
  rintro e w2 ⟨A2, rfl, r2, hb2, _⟩
  go_wp2_with (fail)
  refine (lives _).mono ?_
  rintro e w3 ⟨rfl, hb3⟩
  have b13 := hb2.trans (hb3.mono hb2.size)
  have HB3 := Lib.hid (hb1.trans (b13.mono hb1.size))
  have R1 := Lib.hid ((r1.below b13).more b13.size)
  have R2 := Lib.hid ((r2.below hb3).more hb3.size)
  clear hb1 hb2 hb3 b13 r1 r2
  have hfull : k < k + 1 := by omega
  have h1 : A1 = none → k = 0 ∧ k = 0 := fun h => by
    by_cases h0 : 0 < k
    · obtain ⟨ad, h1, _⟩ := R1.out.2 h0
      rw [h] at h1; cases h1
    · omega
  have h2 : (svs lP).length = k * 1 := by rw [svs_length]; omega
  have h3 : ∀ b, A1 = some b → ∀ j u, (svs lP)[j]? = some u → (w3.alloc (.cells #[.string more] 9)).cell? (b.add j) = some u := fun b hb j u hu => by
    have hj : j < k := by
      have := (List.getElem?_eq_some_iff.1 hu).1
      rw [svs_length] at this; omega
    obtain ⟨ad, h1, _, hc⟩ := (R1.out.alloc (Nat.le_refl _) _).2 (Nat.lt_of_le_of_lt (Nat.zero_le _) hj)
    rw [hb] at h1
    obtain rfl := Option.some.inj h1
    exact hc j u hu
  have H1 := Lib.hid h1
  have H2 := Lib.hid h2
  have H3 := Lib.hid h3
  clear h1 h2 h3
  go_wp2_with (at_builtin; refine wpList_append_grows _ rfl _ _ 26 rfl 9 i0 (.string ⟨#[]⟩) 1 16 Try.underlying26 hi hz0 hz1 hz2 rfl (by decide) A1 k k (svs lP) rfl (by exact H1.out) (by exact H2.out) (by exact H3.out) ⟨w3.heap.size, 0, none⟩ 1 1 [.string more] rfl rfl (cell_one_new _ _ _) (by simp [Value.oneCell']) hfull (by unfold maxLen; omega) (by omega) ?_; intro v' w4 hown hgr)
  have hb34 : Below w3.heap.size w3 w4 := ((Below.refl _ w3).alloc (Nat.le_refl _) _).grown hgr (by simp) (fun g h => by cases h)
  obtain ⟨g, cap, rfl⟩ := ownsRow_succ hown
  have hg1 := (hown.lt g rfl).1
  have hg2 := (hown.lt g rfl).2
  rw [World.size_alloc] at hg1
  have HO := Lib.hid hown
  have HB4 := Lib.hid (HB3.out.trans (hb34.mono HB3.out.size))
  have R2 := Lib.hid (R2.out.below hb34)
  clear hown hb34 hgr R1
  go_wp2_with (fail)
  refine (HP.out _).mono ?_
  rintro e w5 ⟨A5, rfl, r5, hb5, hf5⟩
  have HO := Lib.hid (own_below HO.out hb5)
  have HB5 := Lib.hid (HB4.out.trans (hb5.mono HB4.out.size))
  have R2 := Lib.hid (R2.out.below (hb5.mono (by omega)))
  have R5 := Lib.hid r5
  have hne : ∀ ad, A5 = some ad → ad.block ≠ g := fun ad h e => by have := hf5 ad h; omega
  have HNE := Lib.hid hne
  clear hb5 r5 hf5 hne
  go_wp2
  go_loopw [15] (fun s15 wr => ∃ (i : Nat) (ys : List Value), i ≤ k + 1 ∧ s15 = .int .i64 i ∧ wr.ownsRow (w3.heap.size + 1) 9 1 (.slice (some ⟨g, 0, none⟩) (k + 1) cap) (k + 1) ys ∧ Reads wr w3.heap.size A2 k (svs lP) ∧ Reads wr w5.heap.size A5 k (svs lP) ∧ Below w.heap.size w wr) (fun s15 _ => k + 1 - (intOf s15).toNat)
  case atStart => exact ⟨0, _, Nat.zero_le _, rfl, by simpa using HO.out, R2.out, R5.out, HB5.out⟩
  case round =>
    obtain ⟨i, ys, hi1, rfl, hown, hr2, hr5, hbel⟩ := hrel
    have HO := Lib.hid hown
    have R2 := Lib.hid hr2
    have R5 := Lib.hid hr5
    have HB := Lib.hid hbel
    clear hr2 hr5 hbel
    by_cases hlt : i < k + 1
    · have hiz : (i : Int) < ((k + 1 : Nat) : Int) := by omega
      have hiz2 : (i : Int) < (k : Int) + 1 := by omega
      have hl := hown.1
      obtain ⟨u, hu⟩ : ∃ u, ys[i]? = some u := ⟨_, List.getElem?_eq_getElem (by omega)⟩
      have hcell := hown.cellAt i (by omega)
      rw [hu] at hcell
      have hfr := hown.frozenAt i
      have hst := (hown.stored i (.string ⟨#[99, 104, 97, 110, 103, 101, 100]⟩)).1
      have HST := Lib.hid hst
      clear hown hst
      go_wp2
      have hwg : w.heap.size ≤ g := by have := HB3.out.size; omega
      exact ⟨⟨i + 1, _, by omega, by go_num, HST.out, R2.out.setCell (p := ⟨g, i, none⟩) (by show w3.heap.size ≤ g; omega) _, Reads.other R5.out HNE.out i _, HB.out.setCell (p := ⟨g, i, none⟩) hwg _⟩, by simp only [intOf]; omega⟩
    · obtain rfl : i = k + 1 := by omega
      have hiz : ¬ (((k + 1 : Nat) : Int) < ((k + 1 : Nat) : Int)) := by omega
      have hiz2 : ¬ ((k : Int) + 1 < (k : Int) + 1) := by omega
      clear hown
      go_wp2_with (fail)
      refine (refSame A2 A5 k k k k lP lP _ _ _ R2.out R5.out (by omega)).mono ?_
      rintro e w6 ⟨rfl, q6, rfl⟩
      rw [show decide (lP = lP) = true from decide_eq_true rfl]
      go_wp2
      go_ret
      exact ⟨rfl, HB.out.trans (drew_below _)⟩
set_option maxRecDepth 100000 in
/-- WHAT THE WALK GIVES, FOR EVERY ARGUMENT AND EVERY WORLD THAT HOLDS THE TABLES. -/
theorem contract (H : Type) (enc : TypeId × Value → H) (W : World) (base : Nat) (args : Array Value) (ds gs : List (DataW H)) (before : List MemPlace)
    (hval : ∀ (j : Nat) t v, Try.f9.params[j]? = some t → args[j]? = some v → Value.okWide Try.prog W .any base t v)
    (hW : DataW.Whole enc Try.prog Try.f9.params.toList Rows.pathOwnSpec.vars false W args.toList ds gs before)
    (hsz : (DataW.weightsEach Try.prog (Try.f9.params.toList ++ (OpenSpec.ofChange Rows.pathOwnSpec).bare.plain.varTypes Try.prog) (ds ++ gs)).all (· ≤ reachBytes) = true) (_hL : laidMetH Try.prog laidBoth W) :
    Calls Try.prog 9 args W fun e W' => ∃ v, e = .returned v ∧ Rows.pathOwnSpec.post enc Try.prog Try.f9 false true false false W args v W' := by
  have hW' := hW
  obtain ⟨p, q, hA0, hV, rfl, hfz, hnd⟩ := hW
  have hA : DataW.TrodAll enc Try.prog W 0 (fun _ => true) true Try.f9.params.toList args.toList ds p := hA0
  have hsz2 : (DataW.weightsEach Try.prog (Try.f9.params.toList ++ []) (ds ++ gs)).all (· ≤ reachBytes) = true := hsz
  rw [Try.params9] at hA hval hsz2
  obtain ⟨v0, vs0, d0, ds0, p0, q0, hargs, rfl, rfl, h0, r0⟩ := trodAll_cons hA
  obtain ⟨v1, vs1, d1, ds1, p1, q1, rfl, rfl, rfl, h1, r1⟩ := trodAll_cons r0
  obtain ⟨rfl, rfl, rfl⟩ := trodAll_nil r1
  obtain rfl : args = #[v0, v1] := by cases args; simp_all
  obtain ⟨rfl, rfl⟩ := trodVars_none hV
  have hw0 : ∀ m ∈ d0.weights Try.prog 9, m ≤ reachBytes := fun m hm => by simpa using List.all_eq_true.1 hsz2 m (DataW.weights_mem_each (j := 0) (t := 9) rfl rfl m hm)
  obtain ⟨s0, rfl, rfl, rfl, b0⟩ := str_in (hval 0 9 v0 rfl rfl) h0 hw0
  have hw1 : ∀ m ∈ d1.weights Try.prog 9, m ≤ reachBytes := fun m hm => by simpa using List.all_eq_true.1 hsz2 m (DataW.weights_mem_each (j := 1) (t := 9) rfl rfl m hm)
  obtain ⟨s1, rfl, rfl, rfl, b1⟩ := str_in (hval 1 9 v1 rfl rfl) h1 hw1
  refine (walk s0 b0 s1 b1).mono fun e W' ⟨he, bel⟩ => ?_
  subst he
  exact ⟨_, rfl, _, _, _, [], _, [], hW', trodAll_mk1 (shut_bool Try.underlying4 _), (trodAll_cons_mk (shut_str b0) (trodAll_cons_mk (shut_str b1) trodAll_mk0)), rfl, bel.frame _, fun h => by cases h⟩

theorem laid_met (os : Os) : laidMetH Try.prog laidBoth ((laidWorld os).forCall (fun _ _ => 0) ⟨#[], #[.string ⟨#[]⟩, .string ⟨#[]⟩], []⟩).memory :=
  laidMetH_of_parts3 (fuel := 8) (laidMet_of_run' 8 (by kernel_rfl) (by kernel_rfl)) (by kernel_rfl) (by kernel_rfl)
theorem reads (os : Os) {H : Type} (enc : TypeId × Value → H) : ∃ places, DataW.whole enc Try.prog ((laidWorld os).forCall (fun _ _ => 0) ⟨#[], #[.string ⟨#[]⟩, .string ⟨#[]⟩], []⟩).memory Try.f9.params.toList Rows.pathOwnSpec.vars false (#[.string ⟨#[]⟩, .string ⟨#[]⟩] : Array Value).toList 8 = some ([.lit (.string []), .lit (.string [])], [], places) :=
  ⟨[], by kernel_rfl⟩
set_option maxRecDepth 100000 in
theorem lifted (os : Os) (started : os.Started) (H : Type) (enc : TypeId × Value → H) (F : Stop.Interp) :
    ReturnsInHanded {} Try.checked os 9 .any ((OpenSpec.ofChange Rows.pathOwnSpec).preRow enc Try.prog Try.f9 Rows.pathOwnRow.domain false Rows.pathOwnRow.laid) (((OpenSpec.ofChange Rows.pathOwnSpec).at F).post enc Try.prog Try.f9 false true false false) := by
  obtain ⟨places, hx⟩ := reads os enc
  refine returnsInHanded_of_row (C := Try.checked) (s := (OpenSpec.ofChange Rows.pathOwnSpec)) own started (by kernel_rfl) Try.func9
    (witness_row_at (enc := enc) (C := Try.checked) false (laidWorld os) #[.string ⟨#[]⟩, .string ⟨#[]⟩] rfl (by kernel_rfl) (by kernel_rfl) (by kernel_rfl)
      (OpenSpec.preRow_of_cond 8 hx (by kernel_rfl) (fun k hk => by cases hk) (by kernel_rfl) (laid_met os))) ?_
  intro W base args ds gs before hval hW _ hcond hsz hL _ _
  exact contract H enc W base args ds gs before hval hW hsz hL
theorem said : Rows.PathOwnSaid :=
  OpenClaim.holds_of_cond 9 Try.f9 rfl rfl rfl rfl rfl rfl rfl ⟨rfl, rfl, rfl, rfl, rfl⟩ rfl rfl rfl rfl rfl (by kernel_rfl) Try.func9 (by kernel_rfl)
    (of_decide_eq_true (by kernel_rfl)) (by unfold Func.isWrapper; first | (rw [if_pos (by decide +kernel)]; kernel_rfl) | (rw [if_neg (by decide +kernel)]; exact ⟨rfl, rfl⟩))
    (fun os started H enc _ F => by rw [OpenClaim.pre_eq_preRow]; exact lifted os started H enc F)
end Go.Proofs.Ytblkfiaeifckjaa.pathOwn
