/-
  path's Parent; Join, the program's and the definition's: every list of texts.
  Conditions: each theorem's own.
-/
import Derived.Test.YtblkfiaeifckjaaN8
namespace Go.Proofs.Ytblkfiaeifckjaa
open Go.RowKit Go.Shelf

theorem own_le {W : World} {base size n : Nat} {e : TypeId} {v : Value} {xs : List Value} (h : W.ownsRow base e size v n xs) : n ≤ maxLen := by
  rcases h.2 with ⟨_, rfl⟩ | ⟨g, cap, cur, _, _, _, hc, hm, _⟩
  · exact Nat.zero_le _
  · exact Nat.le_trans hc hm
theorem addr_add_plain (b o j : Nat) : (⟨b, o, none⟩ : Addr).add j = ⟨b, o + j, none⟩ := by unfold Addr.add; split <;> simp_all
theorem addr_plain {w : World} {a : Addr} {v : Value} (h : w.cell? a = some v) : a = ⟨a.block, a.off, none⟩ := by
  obtain ⟨b, o, s⟩ := a
  cases s with
  | none => rfl
  | some s =>
    unfold World.cell? at h
    split at h
    · simp at h
    · cases h
/-- A parent: the error, the names, the last one. -/
def parentE (p : Bs) : Int × List Bs × Bs :=
  if (splitE p).1 ≠ 0 then ((splitE p).1, [], []) else if (splitE p).2 = [] then (25, [], []) else (0, (splitE p).2.take ((splitE p).2.length - 1), (splitE p).2.getLastD [])
theorem splitE_err_nil (p : Bs) (h : (splitE p).1 ≠ 0) : (splitE p).2 = [] := by
  unfold splitE at h ⊢
  split
  · rfl
  · split
    · rfl
    · split
      · rfl
      · rename_i h1 h2 h3
        rw [if_neg h1, if_neg h2, if_neg h3] at h
        exact absurd rfl h

set_option maxRecDepth 100000 in
set_option maxHeartbeats 2000000 in
theorem parentFresh (p : ByteArray) (w : World) (hs : p.size ≤ 4611686018427387904) :
    Calls Try.prog 15 #[.string p] w fun e W' => ∃ A, e = .returned (.tuple #[.slice A (parentE p.data.toList).2.1.length (parentE p.data.toList).2.1.length, sv (parentE p.data.toList).2.2, .int .i64 (parentE p.data.toList).1]) ∧ Reads W' W'.heap.size A (parentE p.data.toList).2.1.length (svs (parentE p.data.toList).2.1) ∧ Below w.heap.size w W' ∧ ∀ ad, A = some ad → w.heap.size ≤ ad.block := by
  have HS := Lib.hid (fun w => split p w hs)
  obtain ⟨r, hr⟩ : ∃ r, splitE p.data.toList = r := ⟨_, rfl⟩
  obtain ⟨e0, l⟩ := r
  have hnil := splitE_err_nil p.data.toList
  rw [hr] at HS hnil
  dsimp only at HS hnil
  have hP : parentE p.data.toList = if e0 ≠ 0 then (e0, [], []) else if l = [] then (25, [], []) else (0, l.take (l.length - 1), l.getLastD []) := by unfold parentE; rw [hr]
  by_cases he : e0 ≠ 0
  · rw [if_pos he] at hP
    rw [hP]
    have hze : (e0 != 0) = true := bne_iff_ne.2 he
    have hze2 : (e0 == 0) = false := beq_eq_false_iff_ne.2 he
    go_enter Try.func15, Try.ntmps15
    go_wp2_with (go_at_call 13; refine (HS.out _).mono ?_; rintro e w' ⟨v, rfl, hrow, hb⟩)
    refine bodyPost_ret (results_tmp3 rfl _ _ _) rfl ?_
    exact ⟨none, rfl, Reads.none_, hb, fun _ h => by cases h⟩
  · rw [if_neg he] at hP
    obtain rfl : e0 = 0 := by omega
    by_cases hl : l = []
    · rw [if_pos hl] at hP
      rw [hP]
      subst hl
      go_enter Try.func15, Try.ntmps15
      go_wp2_with (go_at_call 13; refine (HS.out _).mono ?_; rintro e w' ⟨v, rfl, hrow, hb⟩; have hlv := own_len hrow; simp only [List.length_nil] at hlv)
      refine bodyPost_ret (results_tmp3 rfl _ _ _) rfl ?_
      exact ⟨none, rfl, Reads.none_, hb, fun _ h => by cases h⟩
    · rw [if_neg hl] at hP
      rw [hP]
      dsimp only
      obtain ⟨k, hk⟩ : ∃ k, l.length = k + 1 := ⟨l.length - 1, by have := List.length_pos_iff.2 hl; omega⟩
      have hlast : l[k]? = some (l.getLastD []) := by
        rw [List.getLastD_eq_getLast?, List.getLast?_eq_getElem?, hk]
        simp
        rw [List.getElem?_eq_getElem (by omega)]; simp
      have htk : (l.take (l.length - 1)).length = k := by simp; omega
      rw [htk, hk, Nat.add_sub_cancel]
      go_enter Try.func15, Try.ntmps15
      go_wp2_with (go_at_call 13; refine (HS.out _).mono ?_; rintro e w' ⟨v, rfl, hrow, hb⟩; rw [hk] at hrow; have hlv := own_len hrow; have hrd := Lib.hid hrow; obtain ⟨A, c, hv, hkc⟩ := own_slice hrow; have hkm := own_le hrow; have hwk : wrap64 (k : Int) = (k : Int) := (by unfold maxLen at hkm; unfold wrap64; omega))
      have hR := Reads.of_own (hv ▸ hrd.out)
      obtain ⟨ad, u, hA, hblt, hu, hcl⟩ := hR.at_ (k := k) (by omega)
      rw [svs_get l k _ hlast] at hu
      obtain rfl := Option.some.inj hu
      subst hA
      have hge : w.heap.size ≤ ad.block := (hrd.out.lt ad.block (by rw [hv]; rfl)).1
      subst hv
      have hR0 := Lib.hid (Reads.take (k := k) hR (by omega))
      have HH := Lib.hid (fun w => head w (some ad) (k + 1) c k (by omega))
      unfold sv at hcl
      clear hlv hrow hR
      go_quiet ((go_at_call 24; exact Calls.quiet_of_same (HH.out _)))
      go_wp2
      refine bodyPost_ret (results_tmp3 rfl _ _ _) rfl ?_
      exact ⟨_, rfl, hR0.out.drewN _, hb.trans (drew_below _), fun a h => by cases h; exact hge⟩
theorem parent (p : ByteArray) (w : World) (hs : p.size ≤ 4611686018427387904) :
    Calls Try.prog 15 #[.string p] w fun e W' => ∃ A, e = .returned (.tuple #[.slice A (parentE p.data.toList).2.1.length (parentE p.data.toList).2.1.length, sv (parentE p.data.toList).2.2, .int .i64 (parentE p.data.toList).1]) ∧ Reads W' W'.heap.size A (parentE p.data.toList).2.1.length (svs (parentE p.data.toList).2.1) ∧ Below w.heap.size w W' :=
  (parentFresh p w hs).mono fun _ _ ⟨A, he, hr, hb, _⟩ => ⟨A, he, hr, hb⟩

/-- The first error of names, in order. -/
def firstE : List Bs → Int
  | [] => 0
  | x :: xs => if nameE x ≠ 0 then nameE x else firstE xs
def flat : List Bs → Bs
  | [] => []
  | x :: xs => 47 :: x ++ flat xs
def pathOf (l : List Bs) : Bs := if l = [] then [47] else flat l
def joinE (l : List Bs) : Int × Bs :=
  if firstE l ≠ 0 then (firstE l, []) else if 16 < l.length then (26, []) else if 255 < (pathOf l).length then (26, []) else (0, pathOf l)
theorem flat_append (l m : List Bs) : flat (l ++ m) = flat l ++ flat m := by
  induction l with
  | nil => rfl
  | cons x r ih => simp [flat, ih]
theorem join_flat : ∀ l : List Bs, l ≠ [] → flat l = 47 :: Lib.join l [47]
  | [], h => absurd rfl h
  | x :: r, _ => by
    rw [Lib.join_cons]
    have : ∀ r : List Bs, flat r = Lib.joinTail [47] r := fun r => by
      induction r with
      | nil => rfl
      | cons y s ih => simp [flat, Lib.joinTail, ih]
    simp [flat, this]
theorem pathOf_join (l : List Bs) : pathOf l = 47 :: Lib.join l [47] := by
  unfold pathOf
  by_cases h : l = []
  · subst h; rw [if_pos rfl, Lib.join_nil]
  · rw [if_neg h, join_flat l h]
theorem firstE_at : ∀ {l : List Bs} {i : Nat} {x : Bs}, (∀ j y, j < i → l[j]? = some y → nameE y = 0) → l[i]? = some x → nameE x ≠ 0 → firstE l = nameE x
  | [], i, x, _, h, _ => by simp at h
  | y :: r, 0, x, _, h, hx => by simp at h; subst h; simp [firstE, hx]
  | y :: r, i + 1, x, ha, h, hx => by
    have h0 : nameE y = 0 := ha 0 y (Nat.succ_pos _) rfl
    rw [firstE, if_neg (not_not_intro h0)]
    exact firstE_at (i := i) (fun j z hj hz => ha (j + 1) z (by omega) (by simpa using hz)) (by simpa using h) hx
theorem firstE_none : ∀ {l : List Bs}, (∀ (j : Nat) y, l[j]? = some y → nameE y = 0) → firstE l = 0
  | [], _ => rfl
  | y :: r, ha => by
    rw [firstE, if_neg (not_not_intro (ha 0 y rfl))]
    exact firstE_none fun j z hz => ha (j + 1) z (by simpa using hz)
theorem nameE_len {x : Bs} (h : nameE x = 0) : x.length ≤ 27 := by
  unfold nameE at h
  split at h
  · exact absurd h (by decide)
  · split at h
    · exact absurd h (by decide)
    · omega
theorem flat_len : ∀ {l : List Bs}, (∀ (j : Nat) y, l[j]? = some y → nameE y = 0) → (flat l).length ≤ 28 * l.length
  | [], _ => Nat.le_refl _
  | y :: r, ha => by
    have h1 := nameE_len (ha 0 y rfl)
    have h2 := flat_len (l := r) fun j z hz => ha (j + 1) z (by simpa using hz)
    simp only [flat, List.length_append, List.length_cons]; omega
theorem joinE_bad {l : List Bs} (h : firstE l ≠ 0) : joinE l = (firstE l, []) := by unfold joinE; rw [if_pos h]
theorem joinE_many {l : List Bs} (h : firstE l = 0) (h2 : 16 < l.length) : joinE l = (26, []) := by unfold joinE; rw [if_neg (not_not_intro h), if_pos h2]
theorem joinE_long {l : List Bs} (h : firstE l = 0) (h2 : ¬ 16 < l.length) (h3 : 255 < (pathOf l).length) : joinE l = (26, []) := by unfold joinE; rw [if_neg (not_not_intro h), if_neg h2, if_pos h3]
theorem joinE_ok {l : List Bs} (h : firstE l = 0) (h2 : ¬ 16 < l.length) (h3 : ¬ 255 < (pathOf l).length) : joinE l = (0, pathOf l) := by unfold joinE; rw [if_neg (not_not_intro h), if_neg h2, if_neg h3]

/-- The texts that the list holds are no longer than any text. -/
def Fine (l : List Bs) : Prop := ∀ (j : Nat) x, l[j]? = some x → x.length ≤ 4611686018427387904
theorem name_of {x : Bs} (hx : x.length ≤ 4611686018427387904) (w : World) :
    Calls Try.prog 11 #[sv x] w fun e w' => e = .returned (.int .i64 (nameE x)) ∧ Below w.heap.size w w' := name_at ⟨x, hx⟩ w

set_option maxRecDepth 100000 in
set_option maxHeartbeats 2000000 in
/-- path's Join. -/
theorem join (A : Option Addr) (n c : Nat) (l : List Bs) (w : World) (hl : Reads w w.heap.size A n (svs l)) (hF : Fine l) (hn : n ≤ 140737488355328) (hc : n ≤ c) :
    Calls Try.prog 17 #[.slice A n c] w fun e w' => e = .returned (.tuple #[sv (joinE l).2, .int .i64 (joinE l).1]) ∧ Below w.heap.size w w' := by
  have HL := Lib.hid hl
  have HFi := Lib.hid hF
  have ll := hl.slen
  clear hl hF
  go_enter Try.func17, Try.ntmps17
  go_wp2
  go_loopw [5, 6, 10] (fun _ _ s10 wr => ∃ i : Nat, i ≤ n ∧ s10 = .int .i64 i ∧ Below w.heap.size w wr ∧ ∀ j y, j < i → l[j]? = some y → nameE y = 0) (fun _ _ s10 _ => n - (intOf s10).toNat)
  case atStart => exact ⟨0, Nat.zero_le _, rfl, Below.refl _ _, fun _ _ h => absurd h (Nat.not_lt_zero _)⟩
  case round =>
    obtain ⟨i, hi, rfl, hB, hok⟩ := hrel
    have HB := Lib.hid hB
    have HK := Lib.hid hok
    clear hB hok
    by_cases hlt : i < n
    · obtain ⟨ad, x, rfl, _, hx, hcl⟩ := (HL.out.below HB.out).str hlt
      have hiz : (i : Int) < (n : Int) := by omega
      have HX := Lib.hid hx
      have HN := Lib.hid (fun w => name_of (HFi.out i x hx) w)
      clear hx
      unfold sv at hcl HN
      by_cases hne : nameE x = 0
      · rw [hne] at HN
        go_wp2_with (go_at_call 11; refine (HN.out _).mono ?_; rintro e w1 ⟨rfl, hb1⟩)
        go_roundw
        case rel =>
          refine ⟨i + 1, by omega, by go_num, HB.out.trans (hb1.mono HB.out.size), fun j y hj hy => ?_⟩
          by_cases e : j = i
          · subst e; rw [HX.out] at hy; obtain rfl := Option.some.inj hy; exact hne
          · exact HK.out j y (by omega) hy
        case measure => simp only [intOf]; omega
      · have hE := Lib.hid (firstE_at HK.out HX.out hne)
        have hJ := Lib.hid (joinE_bad (l := l) (by rw [hE.out]; exact hne))
        rw [hE.out] at hJ
        obtain ⟨z, hz⟩ : ∃ z, nameE x = z := ⟨_, rfl⟩
        rw [hz] at HN hne hJ
        have hze : (z != 0) = true := bne_iff_ne.2 hne
        have hze2 : (z == 0) = false := beq_eq_false_iff_ne.2 hne
        go_wp2_with (go_at_call 11; refine (HN.out _).mono ?_; rintro e w1 ⟨rfl, hb1⟩)
        refine bodyPost_ret (results_tmp2 rfl _ _ _) rfl ?_
        exact ⟨by rw [hJ.out]; rfl, HB.out.trans (hb1.mono HB.out.size)⟩
    · obtain rfl : i = n := by omega
      have hall := Lib.hid (show ∀ (j : Nat) y, l[j]? = some y → nameE y = 0 from fun j y hy => HK.out j y (by rw [← ll]; exact (List.getElem?_eq_some_iff.1 hy).1) hy)
      have h0 := firstE_none hall.out
      by_cases h16 : 16 < i
      · have hJ := Lib.hid (joinE_many h0 (by omega))
        have hz : ¬ (i : Int) ≤ 16 := by omega
        have hz2 : (16 : Int) < (i : Int) := by omega
        go_wp2
        refine bodyPost_ret (results_tmp2 rfl _ _ _) rfl ?_
        exact ⟨by rw [hJ.out]; rfl, HB.out⟩
      · have hz : (i : Int) ≤ 16 := by omega
        have hz2 : ¬ (16 : Int) < (i : Int) := by omega
        have hfl := flat_len hall.out
        have hpj := pathOf_join l
        have hJn : ∀ wr, Below w.heap.size w wr → Calls Try.prog 25 #[.slice A i c, .string ⟨#[47]⟩] wr fun e w' => e = .returned (.string ⟨(Lib.join l [47]).toArray⟩) ∧ Below wr.heap.size wr w' := fun wr hbw => by
          by_cases hl0 : l = []
          · subst hl0
            obtain rfl : i = 0 := by simpa using ll.symm
            refine (Try.strings_Join_none A c ⟨#[47]⟩ wr).mono ?_
            rintro e w' ⟨rfl, rfl⟩
            exact ⟨rfl, Below.refl _ _⟩
          · have hpos := List.length_pos_iff.2 hl0
            obtain ⟨ad, e, hb, hcl⟩ := (HL.out.below hbw).2 (by omega)
            obtain ⟨x0, hx0⟩ : ∃ x0, l[0]? = some x0 := ⟨_, List.getElem?_eq_getElem hpos⟩
            have hp := addr_plain (hcl 0 _ (svs_get l 0 x0 hx0))
            have ha0 : ad.add 0 = ad := by unfold Addr.add; simp
            rw [ha0] at hp
            rw [hp] at e hcl
            have hmap : (l.map fun x => (⟨x.toArray⟩ : ByteArray)).map (·.data.toList) = l := by rw [List.map_map]; exact List.map_id'' (fun x => by simp) l
            have hj := Try.strings_Join ad.block ad.off c (l.map fun x => (⟨x.toArray⟩ : ByteArray)) ⟨#[47]⟩ wr (fun j x hx => by
              rw [List.getElem?_map] at hx
              obtain ⟨y, hy, rfl⟩ := Option.map_eq_some_iff.1 hx
              have h1 := hcl j _ (svs_get l j y hy)
              rw [addr_add_plain] at h1
              exact h1) (by have := hbw.size; omega) (by rw [List.length_map]; omega) (by rw [List.length_map]; omega) (by
                rw [hmap]
                have h2 : (Lib.join l [47]).length + 1 = (pathOf l).length := by rw [hpj]; simp
                have h3 : pathOf l = flat l := by unfold pathOf; rw [if_neg hl0]
                rw [h3] at h2
                show (Lib.join l [47]).length ≤ _
                omega)
            rw [hmap, List.length_map, ll] at hj
            rw [e]
            exact hj
        obtain ⟨J, hJ⟩ : ∃ J : ByteArray, (⟨(Lib.join l [47]).toArray⟩ : ByteArray) = J := ⟨_, rfl⟩
        have hJl : J.data.toList = Lib.join l [47] := by rw [← hJ]
        rw [hJ] at hJn
        have HJn := Lib.hid (hJn _ HB.out)
        clear hJn hJ
        have hP : (⟨#[47]⟩ ++ J : ByteArray).data.toList = pathOf l := by
          rw [ByteArray.data_append, Array.toList_append, hJl, hpj]; rfl
        have hPs : (⟨#[47]⟩ ++ J : ByteArray).size = (pathOf l).length := by rw [Lib.size_eq, hP]
        have hfp : (pathOf l).length ≤ 449 := by
          unfold pathOf
          split
          · simp
          · omega
        have hcat : ∀ w, (Op.stringOp .add ⟨#[47]⟩ J).run Try.prog w = .ok (.string (⟨#[47]⟩ ++ J)) w := fun w => run_string_add_sum w _ _ (by
          have h1 : (⟨#[47]⟩ ++ J : ByteArray).size = (⟨#[47]⟩ : ByteArray).size + J.size := by simp
          rw [← h1]; omega)
        have hbig : ¬ ((⟨#[47]⟩ : ByteArray).size + J.size > 9223372036854775807) := by
          have h1 : (⟨#[47]⟩ ++ J : ByteArray).size = (⟨#[47]⟩ : ByteArray).size + J.size := by simp
          rw [← h1]; omega
        obtain ⟨T, hT⟩ : ∃ T : ByteArray, (⟨#[47]⟩ ++ J : ByteArray) = T := ⟨_, rfl⟩
        rw [hT] at hP hPs hcat
        have HP := Lib.hid (sv_of hP)
        clear hJl hpj hP hfl
        by_cases h255 : 255 < (pathOf l).length
        · have hE := Lib.hid (joinE_long h0 (by omega) h255)
          have hz3 : (255 : Int) < (T.size : Int) := by omega
          clear hPs
          go_wp2_with (go_at_call 25; refine HJn.out.mono ?_; rintro e w1 ⟨rfl, hb1⟩)
          refine bodyPost_ret (results_tmp2 rfl _ _ _) rfl ?_
          exact ⟨by rw [hE.out]; rfl, HB.out.trans (hb1.mono HB.out.size)⟩
        · have hE := Lib.hid (joinE_ok h0 (by omega) h255)
          have hz3 : ¬ (255 : Int) < (T.size : Int) := by omega
          have hz4 : (T.size : Int) ≤ 255 := by omega
          clear hPs
          go_wp2_with (go_at_call 25; refine HJn.out.mono ?_; rintro e w1 ⟨rfl, hb1⟩)
          refine bodyPost_ret (results_tmp2 rfl _ _ _) rfl ?_
          exact ⟨by rw [hE.out, HP.out]; rfl, HB.out.trans (hb1.mono HB.out.size)⟩
end Go.Proofs.Ytblkfiaeifckjaa
