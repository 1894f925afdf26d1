/-
  path's Split: every text.
  Conditions: none but that the text is no longer than any text.
-/
import Derived.Test.YtblkfiaeifckjaaN5
namespace Go.Proofs.Ytblkfiaeifckjaa
open Go.RowKit Go.Shelf
attribute [local go_sem] Oper.semAt_some

theorem grown_of_below {w w' : World} (h : Below w.heap.size w w') : w.grownBy w' none := ⟨h.os, h.tape, h.output, h.size, fun k hk _ => h.block k hk⟩
theorem keeps_of_below {w w' : World} (h : Below w.heap.size w w') : KeepsOthers w w' :=
  ⟨h.size, fun k _ hk _ => (h.block k (Array.getElem?_eq_some_iff.1 hk).1).trans hk⟩
theorem own_below {W W' : World} {base size n : Nat} {e : TypeId} {v : Value} {xs : List Value} (h : W.ownsRow base e size v n xs) (hb : Below W.heap.size W W') : W'.ownsRow base e size v n xs := by
  refine h.kept (grown_of_below hb) ?_
  rcases h.2 with ⟨rfl, _⟩ | ⟨g, cap, cur, rfl, _⟩
  · exact .inl rfl
  · exact .inr (by simp [Value.ownBlock])
theorem own_setBox {W : World} {base size n B : Nat} {e t : TypeId} {v u : Value} {xs : List Value} (h : W.ownsRow base e size v n xs) (hbx : Boxed W B t u) (hte : t ≠ e) (u' : Value) : (W.setCell ⟨B, 0, none⟩ u').ownsRow base e size v n xs :=
  h.kept (grownBy_setCell' W B u') (.inr (hbx.not_row hte h).symm)
theorem own_slice {W : World} {base size n : Nat} {e : TypeId} {v : Value} {xs : List Value} (h : W.ownsRow base e size v n xs) : ∃ A c, v = .slice A n c ∧ n ≤ c := by
  rcases h.2 with ⟨rfl, rfl⟩ | ⟨g, cap, cur, rfl, _, _, hc, _⟩
  · exact ⟨_, _, rfl, Nat.le_refl _⟩
  · exact ⟨_, _, rfl, hc⟩
theorem own_len {W : World} {base size n : Nat} {e : TypeId} {v : Value} {xs : List Value} (h : W.ownsRow base e size v n xs) (w : World) (ty : TypeId) :
    (Builtin.len_ #[26] ty #[v]).run Try.prog w = .ok (.int .i64 n) w := by
  obtain ⟨A, c, rfl, _⟩ := own_slice h
  exact run_len_slice _ _ _ _ _ _ Try.underlying26
theorem cell_one_set (W : World) (p : Addr) (q u : Value) (e : TypeId) : ∀ (j : Nat) x, ([u] : List Value)[j]? = some x → ((W.setCell p q).alloc (.cells #[u] e)).cell? ((⟨W.heap.size, 0, none⟩ : Addr).add j) = some x := by
  have h := cell_one_new (W.setCell p q) u e
  have hs : (W.setCell p q).heap.size = W.heap.size := by simp
  rw [hs] at h
  exact h
theorem between (p : ByteArray) (w : World) :
    Calls Try.prog 23 #[.string p] w fun e w' => e = .returned (.func (.func 29) #[] #[.pointer (some ⟨w.heap.size, 0, none⟩)]) ∧ w' = w.alloc (.cells #[.string p] 9) := by
  go_enter Try.func23, Try.ntmps23
  go_wp2
  go_ret
  exact ⟨rfl, rfl⟩
theorem between_stops (n : Nat) (hn : 1 ≤ n) (Bn n₀ : Nat) (p : ByteArray) (hp : p.size ≤ 4611686018427387904) (w : World) (hBn : Bn < w.heap.size) (hc : w.cell? ⟨Bn, 0, none⟩ = some (.string p)) :
    SeqStopsK Fence.wide n Try.prog 29 #[.pointer (some ⟨Bn, 0, none⟩)] (fun x : Sn => #[sv x.1]) (Below n₀) (fun ys => raw ys = pieces p.data.toList) (fun pre => raw pre <+: pieces p.data.toList) (pieces p.data.toList).length w := fun l J Jx W hW hJ _ hY h0 =>
  pieces_in n l Bn n₀ hn p hp J Jx hY W hJ ((hW.cell (p := ⟨Bn, 0, none⟩) hBn).trans hc) h0

theorem name_at (x : Sn) (w : World) :
    Calls Try.prog 11 #[.string ⟨x.1.toArray⟩] w fun e w' => e = .returned (.int .i64 (nameE x.1)) ∧ Below w.heap.size w w' := by
  have h := name ⟨x.1.toArray⟩ w (by have := x.2; show x.1.toArray.size ≤ _; simp; omega)
  simpa using h
theorem splitE_no {p : ByteArray} (h : ¬ p.data.toList.head? = some 47) : splitE p.data.toList = (25, []) := by unfold splitE; rw [if_pos h]
theorem splitE_long {p : ByteArray} (h : p.data.toList.head? = some 47) (h2 : 255 < p.size) : splitE p.data.toList = (26, []) := by
  unfold splitE; rw [if_neg (not_not_intro h), if_pos (by rw [← Lib.size_eq]; exact h2)]
theorem splitE_err {p : ByteArray} (h : p.data.toList.head? = some 47) (h2 : ¬ 255 < p.size) (h3 : scan 0 (pieces p.data.toList) ≠ 0) : splitE p.data.toList = (scan 0 (pieces p.data.toList), []) := by
  unfold splitE; rw [if_neg (not_not_intro h), if_neg (by rw [← Lib.size_eq]; exact h2), if_pos h3]
theorem splitE_ok {p : ByteArray} (h : p.data.toList.head? = some 47) (h2 : ¬ 255 < p.size) (h3 : scan 0 (pieces p.data.toList) = 0) : splitE p.data.toList = (0, pieces p.data.toList) := by
  unfold splitE; rw [if_neg (not_not_intro h), if_neg (by rw [← Lib.size_eq]; exact h2), if_neg (not_not_intro h3)]
theorem info_str : (Try.prog.info? 9).map (fun i => (i.zero, i.size, i.bytes)) = some (some (.string ⟨#[]⟩), 1, 16) := by kernel_rfl

theorem hasPrefix_slash (l : Bs) : Lib.hasPrefix l [47] = decide (l.head? = some 47) := by
  cases l with
  | nil => rfl
  | cons b r => by_cases h : b = 47 <;> simp [Lib.hasPrefix, List.isPrefixOf, h] <;> exact fun e => h e.symm

set_option maxRecDepth 100000 in
set_option maxHeartbeats 4000000 in
theorem split (p : ByteArray) (w : World) (hs : p.size ≤ 4611686018427387904) :
    Calls Try.prog 13 #[.string p] w fun e W' => ∃ v, e = .returned (.tuple #[v, .int .i64 (splitE p.data.toList).1]) ∧ W'.ownsRow w.heap.size 9 1 v (splitE p.data.toList).2.length (svs (splitE p.data.toList).2) ∧ Below w.heap.size w W' := by
  obtain ⟨i0, hi, hz0, hz1, hz2⟩ := info_parts info_str
  have hpre := Lib.hid (fun w => Try.strings_HasPrefix p ⟨#[47]⟩ w)
  have hpl : Lib.hasPrefix p.data.toList [47] = decide (p.data.toList.head? = some 47) := hasPrefix_slash _
  by_cases h0 : p.data.toList.head? = some 47
  · have hpt : Lib.hasPrefix p.data.toList [47] = true := by rw [hpl, h0]; rfl
    have hpt0 := h0
    by_cases h255 : 255 < p.size
    · rw [splitE_long h0 h255]
      go_enter Try.func13, Try.ntmps13
      go_wp2_with (go_at_call 22; refine (hpre.out _).mono ?_; rintro e w' ⟨rfl, hw⟩; rw [hw])
      go_step3
      go_wp2_with (go_at_call 22; refine (hpre.out _).mono ?_; rintro e w' ⟨rfl, hw⟩; rw [hw])
      rw [Exit.noGoto_ret]
      refine bodyPost_ret (results_tmp2 rfl _ _ _) rfl ?_
      exact ⟨_, rfl, World.ownsRow_nil _ _ _ _, Below.refl _ _⟩
    · refine (callsIn_wide (n := 4)).1 ?_
      refine callsIn_of_wp_marks Try.func13 rfl trivial ?_ rfl
      simp only [Try.ntmps13, List.size_toArray, List.length_cons, List.length_nil, Nat.reduceAdd, Nat.reduceSub, Array.replicate_succ, Array.replicate_zero, List.push_toArray, List.append_toArray, List.nil_append, List.cons_append]
      gi_wp2
      refine wpIn_wide.2 ?_
      go_step3
      refine (wpIn_wide (n := 4)).1 ?_
      gi_wp2_with (refine ⟨trivial, ?_⟩; gi_at_call 22; refine (callsIn_wide.2 (hpre.out _)).mono ?_; rintro e w' ⟨rfl, hw⟩; rw [hw])
      refine wpIn_wide.2 ?_
      go_step3
      gi_wp2_with (refine ⟨trivial, ?_⟩; gi_at_call 23; refine (callsIn_wide.2 (between p _)).mono ?_; rintro e w' ⟨rfl, hw⟩; rw [hw])
      obtain ⟨W0, hW0⟩ : ∃ W0, ((w.alloc (.cells #[.slice none 0 0] 26)).alloc (.cells #[.int .i64 0] 23)).alloc (.cells #[.string p] 9) = W0 := ⟨_, rfl⟩
      have bL : Boxed W0 w.heap.size 26 (.slice none 0 0) := by rw [← hW0]; exact ((Boxed.new w _ _).alloc _).alloc _
      have bE : Boxed W0 (w.heap.size + 1) 23 (.int .i64 0) := by
        rw [← hW0]
        have := (Boxed.new (w.alloc (.cells #[.slice none 0 0] 26)) 23 (.int .i64 0)).alloc (.cells #[.string p] 9)
        rwa [World.size_alloc] at this
      have bP : Boxed W0 (w.heap.size + 1 + 1) 9 (.string p) := by
        rw [← hW0]
        have := Boxed.new ((w.alloc (.cells #[.slice none 0 0] 26)).alloc (.cells #[.int .i64 0] 23)) 9 (.string p)
        rwa [World.size_alloc, World.size_alloc] at this
      have hsz : W0.heap.size = w.heap.size + 3 := by rw [← hW0]; simp
      have hB0 : Below w.heap.size w W0 := by rw [← hW0]; exact (((Below.refl _ w).alloc (Nat.le_refl _) _).alloc (by simp) _).alloc (by simp; omega) _
      rw [hW0]
      refine wpIn_rangeFunc_ownG rfl (by omega) (gf := 29) (lb := #[.pointer (some ⟨w.heap.size + 1 + 1, 0, none⟩)]) rfl trivial (enters_of Try.func29 (by kernel_rfl) rfl)
        (between_stops (4 - 1) (by omega) (w.heap.size + 1 + 1) w.heap.size p hs W0 (by omega) bP.cell) belowK_t (belowK_b (by omega)) (Below.refl _ _) (fun _ => rfl)
        (fun pre W => (∃ v, Boxed W w.heap.size 26 v ∧ W.ownsRow w.heap.size 9 1 v (raw pre).length (svs (raw pre)) ∧ True) ∧ (Boxed W (w.heap.size + 1) 23 (.int .i64 0) ∧ (scan 0 (raw pre) = 0 ∧ Below w.heap.size w W)))
        (fun c pre W => c = .exit 1 ∧ (scan 0 (raw pre) ≠ 0 ∧ (Boxed W (w.heap.size + 1) 23 (.int .i64 (scan 0 (raw pre))) ∧ Below w.heap.size w W)))
        (OwnFrom.and (Own.from (holdsRow_own w.heap.size w.heap.size 26 9 1 (fun pre => (raw pre).length) (fun pre => svs (raw pre)) (fun _ _ => True)) _)
          (OwnFrom.and (Own.from (boxed_own _ _ _) _) (OwnFrom.and (ownFrom_pure _ _) (ownFrom_below (Nat.le_refl _) (by omega)))))
        (fun c => OwnFrom.and (ownFrom_pure _ _) (OwnFrom.and (ownFrom_pure _ _) (OwnFrom.and (Own.from (boxed_own _ _ _) _) (ownFrom_below (Nat.le_refl _) (by omega)))))
        ⟨⟨_, bL, World.ownsRow_nil _ _ _ _, trivial⟩, bE, rfl, hB0⟩
        (fun x => { tmps := #[.string p, undef, .slice none 0 0, .int .i64 0, .pointer (some ⟨w.heap.size, 0, none⟩), .pointer (some ⟨w.heap.size + 1, 0, none⟩), .string ⟨x.1.toArray⟩, .bool false, .string p, .bool true, .bool false, .bool (decide (255 < (p.size : Int))), .string p, .int .i64 p.size, .bool (decide (255 < (p.size : Int))), .string p, .func (.func 29) #[] #[.pointer (some ⟨w.heap.size + 1 + 1, 0, none⟩)], .string ⟨x.1.toArray⟩, undef, undef, undef, undef, undef, undef, undef, undef, undef, undef, undef, undef, undef, undef, undef, undef, undef], defers := [] }) ?assign ?body ?done ?stop
      case assign =>
        intro l x W K hK
        gi_wp2
        exact hK
      case body =>
        rintro l pre x W ⟨⟨v, hv, hrow, _⟩, be, hs0, hB⟩ hlt
        have hsn := scan_snoc 0 (raw pre) x.1 hs0
        have hln := scan_len 0 (raw pre) (by omega) hs0
        rw [Nat.zero_add] at hsn hln
        rw [← raw_snoc] at hsn
        have HN := Lib.hid (fun w => name_at x w)
        have HR := Lib.hid hrow
        have HS := Lib.hid hsn
        clear hrow hsn
        by_cases hne : nameE x.1 = 0
        · rw [hne] at HN
          have hlv := own_len HR.out
          by_cases h16 : (raw pre).length = 16
          · have hs1 : scan 0 (raw (pre ++ [x])) = 26 := by rw [HS.out, if_neg (by omega), if_pos h16]
            have h16z : (((raw pre).length : Int) == 16) = true := beq_iff_eq.2 (by omega)
            gi_wp2_with (refine ⟨trivial, ?_⟩; gi_at_call 11; refine (CallsIn.inRound l (callsIn_wide.2 (HN.out _))).mono ?_; rintro e w1 ⟨rfl, hb1⟩; have be1 := be.kept (grown_of_below hb1) (by simp); have hc1 := be1.cell; have hf1 := be1.frozen; have be2 := be1.set (.int .i64 0); have hc2 := be2.cell; have hf2 := be2.frozen; have hvS := (hv.kept (grown_of_below hb1) (by simp)).other (B' := w.heap.size + 1) (by omega) (.int .i64 0); have hcS := hvS.cell)
            exact ⟨(((keeps_of_below hb1).trans (KeepsOthers.setCell _ _ _)).trans (KeepsOthers.setCell _ _ _)).from _, rfl, by rw [hs1]; decide, by rw [hs1]; exact be2.set _, hB.trans (((hb1.mono hB.size).setCell (p := ⟨w.heap.size + 1, 0, none⟩) (by simp) _).setCell (p := ⟨w.heap.size + 1, 0, none⟩) (by simp) _)⟩
          · have hs1 : scan 0 (raw (pre ++ [x])) = 0 := by rw [HS.out, if_neg (by omega), if_neg h16]
            have h16z : (((raw pre).length : Int) == 16) = false := beq_eq_false_iff_ne.2 (by omega)
            gi_wp2_with (first
              | (refine ⟨trivial, ?_⟩; gi_at_call 11; refine (CallsIn.inRound l (callsIn_wide.2 (HN.out _))).mono ?_; rintro e w1 ⟨rfl, hb1⟩; have be1 := be.kept (grown_of_below hb1) (by simp); have hc1 := be1.cell; have hf1 := be1.frozen; have be2 := be1.set (.int .i64 0); have hc2 := be2.cell; have hf2 := be2.frozen; have hvS := (hv.kept (grown_of_below hb1) (by simp)).other (B' := w.heap.size + 1) (by omega) (.int .i64 0); have hcS := hvS.cell; have hrS := Lib.hid (own_setBox (own_below HR.out hb1) be1 (by decide) (.int .i64 0)); have hbS := hB.trans ((hb1.mono hB.size).setCell (p := ⟨w.heap.size + 1, 0, none⟩) (by simp) (.int .i64 0)))
              | (gi_at_builtin; refine wpListIn_append_own _ rfl _ _ 26 rfl w.heap.size 9 i0 (.string ⟨#[]⟩) 1 16 Try.underlying26 hi hz0 hz1 hz2 rfl (by decide) _ _ _ rfl (hrS.out.alloc _) ⟨w1.heap.size, 0, none⟩ 1 1 [.string ⟨x.1.toArray⟩] rfl rfl (cell_one_set _ _ _ _ _) (by simp [Value.oneCell']) (by simp only [maxLen]; omega) (by omega) (by have := hbS.size; simp only [World.size_alloc]; omega) ?_; intro v' w2 hown' hgrow _; obtain ⟨g', cap', rfl⟩ := ownsRow_succ hown'; obtain ⟨hv1, hv2, hr2, hk2, hb2⟩ := hvS.appended (by decide) hrS.out hbS.size (Nat.le_refl _) hown' hgrow; have hcv1 := hv1.cell; have hfv1 := hv1.frozen))
            have be3 : Boxed w2 (w.heap.size + 1) 23 (.int .i64 0) := (be2.alloc _).kept hgrow (be2.not_row (by decide) hrS.out)
            exact ⟨(((keeps_of_below hb1).trans (KeepsOthers.setCell _ _ _)).trans hk2).from _, ((hb1.mono hB.size).setCell (p := ⟨w.heap.size + 1, 0, none⟩) (by simp) _).trans hb2,
              ⟨_, hv2, by rw [raw_snoc, svs_append, List.length_append]; exact hr2, trivial⟩, be3.other (by omega) _, hs1, hbS.trans hb2⟩
        · have hs1 : scan 0 (raw (pre ++ [x])) = nameE x.1 := by rw [HS.out, if_pos hne]
          obtain ⟨z, hz⟩ : ∃ z, nameE x.1 = z := ⟨_, rfl⟩
          rw [hz] at HN hs1 hne
          have hze : (z != 0) = true := bne_iff_ne.2 hne
          gi_wp2_with (refine ⟨trivial, ?_⟩; gi_at_call 11; refine (CallsIn.inRound l (callsIn_wide.2 (HN.out _))).mono ?_; rintro e w1 ⟨rfl, hb1⟩; have be1 := be.kept (grown_of_below hb1) (by simp); have hc1 := be1.cell; have hf1 := be1.frozen)
          exact ⟨((keeps_of_below hb1).trans (KeepsOthers.setCell _ _ _)).from _, rfl, by rw [hs1]; exact hne, by rw [hs1]; exact be1.set _, hB.trans ((hb1.mono hB.size).setCell (p := ⟨w.heap.size + 1, 0, none⟩) (by simp) _)⟩
      case done =>
        rintro D ys W hD hys ⟨⟨v, hv, hrow, _⟩, be, hs0, hB⟩ hK
        have hc := hv.cell
        have hce := be.cell
        gi_wp2
        rw [Exit.noGoto_ret]
        refine ⟨by simp, .inl ⟨_, _, rfl, run_takeDeferred hK, ?_⟩⟩
        rw [hys] at hrow hs0
        refine ⟨_, results_tmp2 rfl _ _ _, v, ?_, ?_, ?_⟩
        · rw [splitE_ok hpt0 h255 hs0]; rfl
        · rw [splitE_ok hpt0 h255 hs0]
          exact ownsRow_putObj hrow _ hK rfl
        · exact hB.trans (belowK_b (w := w) (Nat.le_refl _) W D _ _ (by omega) hK rfl rfl)
      case stop =>
        rintro D c pre W hD hpp ⟨rfl, hs0, be, hB⟩ hK
        have hce := be.cell
        obtain ⟨z, hz⟩ : ∃ z, scan 0 (raw pre) = z := ⟨_, rfl⟩
        have hzs : scan 0 (pieces p.data.toList) = z := by rw [← hz]; exact scan_prefix hpp hs0
        rw [hz] at hs0 hce
        have hze : (z != 0) = true := bne_iff_ne.2 hs0
        gi_wp2
        refine wpIn_wide.2 ?_
        go_quiet (fail)
        gi_wp2
        rw [Exit.noGoto_ret]
        refine ⟨by simp, .inl ⟨_, _, rfl, run_takeDeferred (w := W.drewN nq) hK, ?_⟩⟩
        refine ⟨_, results_tmp2 rfl _ _ _, .slice none 0 0, ?_, ?_, ?_⟩
        · rw [splitE_err hpt0 h255 (by rw [hzs]; exact hs0), hzs]; rfl
        · rw [splitE_err hpt0 h255 (by rw [hzs]; exact hs0)]
          exact World.ownsRow_nil _ _ _ _
        · exact (show Below w.heap.size w (W.drewN nq) from ⟨hB.os, hB.tape, hB.output, hB.size, hB.block⟩).trans (belowK_b (w := w) (Nat.le_refl _) (W.drewN nq) D _ _ (by omega) hK rfl rfl)
  · have hpt : Lib.hasPrefix p.data.toList [47] = false := by rw [hpl]; exact decide_eq_false h0
    rw [splitE_no h0]
    go_enter Try.func13, Try.ntmps13
    go_wp2_with (go_at_call 22; refine (hpre.out _).mono ?_; rintro e w' ⟨rfl, hw⟩; rw [hw])
    go_step3
    go_wp2_with (go_at_call 22; refine (hpre.out _).mono ?_; rintro e w' ⟨rfl, hw⟩; rw [hw])
    rw [Exit.noGoto_ret]
    refine bodyPost_ret (results_tmp2 rfl _ _ _) rfl ?_
    exact ⟨_, rfl, World.ownsRow_nil _ _ _ _, Below.refl _ _⟩
end Go.Proofs.Ytblkfiaeifckjaa
