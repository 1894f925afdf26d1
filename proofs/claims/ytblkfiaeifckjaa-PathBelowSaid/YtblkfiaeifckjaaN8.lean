/-
  The definition's Split; path's Parent: every text.
  Conditions: none but that the text is no longer than any text.
-/
import Derived.Test.YtblkfiaeifckjaaN7
import Derived.Test.YtblkfiaeifckjaaAp
namespace Go.Proofs.Ytblkfiaeifckjaa
open Go.RowKit Go.Shelf

/-- What is left of the pieces from the place i on; cur has come of the piece that is under way. -/
def rem (p : Bs) (cur : Bs) (i : Nat) : List Bs := if i ≤ p.length then piecesA cur (p.drop i) else []
theorem rem_start {p : Bs} (h : p.head? = some 47) : pieces p = rem p [] 1 := by
  cases p with
  | nil => simp at h
  | cons b r => simp at h; subst h; simp [pieces, rem, piecesA]
theorem rem_more {p cur : Bs} {i : Nat} {b : UInt8} (h : p[i]? = some b) (hb : ¬ b = 47) : rem p cur i = rem p (cur ++ [b]) (i + 1) := by
  have hl := (List.getElem?_eq_some_iff.1 h).1
  unfold rem
  rw [if_pos (by omega), if_pos (by omega), List.drop_eq_getElem_cons hl, (List.getElem?_eq_some_iff.1 h).2, piecesA, if_neg hb]
theorem rem_flush {p cur : Bs} {i : Nat} (hi : i ≤ p.length) (h : ∀ b, p[i]? = some b → b = 47) : rem p cur i = (if cur = [] then [] else [cur]) ++ rem p [] (i + 1) := by
  unfold rem
  rw [if_pos hi]
  by_cases hl : i < p.length
  · have hb := h p[i] (List.getElem?_eq_getElem hl)
    have e : i + 1 ≤ p.length := by omega
    rw [List.drop_eq_getElem_cons hl, hb, piecesA, if_pos rfl]
    by_cases hc : cur = [] <;> simp [hc, e]
  · have e : ¬ i + 1 ≤ p.length := by omega
    rw [List.drop_eq_nil_of_le (by omega), piecesA]
    by_cases hc : cur = [] <;> simp [hc, e]
theorem extract_one (p : ByteArray) (i : Nat) (b : UInt8) (h : p.data.toList[i]? = some b) : (p.extract i (i + 1)).data.toList = [b] := by
  have hl := (List.getElem?_eq_some_iff.1 h).1
  have e : (p.extract i (i + 1)).data.toList = (p.data.toList.drop i).take 1 := by
    simp [ByteArray.extract, ByteArray.copySlice]
  rw [e, List.drop_eq_getElem_cons hl, (List.getElem?_eq_some_iff.1 h).2]
  rfl

set_option maxRecDepth 100000 in
set_option maxHeartbeats 4000000 in
theorem refSplit (p : ByteArray) (w : World) (hs : p.size ≤ 4611686018427387904) :
    Calls Try.prog 14 #[.string p] w fun e W' => ∃ v, e = .returned (.tuple #[v, .int .i64 (splitE p.data.toList).1]) ∧ W'.ownsRow w.heap.size 9 1 v (splitE p.data.toList).2.length (svs (splitE p.data.toList).2) ∧ Below w.heap.size w W' := by
  obtain ⟨i0, hi, hz0, hz1, hz2⟩ := info_parts info_str
  by_cases h0 : p.data.toList.head? = some 47
  · have hps : 0 < p.size := by
      rw [Lib.size_eq]
      cases h : p.data.toList with
      | nil => rw [h] at h0; simp at h0
      | cons _ _ => simp
    have hp0 : p[0]'hps = 47 := by
      have h1 := Lib.data_getElem? p 0 hps
      rw [← List.head?_eq_getElem?, h0] at h1
      exact (Option.some.inj h1).symm
    have hsz0 : ((p.size : Int) == 0) = false := beq_eq_false_iff_ne.2 (by omega)
    by_cases h255 : 255 < p.size
    · rw [splitE_long h0 h255]
      go_enter Try.func14, Try.ntmps14
      go_wp2
      refine bodyPost_ret (results_tmp2 rfl _ _ _) rfl ?_
      exact ⟨_, rfl, World.ownsRow_nil _ _ _ _, Below.refl _ _⟩
    · have hst := Lib.hid (rem_start h0)
      have HE := Lib.hid (fun h => splitE_err h0 h255 h)
      have HO := Lib.hid (fun h => splitE_ok h0 h255 h)
      clear h0
      go_enter Try.func14, Try.ntmps14
      go_wp2
      go_loopw [4, 5, 6] (fun s4 s5 s6 wr => ∃ (v : Value) (i : Nat) (S : ByteArray) (pre : List Bs), v = s4 ∧ 1 ≤ i ∧ i ≤ p.size + 1 ∧ s6 = .int .i64 i ∧ s5 = .string S ∧ S.size ≤ i ∧ wr.ownsRow w.heap.size 9 1 v pre.length (svs pre) ∧ scan 0 pre = 0 ∧ Below w.heap.size w wr ∧ pieces p.data.toList = pre ++ rem p.data.toList S.data.toList i ∧ (i = p.size + 1 → S.data.toList = []))
        (fun _ _ s6 _ => p.size + 1 - (intOf s6).toNat)
      case atStart => exact ⟨_, 1, ⟨#[]⟩, [], rfl, Nat.le_refl _, by omega, rfl, rfl, by show 0 ≤ 1; omega, World.ownsRow_nil _ _ _ _, rfl, Below.refl _ _, hst.out, fun _ => rfl⟩
      case round =>
        obtain ⟨v, i, S, pre, hv4, hi1, hi2, rfl, rfl, hS, hrow, hsc, hB, hpc, hend⟩ := hrel
        subst hv4
        have HR := Lib.hid hrow
        have HB := Lib.hid hB
        have HP := Lib.hid hpc
        have HD := Lib.hid hend
        have hlv := own_len hrow
        clear hrow hB hpc hend
        by_cases hi3 : i = p.size + 1
        · have hz : ¬ (i : Int) ≤ (p.size : Int) := by omega
          have hpp : pieces p.data.toList = pre := by rw [HP.out]; unfold rem; rw [if_neg (by rw [← Lib.size_eq]; omega)]; simp
          have hO := Lib.hid (HO.out (by rw [hpp]; exact hsc))
          rw [hpp] at hO
          go_wp2
          refine bodyPost_ret (results_tmp2 rfl _ _ _) rfl ?_
          refine ⟨v, ?_, ?_, HB.out⟩
          · rw [hO.out]; rfl
          · rw [hO.out]; exact HR.out
        have hz : (i : Int) ≤ (p.size : Int) := by omega
        by_cases hlt : i < p.size
        · obtain ⟨b, hb⟩ : ∃ b, p[i]'hlt = b := ⟨_, rfl⟩
          have hbl := Lib.hid (hb ▸ Lib.data_getElem? p i hlt)
          by_cases h47 : b = 47
          · subst h47
            have HF : ∀ b, p.data.toList[i]? = some b → b = 47 := fun b h => by rw [hbl.out] at h; exact (Option.some.inj h).symm
            have hfl := Lib.hid (rem_flush (p := p.data.toList) (cur := S.data.toList) (i := i) (by rw [← Lib.size_eq]; omega) HF)
            by_cases hS0 : S.data.toList = []
            · have e0 : S.toList.isEmpty = true := by rw [Lib.toList_data, hS0]; rfl
              go_wp2
              go_roundw
              case rel =>
                refine ⟨_, i + 1, S, pre, rfl, by omega, by omega, by go_num, rfl, by omega, HR.out, hsc, HB.out, ?_, fun _ => hS0⟩
                rw [HP.out, hfl.out, if_pos hS0, hS0]; rfl
              case measure => simp only [intOf]; omega
            · have e0 : S.toList.isEmpty = false := by
                rw [Lib.toList_data]
                cases h : S.data.toList with
                | nil => exact absurd h hS0
                | cons _ _ => rfl
              have hpfx := Lib.hid (show pre ++ [S.data.toList] <+: pieces p.data.toList from ⟨rem p.data.toList [] (i + 1), by rw [HP.out, hfl.out, if_neg hS0]; simp⟩)
              have HN := Lib.hid (fun w => refName S w (by omega))
              have hsn := Lib.hid (scan_snoc 0 pre S.data.toList hsc)
              have hln := scan_len 0 pre (by omega) hsc
              rw [Nat.zero_add] at hsn hln
              by_cases hne : nameE S.data.toList = 0
              · rw [hne] at HN
                by_cases h16 : pre.length = 16
                · have hs1 : scan 0 (pre ++ [S.data.toList]) = 26 := by rw [hsn.out, if_neg (by omega), if_pos h16]
                  have hs2 := scan_prefix hpfx.out (by rw [hs1]; decide)
                  rw [hs1] at hs2
                  have h16z : ¬ (((pre.length + 1 : Nat) : Int) ≤ 16) := by omega
                  have h16y : (16 : Int) < ((pre.length + 1 : Nat) : Int) := by omega
                  go_wp2_with (first
                    | (go_at_call 12; refine (HN.out _).mono ?_; rintro e w' ⟨rfl, hw⟩; rw [hw])
                    | (at_builtin; refine Ap.append1 rfl _ _ 26 rfl w.heap.size 9 i0 (.string ⟨#[]⟩) 16 Try.underlying26 hi hz0 hz1 hz2 rfl _ pre.length _ rfl (.string S) rfl rfl (by exact HR.out) (by unfold maxLen; omega) (by omega) w (by exact HB.out) HB.out.size ?_; intro v' w2 hown2 hbel2; have hl2 := own_len hown2))
                  refine bodyPost_ret (results_tmp2 rfl _ _ _) rfl ?_
                  refine ⟨.slice none 0 0, ?_, ?_, hbel2⟩
                  · rw [HE.out (by rw [hs2]; decide), hs2]; rfl
                  · rw [HE.out (by rw [hs2]; decide)]; exact World.ownsRow_nil _ _ _ _
                · have hs1 : scan 0 (pre ++ [S.data.toList]) = 0 := by rw [hsn.out, if_neg (by omega), if_neg h16]
                  have h16z : ((pre.length + 1 : Nat) : Int) ≤ 16 := by omega
                  have h16y : ¬ (16 : Int) < ((pre.length + 1 : Nat) : Int) := by omega
                  go_wp2_with (first
                    | (go_at_call 12; refine (HN.out _).mono ?_; rintro e w' ⟨rfl, hw⟩; rw [hw])
                    | (at_builtin; refine Ap.append1 rfl _ _ 26 rfl w.heap.size 9 i0 (.string ⟨#[]⟩) 16 Try.underlying26 hi hz0 hz1 hz2 rfl _ pre.length _ rfl (.string S) rfl rfl (by exact HR.out) (by unfold maxLen; omega) (by omega) w (by exact HB.out) HB.out.size ?_; intro v' w2 hown2 hbel2; have hl2 := own_len hown2))
                  go_roundw
                  case rel =>
                    refine ⟨_, i + 1, ⟨#[]⟩, pre ++ [S.data.toList], rfl, by omega, by omega, by go_num, rfl, by show 0 ≤ _; omega, ?_, hs1, hbel2, ?_, fun _ => rfl⟩
                    · rw [svs_append, List.length_append]
                      have : svs [S.data.toList] = [Value.string S] := by simp only [svs, List.map_cons, List.map_nil, sv, mk_list]
                      rw [this]; exact hown2
                    · rw [HP.out, hfl.out, if_neg hS0]; simp
                  case measure => simp only [intOf]; omega
              · have hs1 : scan 0 (pre ++ [S.data.toList]) = nameE S.data.toList := by rw [hsn.out, if_pos hne]
                have hs2 := scan_prefix hpfx.out (by rw [hs1]; exact hne)
                rw [hs1] at hs2
                have hEE := Lib.hid (HE.out (by rw [hs2]; exact hne))
                rw [hs2] at hEE
                obtain ⟨z, hz⟩ : ∃ z, nameE S.data.toList = z := ⟨_, rfl⟩
                rw [hz] at HN hne hEE
                have hze : (z != 0) = true := bne_iff_ne.2 hne
                have hze2 : (z == 0) = false := beq_eq_false_iff_ne.2 hne
                go_wp2_with (go_at_call 12; refine (HN.out _).mono ?_; rintro e w' ⟨rfl, hw⟩; rw [hw])
                refine bodyPost_ret (results_tmp2 rfl _ _ _) rfl ?_
                refine ⟨.slice none 0 0, ?_, ?_, HB.out⟩
                · rw [hEE.out]; rfl
                · rw [hEE.out]; exact World.ownsRow_nil _ _ _ _
          · have hne : ((b.toNat : Int) == 47) = false := byte_ne h47
            have hxs := Lib.hid (extract_one p i b hbl.out)
            go_wp2
            go_roundw
            case rel =>
              refine ⟨_, i + 1, S ++ p.extract i (i + 1), pre, rfl, by omega, by omega, by go_num, by first | rfl | simp, ?_, HR.out, hsc, HB.out, ?_, fun e => absurd e (by omega)⟩
              · rw [Lib.size_eq]
                simp only [ByteArray.data_append, Array.toList_append, List.length_append, hxs.out]
                rw [← Lib.size_eq]; simp; omega
              · rw [HP.out, rem_more hbl.out h47]
                congr 2
                simp only [ByteArray.data_append, Array.toList_append, hxs.out]
            case measure => simp only [intOf]; omega
        · have HF : ∀ b, p.data.toList[i]? = some b → b = 47 := fun b h => by
            have := (List.getElem?_eq_some_iff.1 h).1
            rw [← Lib.size_eq] at this
            omega
          have hlz : ¬ (i : Int) < (p.size : Int) := by omega
          have hfl := Lib.hid (rem_flush (p := p.data.toList) (cur := S.data.toList) (i := i) (by rw [← Lib.size_eq]; omega) HF)
          by_cases hS0 : S.data.toList = []
          · have e0 : S.toList.isEmpty = true := by rw [Lib.toList_data, hS0]; rfl
            go_wp2
            go_roundw
            case rel =>
              refine ⟨_, i + 1, S, pre, rfl, by omega, by omega, by go_num, rfl, by omega, HR.out, hsc, HB.out, ?_, fun _ => hS0⟩
              rw [HP.out, hfl.out, if_pos hS0, hS0]; rfl
            case measure => simp only [intOf]; omega
          · have e0 : S.toList.isEmpty = false := by
              rw [Lib.toList_data]
              cases h : S.data.toList with
              | nil => exact absurd h hS0
              | cons _ _ => rfl
            have hpfx := Lib.hid (show pre ++ [S.data.toList] <+: pieces p.data.toList from ⟨rem p.data.toList [] (i + 1), by rw [HP.out, hfl.out, if_neg hS0]; simp⟩)
            have HN := Lib.hid (fun w => refName S w (by omega))
            have hsn := Lib.hid (scan_snoc 0 pre S.data.toList hsc)
            have hln := scan_len 0 pre (by omega) hsc
            rw [Nat.zero_add] at hsn hln
            by_cases hne : nameE S.data.toList = 0
            · rw [hne] at HN
              by_cases h16 : pre.length = 16
              · have hs1 : scan 0 (pre ++ [S.data.toList]) = 26 := by rw [hsn.out, if_neg (by omega), if_pos h16]
                have hs2 := scan_prefix hpfx.out (by rw [hs1]; decide)
                rw [hs1] at hs2
                have h16z : ¬ (((pre.length + 1 : Nat) : Int) ≤ 16) := by omega
                have h16y : (16 : Int) < ((pre.length + 1 : Nat) : Int) := by omega
                go_wp2_with (first
                  | (go_at_call 12; refine (HN.out _).mono ?_; rintro e w' ⟨rfl, hw⟩; rw [hw])
                  | (at_builtin; refine Ap.append1 rfl _ _ 26 rfl w.heap.size 9 i0 (.string ⟨#[]⟩) 16 Try.underlying26 hi hz0 hz1 hz2 rfl _ pre.length _ rfl (.string S) rfl rfl (by exact HR.out) (by unfold maxLen; omega) (by omega) w (by exact HB.out) HB.out.size ?_; intro v' w2 hown2 hbel2; have hl2 := own_len hown2))
                refine bodyPost_ret (results_tmp2 rfl _ _ _) rfl ?_
                refine ⟨.slice none 0 0, ?_, ?_, hbel2⟩
                · rw [HE.out (by rw [hs2]; decide), hs2]; rfl
                · rw [HE.out (by rw [hs2]; decide)]; exact World.ownsRow_nil _ _ _ _
              · have hs1 : scan 0 (pre ++ [S.data.toList]) = 0 := by rw [hsn.out, if_neg (by omega), if_neg h16]
                have h16z : ((pre.length + 1 : Nat) : Int) ≤ 16 := by omega
                have h16y : ¬ (16 : Int) < ((pre.length + 1 : Nat) : Int) := by omega
                go_wp2_with (first
                  | (go_at_call 12; refine (HN.out _).mono ?_; rintro e w' ⟨rfl, hw⟩; rw [hw])
                  | (at_builtin; refine Ap.append1 rfl _ _ 26 rfl w.heap.size 9 i0 (.string ⟨#[]⟩) 16 Try.underlying26 hi hz0 hz1 hz2 rfl _ pre.length _ rfl (.string S) rfl rfl (by exact HR.out) (by unfold maxLen; omega) (by omega) w (by exact HB.out) HB.out.size ?_; intro v' w2 hown2 hbel2; have hl2 := own_len hown2))
                go_roundw
                case rel =>
                  refine ⟨_, i + 1, ⟨#[]⟩, pre ++ [S.data.toList], rfl, by omega, by omega, by go_num, rfl, by show 0 ≤ _; omega, ?_, hs1, hbel2, ?_, fun _ => rfl⟩
                  · rw [svs_append, List.length_append]
                    have : svs [S.data.toList] = [Value.string S] := by simp only [svs, List.map_cons, List.map_nil, sv, mk_list]
                    rw [this]; exact hown2
                  · rw [HP.out, hfl.out, if_neg hS0]; simp
                case measure => simp only [intOf]; omega
            · have hs1 : scan 0 (pre ++ [S.data.toList]) = nameE S.data.toList := by rw [hsn.out, if_pos hne]
              have hs2 := scan_prefix hpfx.out (by rw [hs1]; exact hne)
              rw [hs1] at hs2
              have hEE := Lib.hid (HE.out (by rw [hs2]; exact hne))
              rw [hs2] at hEE
              obtain ⟨z, hz⟩ : ∃ z, nameE S.data.toList = z := ⟨_, rfl⟩
              rw [hz] at HN hne hEE
              have hze : (z != 0) = true := bne_iff_ne.2 hne
              have hze2 : (z == 0) = false := beq_eq_false_iff_ne.2 hne
              go_wp2_with (go_at_call 12; refine (HN.out _).mono ?_; rintro e w' ⟨rfl, hw⟩; rw [hw])
              refine bodyPost_ret (results_tmp2 rfl _ _ _) rfl ?_
              refine ⟨.slice none 0 0, ?_, ?_, HB.out⟩
              · rw [hEE.out]; rfl
              · rw [hEE.out]; exact World.ownsRow_nil _ _ _ _
  · rw [splitE_no h0]
    by_cases hps : 0 < p.size
    · have hp0 : ¬ p[0]'hps = 47 := by
        intro e
        apply h0
        rw [List.head?_eq_getElem?, Lib.data_getElem? p 0 hps, e]
      have hsz0 : ((p.size : Int) == 0) = false := beq_eq_false_iff_ne.2 (by omega)
      obtain ⟨b, hb⟩ : ∃ b, p[0]'hps = b := ⟨_, rfl⟩
      rw [hb] at hp0
      have hne : ((b.toNat : Int) == 47) = false := byte_ne hp0
      go_enter Try.func14, Try.ntmps14
      go_wp2
      refine bodyPost_ret (results_tmp2 rfl _ _ _) rfl ?_
      exact ⟨_, rfl, World.ownsRow_nil _ _ _ _, Below.refl _ _⟩
    · have hsz0 : ((p.size : Int) == 0) = true := beq_iff_eq.2 (by omega)
      go_enter Try.func14, Try.ntmps14
      go_wp2
      refine bodyPost_ret (results_tmp2 rfl _ _ _) rfl ?_
      exact ⟨_, rfl, World.ownsRow_nil _ _ _ _, Below.refl _ _⟩
end Go.Proofs.Ytblkfiaeifckjaa
