/-
  The definition's Join: every list of texts.
  Conditions: each theorem's own.
-/
import Derived.Test.YtblkfiaeifckjaaN9
namespace Go.Proofs.Ytblkfiaeifckjaa
open Go.RowKit Go.Shelf

theorem take_succ_at {l : List Bs} {i : Nat} {x : Bs} (h : l[i]? = some x) : l.take (i + 1) = l.take i ++ [x] := by
  rw [List.take_add_one, h]; rfl
theorem flat_take {l : List Bs} {i : Nat} {x : Bs} (h : l[i]? = some x) : flat (l.take (i + 1)) = flat (l.take i) ++ 47 :: x := by
  rw [take_succ_at h, flat_append]; simp [flat]
theorem refName_of {x : Bs} (hx : x.length ≤ 4611686018427387904) (w : World) :
    Calls Try.prog 12 #[sv x] w fun e w' => e = .returned (.int .i64 (nameE x)) ∧ w' = w := by
  have h := refName ⟨x.toArray⟩ w (by show x.toArray.size ≤ _; simp; omega)
  unfold sv
  simpa using h

set_option maxRecDepth 100000 in
set_option maxHeartbeats 4000000 in
theorem refJoin (A : Option Addr) (n c : Nat) (l : List Bs) (w : World) (D : Nat) (hl : Reads w D A n (svs l)) (hF : Fine l) (hn : n ≤ 140737488355328) :
    Calls Try.prog 18 #[.slice A n c] w fun e w' => e = .returned (.tuple #[sv (joinE l).2, .int .i64 (joinE l).1]) ∧ w' = w := by
  have HL := Lib.hid hl
  have HFi := Lib.hid hF
  have ll := hl.slen
  clear hl hF
  go_enter Try.func18, Try.ntmps18
  go_wp2
  go_loop [4, 5, 6] (fun s4 s5 _ => ∃ i m : Nat, i ≤ n ∧ s5 = .int .i64 i ∧ s4 = .int .i64 m ∧ m + i = n + (flat (l.take i)).length ∧ (flat (l.take i)).length ≤ 28 * i ∧ ∀ j y, j < i → l[j]? = some y → nameE y = 0) (fun _ s5 _ => n - (intOf s5).toNat)
  case atStart => exact ⟨0, n, Nat.zero_le _, rfl, rfl, by simp [flat], by simp [flat], fun _ _ h => absurd h (Nat.not_lt_zero _)⟩
  case round =>
    obtain ⟨i, m, hi, rfl, rfl, hm, hfl, hok⟩ := hrel
    have HK := Lib.hid hok
    clear hok
    by_cases hlt : i < n
    · obtain ⟨ad, x, rfl, _, hx, hcl⟩ := HL.out.str hlt
      have hiz : (i : Int) < (n : Int) := by omega
      have HX := Lib.hid hx
      have HN := Lib.hid (fun w => refName_of (HFi.out i x hx) w)
      have hft := Lib.hid (flat_take hx)
      clear hx
      by_cases hne : nameE x = 0
      · have hx27 := nameE_len hne
        rw [hne] at HN
        obtain ⟨X, hX⟩ : ∃ X : ByteArray, (⟨x.toArray⟩ : ByteArray) = X := ⟨_, rfl⟩
        have hXs : X.size = x.length := by rw [Lib.size_eq, ← hX]
        unfold sv at hcl HN
        rw [hX] at hcl HN
        clear hX
        have hw : IntKind.i64.wrap ((m : Int) + (X.size : Int)) = ((m + X.size : Nat) : Int) := by rw [IntKind.wrap_i64]; omega
        go_wp2_with (go_at_call 12; refine (HN.out _).mono ?_; rintro e w1 ⟨rfl, hw1⟩; rw [hw1])
        go_round
        case rel =>
          refine ⟨i + 1, m + X.size, by omega, by go_num, by go_num, ?_, ?_, fun j y hj hy => ?_⟩
          · rw [hft.out, List.length_append, List.length_cons]; omega
          · rw [hft.out, List.length_append, List.length_cons]; omega
          · by_cases e : j = i
            · subst e; rw [HX.out] at hy; obtain rfl := Option.some.inj hy; exact hne
            · exact HK.out j y (by omega) hy
        case measure => simp only [intOf]; omega
      · have hE := Lib.hid (firstE_at HK.out HX.out hne)
        have hJ := Lib.hid (joinE_bad (l := l) (by rw [hE.out]; exact hne))
        rw [hE.out] at hJ
        obtain ⟨z, hz⟩ : ∃ z, nameE x = z := ⟨_, rfl⟩
        rw [hz] at HN hne hJ
        have hze : (z != 0) = true := bne_iff_ne.2 hne
        have hze2 : (z == 0) = false := beq_eq_false_iff_ne.2 hne
        unfold sv at hcl HN
        go_wp2_with (go_at_call 12; refine (HN.out _).mono ?_; rintro e w1 ⟨rfl, hw1⟩; rw [hw1])
        refine bodyPost_ret (results_tmp2 rfl _ _ _) rfl ?_
        exact ⟨by rw [hJ.out]; rfl, rfl⟩
    · obtain rfl : i = n := by omega
      have hall := Lib.hid (show ∀ (j : Nat) y, l[j]? = some y → nameE y = 0 from fun j y hy => HK.out j y (by rw [← ll]; exact (List.getElem?_eq_some_iff.1 hy).1) hy)
      have h0 := firstE_none hall.out
      have htk : l.take i = l := List.take_of_length_le (by omega)
      rw [htk] at hm hfl
      by_cases h16 : 16 < i
      · have hJ := Lib.hid (joinE_many h0 (by omega))
        have hz : ¬ (i : Int) ≤ 16 := by omega
        have hz2 : (16 : Int) < (i : Int) := by omega
        go_wp2
        refine bodyPost_ret (results_tmp2 rfl _ _ _) rfl ?_
        exact ⟨by rw [hJ.out]; rfl, rfl⟩
      · have hz : (i : Int) ≤ 16 := by omega
        have hz2 : ¬ (16 : Int) < (i : Int) := by omega
        by_cases hl0 : l = []
        · obtain rfl : i = 0 := by rw [← ll, hl0]; rfl
          have hJ := Lib.hid (show joinE l = (0, [47]) from by rw [hl0]; rfl)
          rw [hl0] at hm
          have hm0 : m = 0 := by simpa [flat] using hm
          subst hm0
          go_wp2
          refine bodyPost_ret (results_tmp2 rfl _ _ _) rfl ?_
          subst hl0
          exact ⟨rfl, rfl⟩
        · have hpos := List.length_pos_iff.2 hl0
          have hpo : pathOf l = flat l := by unfold pathOf; rw [if_neg hl0]
          have hmf : m = (flat l).length := by omega
          have hi0 : ((i : Int) == 0) = false := beq_eq_false_iff_ne.2 (by omega)
          by_cases h255 : 255 < m
          · have hJ := Lib.hid (joinE_long h0 (by omega) (by rw [hpo]; omega))
            have hz3 : (255 : Int) < (m : Int) := by omega
            clear hmf hm
            go_wp2
            refine bodyPost_ret (results_tmp2 rfl _ _ _) rfl ?_
            exact ⟨by rw [hJ.out]; rfl, rfl⟩
          · have hJ := Lib.hid (joinE_ok h0 (by omega) (by rw [hpo]; omega))
            rw [hpo] at hJ
            have hz3 : ¬ (255 : Int) < (m : Int) := by omega
            have hz4 : (m : Int) ≤ 255 := by omega
            clear hmf hm
            go_wp2
            go_loop [7, 8] (fun s7 s8 => ∃ (k : Nat) (T : ByteArray), k ≤ i ∧ s8 = .int .i64 k ∧ s7 = .string T ∧ T.data.toList = flat (l.take k) ∧ T.size ≤ 28 * k) (fun _ s8 => i - (intOf s8).toNat)
            case atStart => exact ⟨0, ⟨#[]⟩, Nat.zero_le _, rfl, rfl, by simp [flat], by show 0 ≤ _; omega⟩
            case round =>
              obtain ⟨k, T, hk, rfl, rfl, hT, hTs⟩ := hrel
              have HT := Lib.hid hT
              clear hT
              by_cases hlt2 : k < i
              · obtain ⟨ad, x, rfl, _, hx, hcl⟩ := HL.out.str hlt2
                have hkz : (k : Int) < (i : Int) := by omega
                have hft := Lib.hid (flat_take hx)
                have hx27 := nameE_len (hall.out k x hx)
                clear hx
                obtain ⟨X, hX⟩ : ∃ X : ByteArray, (⟨x.toArray⟩ : ByteArray) = X := ⟨_, rfl⟩
                have hXl := Lib.hid (show X.data.toList = x by rw [← hX])
                have hXs : X.size ≤ 27 := by rw [Lib.size_eq, hXl.out]; exact hx27
                unfold sv at hcl
                rw [hX] at hcl
                clear hX
                go_wp2
                refine ⟨⟨k + 1, T ++ ⟨#[47]⟩ ++ X, by omega, by go_num, rfl, ?_, ?_⟩, by simp only [intOf]; omega⟩
                · rw [hft.out, ← HT.out, ByteArray.data_append, ByteArray.data_append, Array.toList_append, Array.toList_append, hXl.out, List.append_assoc]; rfl
                · have h1 : (T ++ ⟨#[47]⟩ ++ X : ByteArray).size = T.size + 1 + X.size := by rw [ByteArray.size_append, ByteArray.size_append]; rfl
                  omega
              · obtain rfl : k = i := by omega
                rw [htk] at HT
                have hsv := Lib.hid (sv_of HT.out)
                go_wp2
                refine bodyPost_ret (results_tmp2 rfl _ _ _) rfl ?_
                exact ⟨by rw [hJ.out, hsv.out]; rfl, rfl⟩
end Go.Proofs.Ytblkfiaeifckjaa
