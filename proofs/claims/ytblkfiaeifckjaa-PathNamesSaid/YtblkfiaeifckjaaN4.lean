/-
  ContainsAny at the two signs that no name has, and path's Name: every text.
  Conditions: none.
-/
import Derived.Test.YtblkfiaeifckjaaN3
namespace Go.Proofs.Ytblkfiaeifckjaa
open Go.RowKit Go.Shelf

theorem never_contains (x : UInt8) : never.data.toList.contains x = bad x := by
  show ([47, 0] : List UInt8).contains x = bad x
  simp only [bad, List.contains, List.elem]
  cases x == 47 <;> cases x == 0 <;> rfl
theorem never_index (x : UInt8) : decide (0 ≤ Lib.indexByte never.data.toList x) = bad x := by
  rw [← Lib.contains_iff_indexByte, never_contains]
theorem should (n : Int) (w : World) : Calls Try.prog 35 #[.int .i64 n] w fun e w' => e = .returned (.bool (decide (8 < n))) ∧ w' = w := by
  go_enter Try.func35, Try.ntmps35
  go_wp2
  go_ret
  exact ⟨rfl, rfl⟩
def NoBad (s : Bs) (i : Nat) : Prop := ∀ (j : Nat) b, j < i → s[j]? = some b → bad b = false
theorem NoBad.zero (s : Bs) : NoBad s 0 := fun _ _ h => absurd h (Nat.not_lt_zero _)
theorem NoBad.all {s : ByteArray} (h : NoBad s.data.toList s.size) : anyBad s.data.toList = false := anyBad_no fun j b hb => h j b (by
  have := (List.getElem?_eq_some_iff.1 hb).1
  rw [← Lib.size_eq] at this; exact this) hb
theorem NoBad.one {s : Bs} {i : Nat} (h : NoBad s i) {x : UInt8} (hx : s[i]? = some x) (hb : bad x = false) : NoBad s (i + 1) := fun j b hj hjb => by
  by_cases e : j = i
  · subst e; rw [hx] at hjb; injection hjb with hjb; subst hjb; exact hb
  · exact h j b (by omega) hjb
theorem NoBad.skip {s : ByteArray} {i k : Nat} (h : NoBad s.data.toList i) (hs : ∀ j, i ≤ j → j < k → 128 ≤ (s.get! j).toNat) : NoBad s.data.toList k := fun j b hj hjb => by
  by_cases e : j < i
  · exact h j b e hjb
  · have h1 := hs j (by omega) hj
    rw [get_list' s j b hjb] at h1
    have h2 : ¬ b = 47 := fun e => by subst e; exact absurd h1 (by decide)
    have h3 : ¬ b = 0 := fun e => by subst e; exact absurd h1 (by decide)
    simp [bad, h2, h3]

set_option maxHeartbeats 4000000 in
set_option maxRecDepth 1000000 in
theorem indexAny_short (s : ByteArray) (w : World) (h8 : s.size ≤ 8) :
    Calls Try.prog 27 #[.string s, .string never] w fun e w' => ∃ k, e = .returned (.int .i64 k) ∧ decide (0 ≤ k) = anyBad s.data.toList ∧ Below w.heap.size w w' := by
  have h8z : decide ((8 : Int) < (s.size : Int)) = false := decide_eq_false (by omega)
  go_enter Try.func27, Try.ntmps27
  go_wp2_with (go_at_call 35; refine (should _ _).mono ?_; rintro e w' ⟨rfl, hw⟩; rw [hw, h8z])
  go_loopg [9, 10] s.size (fun g _ _ wx => ∃ i : Nat, i + g = s.size ∧ wx.heap[w.heap.size]? = some (.stringIter s i) ∧ Below w.heap.size w wx ∧ NoBad s.data.toList i)
  case atStart => exact ⟨0, by omega, World.iter_heap w s 0, (Below.refl _ w).alloc (Nat.le_refl _) _, NoBad.zero _⟩
  case round =>
    obtain ⟨i, hig, hit, hbel, hno⟩ := hrel
    have HN := Lib.hid hno
    have HB := Lib.hid hbel
    have hlt := (Array.getElem?_eq_some_iff.1 hit).1
    clear hno hbel
    by_cases hi : i < s.size
    · obtain ⟨x, hx⟩ : ∃ x : UInt8, s[i]'hi = x := ⟨_, rfl⟩
      have hnx := fun ty => run_next_at (P := Try.prog) wr w.heap.size s i ty hit hi
      have Hx := Lib.hid (hx ▸ Lib.data_getElem? s i hi)
      by_cases hx128 : x.toNat < 128
      · rw [decode_ascii s i hi (by rw [hx]; exact hx128), hx] at hnx
        have hir := fun w => Try.strings_IndexRune_ascii never (x.toNat : Int) w (by omega) (by omega)
        have hback : ((x.toNat : Int)).toNat.toUInt8 = x := by simp
        rw [hback] at hir
        have hcon := never_index x
        obtain ⟨q, hq⟩ : ∃ q, Lib.indexByte never.data.toList x = q := ⟨_, rfl⟩
        rw [hq] at hir hcon
        cases hb : bad x
        · rw [hb] at hcon
          have hq0 : ¬ (0 ≤ q) := of_decide_eq_false hcon
          go_wp2_with (go_at_call 34; refine (hir _).mono ?_; rintro e w' ⟨rfl, hw⟩; rw [hw])
          go_roundg (s.size - (i + 1))
          case measure => omega
          case rel => exact ⟨i + 1, by omega, putObj_at hlt _, HB.out.trans (Below.putObj (Below.refl _ _) (Nat.le_refl _) _), HN.out.one Hx.out hb⟩
        · rw [hb] at hcon
          have hq0 : 0 ≤ q := of_decide_eq_true hcon
          go_wp2_with (go_at_call 34; refine (hir _).mono ?_; rintro e w' ⟨rfl, hw⟩; rw [hw])
          go_ret
          exact ⟨_, rfl, by rw [anyBad_of i x Hx.out hb]; exact decide_eq_true (by omega), HB.out.trans (Below.putObj (Below.refl _ _) (Nat.le_refl _) _)⟩
      · have hge : 128 ≤ (s[i]'hi).toNat := by rw [hx]; omega
        have hsk := Lib.hid (decode_skip s i hi hge)
        have hpos := (decode_high s i hi hge).2
        have hle := hsk.out.1
        have hir := Lib.hid (fun w => indexRune_high s i hi hge w)
        obtain ⟨r, hr⟩ : ∃ r, Utf8.decode s i = r := ⟨_, rfl⟩
        rw [hr] at hnx hpos hle
        have hir2 := Lib.hid (show ∀ w, Calls Try.prog 34 #[.string never, .int .i32 r.1] w fun e w' => e = .returned (.int .i64 (-1)) ∧ Below w.heap.size w w' by rw [← hr]; exact hir.out)
        have hge2 : ¬ (0 : Int) ≤ -1 := by decide
        clear hge
        go_wp2_with (go_at_call 34; refine (hir2.out _).mono ?_; rintro e w' ⟨rfl, hw⟩)
        go_roundg (s.size - (i + r.2))
        case measure => omega
        case rel =>
          have hsz : (wr.putObj w.heap.size (.stringIter s (i + r.2))).heap.size = wr.heap.size := by simp [World.putObj]
          have hb2 : Below w.heap.size w (wr.putObj w.heap.size (.stringIter s (i + r.2))) := HB.out.trans (Below.putObj (Below.refl _ _) (Nat.le_refl _) _)
          refine ⟨i + r.2, by omega, ?_, hb2.trans (hw.mono hb2.size), HN.out.skip fun j h1 h2 => ?_⟩
          · rw [hw.block _ (by rw [hsz]; exact hlt)]
            exact putObj_at hlt _
          · by_cases e : j = i
            · subst e
              have := get_at s j hi
              rw [Nat.add_zero] at this
              rw [this, hx]; omega
            · exact hsk.out.2 j (by omega) (by rw [hr]; exact h2)
    · obtain rfl : i = s.size := by omega
      have hnx := fun ty => run_next_over (P := Try.prog) wr w.heap.size s s.size ty hit hi
      go_wp2
      go_ret
      exact ⟨_, rfl, by rw [HN.out.all]; rfl, HB.out⟩

set_option maxHeartbeats 4000000 in
set_option maxRecDepth 1000000 in
theorem indexAny_long (s : ByteArray) (w : World) (h8 : 8 < s.size) (hs : s.size ≤ 9223372036854775807) :
    Calls Try.prog 27 #[.string s, .string never] w fun e w' => ∃ k, e = .returned (.int .i64 k) ∧ decide (0 ≤ k) = anyBad s.data.toList ∧ Below w.heap.size w w' := by
  have h8z : decide ((8 : Int) < (s.size : Int)) = true := decide_eq_true (by omega)
  have hM := Try.strings_makeASCIISet (fun w => by kernel_rfl) never w (by decide) (by
    intro j b hb
    have : b ∈ ([47, 0] : List UInt8) := List.mem_of_getElem? hb
    rcases List.mem_cons.1 this with rfl | h
    · decide
    · rcases List.mem_cons.1 h with rfl | h
      · decide
      · cases h)
  obtain ⟨C, hC⟩ : ∃ C, Lib.setCells never.data.toList = C := ⟨_, rfl⟩
  have hsz : C.size = 256 := by rw [← hC]; exact Lib.setCells_size _
  have hat : ∀ x : UInt8, C[x.toNat]? = some (.bool (bad x)) := fun x => by rw [← hC, Lib.setCells_at, never_contains]
  have hone : (C.all fun x => x.oneCell') = true := by rw [← hC]; exact Lib.setCells_one _
  rw [hC] at hM
  clear hC
  have hsc : (storeCells ⟨w.heap.size + 1, 0, none⟩ C.toList 0).run Try.prog ((w.alloc (.cells C 59)).alloc (.cells (Array.replicate 256 (.bool false)) 59)) = .ok () ((w.alloc (.cells C 59)).alloc (.cells C 59)) := by
    have := run_storeCells_new (P := Try.prog) (w.alloc (.cells C 59)) 59 (Array.replicate 256 (.bool false)) C (by rw [hsz]; kernel_rfl) (by rw [hsz, Array.size_replicate]) hone
    simpa using this
  have hcx : ∀ x : UInt8, ((w.alloc (.cells C 59)).alloc (.cells C 59)).cell? ⟨w.heap.size + 1, x.toNat, none⟩ = some (.bool (bad x)) := fun x => by
    rw [World.cell?_alloc_at _ _ _ _ (by simp)]
    exact hat x
  have hz59 : ∀ w, (zeroValue 59).run Try.prog w = .ok (.agg (Array.replicate 256 (.bool false))) w := fun w => by kernel_rfl
  have HC := Lib.hid hcx
  clear hcx hat hone
  go_enter Try.func27, Try.ntmps27
  go_wp2_with (first
    | (go_at_call 35; refine (should _ _).mono ?_; rintro e w' ⟨rfl, hw⟩; rw [hw, h8z])
    | (go_at_call 36; refine hM.mono ?_; rintro e w' ⟨rfl, hw⟩; rw [hw]))
  obtain ⟨W2, hW2⟩ : ∃ W2, (w.alloc (.cells C 59)).alloc (.cells C 59) = W2 := ⟨_, rfl⟩
  have hb2 : Below w.heap.size w W2 := by rw [← hW2]; exact ((Below.refl _ w).alloc (Nat.le_refl _) _).alloc (by simp) _
  rw [hW2] at HC ⊢
  clear hM hsc hz59 hsz
  go_loop [8] (fun s8 => ∃ i : Nat, i ≤ s.size ∧ s8 = .int .i64 i ∧ NoBad s.data.toList i) (fun s8 => s.size - (intOf s8).toNat)
  case atStart => exact ⟨0, Nat.zero_le _, rfl, NoBad.zero _⟩
  case round =>
    obtain ⟨i, hi, rfl, hno⟩ := hrel
    have HN := Lib.hid hno
    clear hno
    by_cases hlt : i < s.size
    · obtain ⟨x, hx⟩ : ∃ x : UInt8, s[i]'hlt = x := ⟨_, rfl⟩
      have Hx := Lib.hid (hx ▸ Lib.data_getElem? s i hlt)
      have hltz : (i : Int) < (s.size : Int) := by omega
      have hc := HC.out x
      cases hb : bad x <;> rw [hb] at hc
      · go_wp2_with (go_at_call 37; refine (Try.asciiSet_contains _ x _ _ hc).mono ?_; rintro e w' ⟨rfl, hw⟩; rw [hw])
        exact ⟨⟨i + 1, by omega, by go_num, HN.out.one Hx.out hb⟩, by simp only [intOf]; omega⟩
      · go_wp2_with (go_at_call 37; refine (Try.asciiSet_contains _ x _ _ hc).mono ?_; rintro e w' ⟨rfl, hw⟩; rw [hw])
        go_ret
        exact ⟨_, rfl, by rw [anyBad_of i x Hx.out hb]; exact decide_eq_true (by omega), hb2⟩
    · obtain rfl : i = s.size := by omega
      go_wp2
      go_ret
      exact ⟨_, rfl, by rw [HN.out.all]; rfl, hb2⟩

theorem indexAny (s : ByteArray) (w : World) (hs : s.size ≤ 9223372036854775807) :
    Calls Try.prog 27 #[.string s, .string never] w fun e w' => ∃ k, e = .returned (.int .i64 k) ∧ decide (0 ≤ k) = anyBad s.data.toList ∧ Below w.heap.size w w' := by
  by_cases h8 : s.size ≤ 8
  · exact indexAny_short s w h8
  · exact indexAny_long s w (by omega) hs
theorem containsAny (s : ByteArray) (w : World) (hs : s.size ≤ 9223372036854775807) :
    Calls Try.prog 21 #[.string s, .string never] w fun e w' => e = .returned (.bool (anyBad s.data.toList)) ∧ Below w.heap.size w w' := by
  have h := Lib.hid (fun w => indexAny s w hs)
  go_enter Try.func21, Try.ntmps21
  go_wp2_with (go_at_call 27; refine (h.out _).mono ?_; rintro e w' ⟨k, rfl, hk, hb⟩)
  go_ret
  exact ⟨rfl, hb⟩

set_option maxHeartbeats 1000000 in
/-- path's Name. -/
theorem name (s : ByteArray) (w : World) (hs : s.size ≤ 9223372036854775807) :
    Calls Try.prog 11 #[.string s] w fun e w' => e = .returned (.int .i64 (nameE s.data.toList)) ∧ Below w.heap.size w w' := by
  have h := Lib.hid (fun w => containsAny s w hs)
  by_cases h0 : s.toList = []
  · rw [nameE_empty h0]
    have e0 : s.toList.isEmpty = true := by rw [h0]; rfl
    go_enter Try.func11, Try.ntmps11
    go_wp2
    go_ret
    exact ⟨rfl, Below.refl _ _⟩
  have e0 : s.toList.isEmpty = false := by
    cases h : s.toList with
    | nil => exact absurd h h0
    | cons _ _ => rfl
  by_cases h1 : s.toList = [46]
  · rw [nameE_dot h1]
    have e1 : (s.toList == [46]) = true := beq_iff_eq.2 h1
    go_enter Try.func11, Try.ntmps11
    go_wp2
    go_ret
    exact ⟨rfl, Below.refl _ _⟩
  have e1 : (s.toList == [46]) = false := beq_eq_false_iff_ne.2 h1
  by_cases h2 : s.toList = [46, 46]
  · rw [nameE_dots h2]
    have e2 : (s.toList == [46, 46]) = true := beq_iff_eq.2 h2
    go_enter Try.func11, Try.ntmps11
    go_wp2
    go_ret
    exact ⟨rfl, Below.refl _ _⟩
  have e2 : (s.toList == [46, 46]) = false := beq_eq_false_iff_ne.2 h2
  obtain ⟨x, hx⟩ : ∃ x, anyBad s.data.toList = x := ⟨_, rfl⟩
  cases x
  · have hE := nameE_else h0 h1 h2 hx
    rw [hx] at h
    by_cases h27 : 27 < s.size
    · rw [if_pos h27] at hE
      rw [hE]
      go_enter Try.func11, Try.ntmps11
      go_wp2_with (go_at_call 21; refine (h.out _).mono ?_; rintro e w' ⟨rfl, hb⟩)
      go_ret
      exact ⟨rfl, hb⟩
    · rw [if_neg h27] at hE
      rw [hE]
      go_enter Try.func11, Try.ntmps11
      go_wp2_with (go_at_call 21; refine (h.out _).mono ?_; rintro e w' ⟨rfl, hb⟩)
      go_ret
      exact ⟨rfl, hb⟩
  · rw [nameE_bad hx]
    rw [hx] at h
    go_enter Try.func11, Try.ntmps11
    go_wp2_with (go_at_call 21; refine (h.out _).mono ?_; rintro e w' ⟨rfl, hb⟩)
    go_ret
    exact ⟨rfl, hb⟩
end Go.Proofs.Ytblkfiaeifckjaa
