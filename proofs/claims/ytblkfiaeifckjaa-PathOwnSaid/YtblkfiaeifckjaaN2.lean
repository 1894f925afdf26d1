/-
  The definition's Name: every text.
  Conditions: none.
-/
import Derived.Test.YtblkfiaeifckjaaNs
import Derived.Lib.IndexBytes
namespace Go.Proofs.Ytblkfiaeifckjaa
open Go.RowKit Go.Shelf

theorem byte_ne {x c : UInt8} (h : ¬ x = c) : (((x.toNat : Nat) : Int) == (c.toNat : Int)) = false :=
  beq_eq_false_iff_ne.2 fun e => h (UInt8.toNat_inj.1 (by omega))
theorem nameE_empty {s : ByteArray} (h : s.toList = []) : nameE s.data.toList = 25 := by
  rw [Lib.toList_data] at h; simp [nameE, h]
theorem nameE_dot {s : ByteArray} (h : s.toList = [46]) : nameE s.data.toList = 25 := by
  rw [Lib.toList_data] at h; simp [nameE, h]
theorem nameE_dots {s : ByteArray} (h : s.toList = [46, 46]) : nameE s.data.toList = 25 := by
  rw [Lib.toList_data] at h; simp [nameE, h]
theorem nameE_bad {s : Bs} (h : anyBad s = true) : nameE s = 25 := by simp [nameE, h]
theorem nameE_else {s : ByteArray} (h0 : ¬ s.toList = []) (h1 : ¬ s.toList = [46]) (h2 : ¬ s.toList = [46, 46]) (h : anyBad s.data.toList = false) :
    nameE s.data.toList = if 27 < s.size then 26 else 0 := by
  rw [Lib.toList_data] at h0 h1 h2
  rw [Lib.size_eq]
  simp [nameE, h0, h1, h2, h]

set_option maxHeartbeats 1000000 in
theorem refName (s : ByteArray) (w : World) (hs : s.size ≤ 9223372036854775807) :
    Calls Try.prog 12 #[.string s] w fun e w' => e = .returned (.int .i64 (nameE s.data.toList)) ∧ w' = w := by
  by_cases h0 : s.toList = []
  · rw [nameE_empty h0]
    go_enter Try.func12, Try.ntmps12
    go_wp2
    go_ret
    exact ⟨rfl, rfl⟩
  by_cases h1 : s.toList = [46]
  · rw [nameE_dot h1]
    go_enter Try.func12, Try.ntmps12
    go_wp2
    go_ret
    exact ⟨rfl, rfl⟩
  by_cases h2 : s.toList = [46, 46]
  · rw [nameE_dots h2]
    go_enter Try.func12, Try.ntmps12
    go_wp2
    go_ret
    exact ⟨rfl, rfl⟩
  have e0 : s.toList.isEmpty = false := by cases h : s.toList with
    | nil => exact absurd h h0
    | cons _ _ => rfl
  have e1 : (s.toList == [46]) = false := beq_eq_false_iff_ne.2 h1
  have e2 : (s.toList == [46, 46]) = false := beq_eq_false_iff_ne.2 h2
  go_enter Try.func12, Try.ntmps12
  go_wp2
  go_loop [3] (fun s3 => ∃ i : Nat, i ≤ s.size ∧ s3 = .int .i64 i ∧ ∀ (j : Nat) b, j < i → s.data.toList[j]? = some b → bad b = false) (fun s3 => s.size - (intOf s3).toNat)
  case atStart => exact ⟨0, Nat.zero_le _, rfl, fun j b h => absurd h (by omega)⟩
  case round =>
    obtain ⟨i, hi, rfl, hno⟩ := hrel
    have HN := Lib.hid hno
    clear hno
    by_cases hlt : i < s.size
    · obtain ⟨x, hx⟩ : ∃ x : UInt8, s[i]'hlt = x := ⟨_, rfl⟩
      have hxl : s.data.toList[i]? = some x := by rw [← hx]; exact Lib.data_getElem? s i hlt
      have Hx := Lib.hid hxl
      clear hxl
      have hltz : (i : Int) < (s.size : Int) := by omega
      by_cases hz : x = 0
      · subst hz
        have hb : nameE s.data.toList = 25 := nameE_bad (anyBad_of i _ Hx.out rfl)
        go_wp2
        go_ret
        exact ⟨rfl, rfl⟩
      by_cases hz2 : x = 47
      · subst hz2
        have hb : nameE s.data.toList = 25 := nameE_bad (anyBad_of i _ Hx.out rfl)
        go_wp2
        go_ret
        exact ⟨rfl, rfl⟩
      have hz3 : ((x.toNat : Int) == 0) = false := byte_ne hz
      have hz4 : ((x.toNat : Int) == 47) = false := byte_ne hz2
      go_wp2
      refine ⟨⟨i + 1, by omega, by go_num, fun j b hj hb => ?_⟩, by simp only [intOf]; omega⟩
      by_cases hji : j = i
      · subst hji
        rw [Hx.out] at hb
        injection hb with hb
        subst hb
        simp [bad, hz, hz2]
      · exact HN.out j b (by omega) hb
    · obtain rfl : i = s.size := by omega
      have hnb : anyBad s.data.toList = false := anyBad_no fun j b hb => HN.out j b (by
        have := (List.getElem?_eq_some_iff.1 hb).1
        rw [← Lib.size_eq] at this; exact this) hb
      have hE := nameE_else h0 h1 h2 hnb
      by_cases h27 : 27 < s.size
      · rw [if_pos h27] at hE
        go_wp2
        go_ret
        exact ⟨rfl, rfl⟩
      · rw [if_neg h27] at hE
        go_wp2
        go_ret
        exact ⟨rfl, rfl⟩
end Go.Proofs.Ytblkfiaeifckjaa
