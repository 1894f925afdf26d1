/-
  The library's ContainsAny at the two signs that no name has; path's Name: every text.
  Conditions: none.
-/
import Derived.Test.YtblkfiaeifckjaaN2
import Derived.Laws.RangeAny
import Derived.RangeFuncRecord
import Derived.Laws.RangeString
import Derived.Laws.Runes
import Derived.Laws.Strings3
import Derived.Lib.IndexAny
import Derived.Lib.Builder
import Derived.Deep.LoopGhost
namespace Go.Proofs.Ytblkfiaeifckjaa
open Go.RowKit Go.Shelf

/-- The two signs. -/
abbrev never : ByteArray := ⟨#[47, 0]⟩

set_option maxHeartbeats 4000000 in
set_option maxRecDepth 1000000 in
theorem indexRune_error (w : World) :
    Calls Try.prog 34 #[.string never, .int .i32 65533] w fun e w' => e = .returned (.int .i64 (-1)) ∧ ∃ pos, w' = w.iter never pos := by
  have h1 := fun ty => run_next_ascii (P := Try.prog) w never 0 ty (by decide) (by decide)
  have h2 := fun ty => run_next_ascii (P := Try.prog) w never 1 ty (by decide) (by decide)
  have h3 := fun ty => run_next_end (P := Try.prog) w never 2 ty (by decide)
  go_enter Try.func34, Try.ntmps34
  go_wp2
  go_loopg [5, 6] 2 (fun g _ _ wx => ∃ i : Nat, i + g = 2 ∧ wx = w.iter never i)
  case atStart => exact ⟨0, rfl, rfl⟩
  case round =>
    obtain ⟨i, hig, rfl⟩ := hrel
    cases gk with
    | zero =>
      obtain rfl : i = 2 := by omega
      go_wp2
      go_ret
      exact ⟨rfl, _, rfl⟩
    | succ g =>
      have hi : i = 0 ∨ i = 1 := by omega
      rcases hi with rfl | rfl
      · go_wp2
        go_roundg g
        case measure => omega
        case rel => exact ⟨1, by omega, rfl⟩
      · go_wp2
        go_roundg g
        case measure => omega
        case rel => exact ⟨2, by omega, rfl⟩

set_option maxHeartbeats 4000000 in
set_option maxRecDepth 1000000 in
theorem indexRune_valid (r : Int) (h1 : 128 ≤ r) (h2 : r ≤ 1114111) (h3 : ¬ r = 65533) (hv : Lib.validRune r = true) (hv2 : Utf8.valid r = true) (w : World) :
    Calls Try.prog 34 #[.string never, .int .i32 r] w fun e w' => e = .returned (.int .i64 (-1)) ∧ ∃ n, w' = w.drewN n := by
  obtain ⟨e1, e2, e3⟩ := encode_facts r hv2 h1
  obtain ⟨X, hX⟩ : ∃ X, Utf8.encode r = X := ⟨_, rfl⟩
  rw [hX] at e1 e2 e3
  have e4 : ∀ h : 1 < X.size, X.size = 2 → 128 ≤ (X[1]'h).toNat := fun h h2 => by
    have := e3 (by omega)
    simpa [h2] using this
  have g0 : ((r == 65533) = false) := beq_eq_false_iff_ne.2 h3
  have hcv : ∀ w, (convert 21 9 (.int .i32 r)).run Try.prog w = .ok (.string X) w := fun w => by
    rw [← hX]; exact run_convert_int_string w _ _ _ _ (by rw [Try.underlying21]; rfl) Try.underlying9
  clear hX e3
  by_cases hs : X.size = 2
  · obtain ⟨y, hy⟩ : ∃ y : UInt8, X[1]'(by omega) = y := ⟨_, rfl⟩
    have hxz : (X.size : Int) = 2 := by omega
    have hy128 : 128 ≤ y.toNat := by rw [← hy]; exact e4 _ hs
    have hne : (((never[1]'(by decide)).toNat : Int) != (y.toNat : Int)) = true := bne_iff_ne.2 (by rw [show (never[1]'(by decide)).toNat = 0 from rfl]; omega)
    have hib : ∀ (c : Int) (w : World), Calls Try.prog 41 #[.string ByteArray.empty, .int .u8 c] w fun e w' => e = .returned (.int .i64 (-1)) ∧ w' = w := fun c w => Try.strings_IndexByte _ c w
    have hw2 : IntKind.i64.wrap 2 = 2 := by decide
    clear e4
    go_enter Try.func34, Try.ntmps34
    go_wp2_with (go_at_call 42; refine (Try.utf8_ValidRune _ _).mono ?_; rintro e w' ⟨rfl, hw⟩; rw [hw, hv])
    go_step3
    go_wp2_with (go_at_call 41; refine (Try.strings_IndexByte _ _ _).mono ?_; rintro e w' ⟨rfl, hw⟩; rw [hw])
    go_loop [9] (fun s9 => s9 = .int .i64 1) (fun _ => 0)
    case atStart => rfl
    case round =>
      obtain rfl := hrel
      go_wp2
      go_step3
      go_wp2
      go_quiet (fail)
      go_wp2
      all_goals (try (exfalso; omega))
      go_quiet ((go_at_call 41; exact (hib _ _).mono (fun _ _ h => ⟨h.1, _, h.2⟩)))
      go_wp2
      rw [Exit.noGoto_ret]
      go_wp2
      try rw [Exit.noGoto_ret]
      go_ret
      exact ⟨rfl, _, rfl⟩
  · have hl : ¬ ((X.size : Int) - 1 < 2) := by omega
    go_enter Try.func34, Try.ntmps34
    go_wp2_with (go_at_call 42; refine (Try.utf8_ValidRune _ _).mono ?_; rintro e w' ⟨rfl, hw⟩; rw [hw, hv])
    go_step3
    go_wp2_with (go_at_call 41; refine (Try.strings_IndexByte _ _ _).mono ?_; rintro e w' ⟨rfl, hw⟩; rw [hw])
    go_loop [9] (fun s9 => s9 = .int .i64 ((X.size : Int) - 1)) (fun _ => 0)
    case atStart => rfl
    case round =>
      obtain rfl := hrel
      go_wp2
      go_ret
      exact ⟨rfl, 0, rfl⟩

theorem decode_kind (s : ByteArray) (pos : Nat) (h : pos < s.size) (ha : 128 ≤ (s[pos]'h).toNat) :
    (Utf8.decode s pos).1 = 65533 ∨ (Utf8.valid (Utf8.decode s pos).1 = true ∧ (Utf8.decode s pos).1 ≤ 1114111) := by
  have hn : ¬ (s[pos]'h).toNat < 128 := by omega
  have hb : ∀ k, (s.get! (pos + k)).toNat < 256 := fun k => (s.get! (pos + k)).toNat_lt
  have h1 := hb 1; have h2 := hb 2; have h3 := hb 3
  have h0 := (s[pos]'h).toNat_lt
  simp only [Utf8.decode, get_at s pos h, hn, if_false]
  repeat' split
  all_goals simp_all [Utf8.runeError, Utf8.valid]
  all_goals omega
theorem decode_skip (s : ByteArray) (pos : Nat) (h : pos < s.size) (ha : 128 ≤ (s[pos]'h).toNat) :
    pos + (Utf8.decode s pos).2 ≤ s.size ∧ ∀ j, pos < j → j < pos + (Utf8.decode s pos).2 → 128 ≤ (s.get! j).toNat := by
  have hn : ¬ (s[pos]'h).toNat < 128 := by omega
  have key : ∀ k, (s.get! (pos + k)).toNat / 64 = 2 → 128 ≤ (s.get! (pos + k)).toNat := fun k hk => by omega
  simp only [Utf8.decode, get_at s pos h, hn, if_false]
  repeat' split
  all_goals simp_all only [Bool.and_eq_true, decide_eq_true_eq, beq_iff_eq, ge_iff_le]
  all_goals refine ⟨by omega, fun j h1 h2 => ?_⟩
  all_goals have hj : j = pos + 1 ∨ j = pos + 2 ∨ j = pos + 3 := by omega
  all_goals rcases hj with rfl | rfl | rfl
  all_goals first
    | (exfalso; omega)
    | (apply key; simp_all)
theorem get_list' (s : ByteArray) (j : Nat) (x : UInt8) (h : s.data.toList[j]? = some x) : s.get! j = x := by
  have hlt : j < s.data.toList.length := (List.getElem?_eq_some_iff.1 h).1
  have hs : j < s.size := by rw [Lib.size_eq]; exact hlt
  have h2 := Lib.data_getElem? s j hs
  rw [h] at h2
  injection h2 with h2
  have := get_at s j hs
  rw [Nat.add_zero] at this
  rw [this, ← h2]
theorem run_next_at {P : Program} (W : World) (b : Nat) (s : ByteArray) (pos : Nat) (ty : TypeId) (hb : W.heap[b]? = some (.stringIter s pos)) (h : pos < s.size) :
    (Instr.next (.pointer (some ⟨b, 0, none⟩)) true ty).run P W =
      .ok (.tuple #[.bool true, .int .i64 pos, .int .i32 (Utf8.decode s pos).1]) (W.putObj b (.stringIter s (pos + (Utf8.decode s pos).2))) := by
  simp only [Instr.next, getObj, setObj, Sem.run_bind, Sem.run, hb, Result.andThen, h, if_true, World.putObj]
  simp [goInt]
theorem run_next_over {P : Program} (W : World) (b : Nat) (s : ByteArray) (pos : Nat) (ty : TypeId) (hb : W.heap[b]? = some (.stringIter s pos)) (h : ¬ pos < s.size) :
    (Instr.next (.pointer (some ⟨b, 0, none⟩)) true ty).run P W = .ok (.tuple #[.bool false]) W := by
  simp [Instr.next, getObj, Sem.run, hb, h]
theorem Below.putObj {B : Nat} {w W : World} (h : Below B w W) {b : Nat} (hb : B ≤ b) (o : Obj) : Below B w (W.putObj b o) :=
  h.trans ⟨rfl, rfl, rfl, by simp [World.putObj], fun k hk => by
    simp only [World.putObj]
    rw [Array.getElem?_setIfInBounds_ne (by omega)]⟩
theorem putObj_at {W : World} {b : Nat} (h : b < W.heap.size) (o : Obj) : (W.putObj b o).heap[b]? = some o := by
  simp [World.putObj, h]
theorem valid_of {r : Int} (h : Utf8.valid r = true) : Lib.validRune r = true := by
  simp [Utf8.valid, Lib.validRune] at h ⊢
  omega

/-- IndexRune at what a byte beyond ASCII is read as. -/
theorem indexRune_high (s : ByteArray) (pos : Nat) (h : pos < s.size) (ha : 128 ≤ (s[pos]'h).toNat) (w : World) :
    Calls Try.prog 34 #[.string never, .int .i32 (Utf8.decode s pos).1] w fun e w' => e = .returned (.int .i64 (-1)) ∧ Below w.heap.size w w' := by
  have h1 := (decode_high s pos h ha).1
  by_cases he : (Utf8.decode s pos).1 = 65533
  · rw [he]
    refine (indexRune_error w).mono ?_
    rintro e w' ⟨rfl, p, rfl⟩
    exact ⟨rfl, (Below.refl _ w).alloc (Nat.le_refl _) _⟩
  · rcases decode_kind s pos h ha with h2 | ⟨h2, h3⟩
    · exact absurd h2 he
    · refine (indexRune_valid _ (by omega) (by omega) (by omega) (valid_of h2) h2 w).mono ?_
      rintro e w' ⟨rfl, n, rfl⟩
      exact ⟨rfl, ⟨rfl, rfl, rfl, Nat.le_refl _, fun _ _ => rfl⟩⟩
end Go.Proofs.Ytblkfiaeifckjaa
