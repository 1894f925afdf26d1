/-
  Lists of names beside each other: the definition's Same and Below, the library's Equal, path's Below.
  Conditions: each theorem's own.
-/
import Derived.Test.YtblkfiaeifckjaaN6
namespace Go.Proofs.Ytblkfiaeifckjaa
open Go.RowKit Go.Shelf

/-- The first i of both are the same. -/
def Eqs (xs ys : List Bs) (i : Nat) : Prop := ∀ j, j < i → xs[j]? = ys[j]?
theorem Eqs.zero (xs ys : List Bs) : Eqs xs ys 0 := fun _ h => absurd h (Nat.not_lt_zero _)
theorem Eqs.succ {xs ys : List Bs} {i : Nat} (h : Eqs xs ys i) (hi : xs[i]? = ys[i]?) : Eqs xs ys (i + 1) := fun j hj => by
  by_cases e : j = i
  · subst e; exact hi
  · exact h j (by omega)
theorem Eqs.all {xs ys : List Bs} {n : Nat} (h : Eqs xs ys n) (hx : xs.length = n) (hy : ys.length = n) : xs = ys := List.ext_getElem? fun j => by
  by_cases hj : j < n
  · exact h j hj
  · rw [List.getElem?_eq_none (by omega), List.getElem?_eq_none (by omega)]
theorem drew_below {w : World} {B : Nat} (q : Nat) : Below B w (w.drewN q) := ⟨rfl, rfl, rfl, Nat.le_refl _, fun _ _ => rfl⟩

set_option maxHeartbeats 1000000 in
theorem refSame (A B : Option Addr) (n m c d : Nat) (xs ys : List Bs) (w : World) (D E : Nat) (hx : Reads w D A n (svs xs)) (hy : Reads w E B m (svs ys)) (hn : n ≤ 9223372036854775807) :
    Calls Try.prog 16 #[.slice A n c, .slice B m d] w fun e w' => e = .returned (.bool (decide (xs = ys))) ∧ ∃ q, w' = w.drewN q := by
  have HX := Lib.hid hx
  have HY := Lib.hid hy
  have lx := hx.slen
  have ly := hy.slen
  clear hx hy
  by_cases hnm : n = m
  · subst hnm
    go_enter Try.func16, Try.ntmps16
    go_wp2
    go_loopw [5] (fun s5 wr => ∃ i q : Nat, i ≤ n ∧ s5 = .int .i64 i ∧ wr = w.drewN q ∧ Eqs xs ys i) (fun s5 _ => n - (intOf s5).toNat)
    case atStart => exact ⟨0, 0, Nat.zero_le _, rfl, rfl, Eqs.zero _ _⟩
    case round =>
      obtain ⟨i, q, hi, rfl, rfl, heq⟩ := hrel
      have HE := Lib.hid heq
      clear heq
      by_cases hlt : i < n
      · obtain ⟨a, x, rfl, _, hxi, hca⟩ := HX.out.str hlt
        obtain ⟨b, y, rfl, _, hyi, hcb⟩ := HY.out.str hlt
        have hiz : (i : Int) < (n : Int) := by omega
        obtain ⟨X, hX⟩ : ∃ X : ByteArray, (⟨x.toArray⟩ : ByteArray) = X := ⟨_, rfl⟩
        obtain ⟨Y, hY⟩ : ∃ Y : ByteArray, (⟨y.toArray⟩ : ByteArray) = Y := ⟨_, rfl⟩
        have hXl : X.toList = x := by rw [Lib.toList_data, ← hX]
        have hYl : Y.toList = y := by rw [Lib.toList_data, ← hY]
        unfold sv at hca hcb
        rw [hX] at hca
        rw [hY] at hcb
        have HXi := Lib.hid hxi
        have HYi := Lib.hid hyi
        clear hxi hyi hX hY
        by_cases hxy : x = y
        · have he : (X.toList == Y.toList) = true := by rw [hXl, hYl, hxy]; simp
          have HE2 := Lib.hid (HE.out.succ (by rw [HXi.out, HYi.out, hxy]))
          clear hXl hYl hxy
          go_wp2
          go_quiet (fail)
          go_wp2
          exact ⟨⟨i + 1, q + nq, by omega, by go_num, rfl, HE2.out⟩, by simp only [intOf]; omega⟩
        · have he : (X.toList == Y.toList) = false := by rw [hXl, hYl]; exact beq_eq_false_iff_ne.2 hxy
          have hd : decide (xs = ys) = false := decide_eq_false fun e => hxy (by
            have h1 := HXi.out
            rw [e, HYi.out] at h1
            exact (Option.some.inj h1).symm)
          clear hXl hYl hxy
          go_wp2
          go_quiet (fail)
          go_wp2
          go_ret
          exact ⟨by rw [hd]; rfl, _, by rw [World.drewN_drewN]⟩
      · obtain rfl : i = n := by omega
        have hd : decide (xs = ys) = true := decide_eq_true (HE.out.all lx ly)
        go_wp2
        go_ret
        exact ⟨by rw [hd]; rfl, _, rfl⟩
  · have hd : decide (xs = ys) = false := decide_eq_false fun e => hnm (by rw [← lx, ← ly, e])
    have hz : ((n : Int) != (m : Int)) = true := bne_iff_ne.2 (by omega)
    go_enter Try.func16, Try.ntmps16
    go_wp2
    go_ret
    exact ⟨by rw [hd]; rfl, 0, rfl⟩
set_option maxHeartbeats 1000000 in
theorem equal (A B : Option Addr) (n m c d : Nat) (xs ys : List Bs) (w : World) (D E : Nat) (hx : Reads w D A n (svs xs)) (hy : Reads w E B m (svs ys)) (hn : n ≤ 9223372036854775807) :
    Calls Try.prog 26 #[.slice A n c, .slice B m d] w fun e w' => e = .returned (.bool (decide (xs = ys))) ∧ ∃ q, w' = w.drewN q := by
  have HX := Lib.hid hx
  have HY := Lib.hid hy
  have lx := hx.slen
  have ly := hy.slen
  clear hx hy
  by_cases hnm : n = m
  · subst hnm
    go_enter Try.func26, Try.ntmps26
    go_wp2
    go_loopw [5, 13] (fun _ s13 wr => ∃ i q : Nat, i ≤ n ∧ s13 = .int .i64 i ∧ wr = w.drewN q ∧ Eqs xs ys i) (fun _ s13 _ => n - (intOf s13).toNat)
    case atStart => exact ⟨0, 0, Nat.zero_le _, rfl, rfl, Eqs.zero _ _⟩
    case round =>
      obtain ⟨i, q, hi, rfl, rfl, heq⟩ := hrel
      have HE := Lib.hid heq
      clear heq
      by_cases hlt : i < n
      · obtain ⟨a, x, rfl, _, hxi, hca⟩ := HX.out.str hlt
        obtain ⟨b, y, rfl, _, hyi, hcb⟩ := HY.out.str hlt
        have hiz : (i : Int) < (n : Int) := by omega
        obtain ⟨X, hX⟩ : ∃ X : ByteArray, (⟨x.toArray⟩ : ByteArray) = X := ⟨_, rfl⟩
        obtain ⟨Y, hY⟩ : ∃ Y : ByteArray, (⟨y.toArray⟩ : ByteArray) = Y := ⟨_, rfl⟩
        have hXl : X.toList = x := by rw [Lib.toList_data, ← hX]
        have hYl : Y.toList = y := by rw [Lib.toList_data, ← hY]
        unfold sv at hca hcb
        rw [hX] at hca
        rw [hY] at hcb
        have HXi := Lib.hid hxi
        have HYi := Lib.hid hyi
        clear hxi hyi hX hY
        by_cases hxy : x = y
        · have he : (X.toList == Y.toList) = true := by rw [hXl, hYl, hxy]; simp
          have HE2 := Lib.hid (HE.out.succ (by rw [HXi.out, HYi.out, hxy]))
          clear hXl hYl hxy
          go_wp2
          go_quiet (fail)
          go_wp2
          exact ⟨⟨i + 1, q + nq, by omega, by go_num, rfl, HE2.out⟩, by simp only [intOf]; omega⟩
        · have he : (X.toList == Y.toList) = false := by rw [hXl, hYl]; exact beq_eq_false_iff_ne.2 hxy
          have hd : decide (xs = ys) = false := decide_eq_false fun e => hxy (by
            have h1 := HXi.out
            rw [e, HYi.out] at h1
            exact (Option.some.inj h1).symm)
          clear hXl hYl hxy
          go_wp2
          go_quiet (fail)
          go_wp2
          go_ret
          exact ⟨by rw [hd]; rfl, _, by rw [World.drewN_drewN]⟩
      · obtain rfl : i = n := by omega
        have hd : decide (xs = ys) = true := decide_eq_true (HE.out.all lx ly)
        go_wp2
        go_ret
        exact ⟨by rw [hd]; rfl, _, rfl⟩
  · have hd : decide (xs = ys) = false := decide_eq_false fun e => hnm (by rw [← lx, ← ly, e])
    have hz : ((n : Int) != (m : Int)) = true := bne_iff_ne.2 (by omega)
    go_enter Try.func26, Try.ntmps26
    go_wp2
    go_ret
    exact ⟨by rw [hd]; rfl, 0, rfl⟩

/-- Does one begin with all of the other one? -/
def belowB (above names : List Bs) : Bool := decide (above.length ≤ names.length) && decide (above = names.take above.length)
theorem svs_take (l : List Bs) (k : Nat) : (svs l).take k = svs (l.take k) := by simp [svs]
theorem Reads.take {w : World} {D n k : Nat} {A : Option Addr} {l : List Bs} (h : Reads w D A n (svs l)) (hk : k ≤ n) : Reads w D A k (svs (l.take k)) := by
  have hl := h.slen
  refine ⟨by rw [svs_length]; simp; omega, fun h0 => ?_⟩
  obtain ⟨ad, e, hb, hc⟩ := h.2 (by omega)
  refine ⟨ad, e, hb, fun j u hu => hc j u ?_⟩
  rw [← svs_take, List.getElem?_take] at hu
  split at hu
  · exact hu
  · cases hu

theorem addr_add0 (A : Option Addr) (k : Nat) : A.map (fun a => a.add (0 * k)) = A := by
  cases A with
  | none => rfl
  | some a => simp [Addr.add]
theorem sliceBound_ok {P : Program} (w : World) (k c : Nat) (h : k ≤ c) (code : BoundsCode) : (Instr.sliceBound (.int .i64 (k : Int)) c code).run P w = .ok k w := by
  have h2 : (k : Int) ≤ (c : Int) := by omega
  simp [Instr.sliceBound, asIntOf, h2]
/-- A slice cut at k, its room too. -/
theorem run_slice3 (w : World) (A : Option Addr) (n c k : Nat) (hk : k ≤ c) :
    (Instr.slice 26 (.slice A n c) none (some (.int .i64 (k : Int))) (some (.int .i64 (k : Int)))).run Try.prog w = .ok (.slice A k k) w := by
  have h1 := fun w code => sliceBound_ok (P := Try.prog) w k c hk code
  have h2 := fun w code => sliceBound_ok (P := Try.prog) w k k (Nat.le_refl _) code
  simp only [Instr.slice, Sem.run_bind, run_underlying Try.underlying26, Result.andThen_ok, Instr.sliceBounds, h1, h2, Sem.run_pure, Try.sizeOf9, addr_add0, ite_self, Nat.sub_zero]
theorem head (w : World) (A : Option Addr) (n c k : Nat) (hk : k ≤ c) :
    Calls Try.prog 24 #[.slice A n c, .int .i64 k] w fun e w' => e = .returned (.slice A k k) ∧ w' = w := by
  have h := fun w => run_slice3 w A n c k hk
  go_enter Try.func24, Try.ntmps24
  go_wp2
  go_ret
  exact ⟨rfl, rfl⟩
theorem belowB_long {xs ys : List Bs} (h : ¬ xs.length ≤ ys.length) : belowB xs ys = false := by simp [belowB, h]
theorem belowB_short {xs ys : List Bs} (h : xs.length ≤ ys.length) : belowB xs ys = decide (xs = ys.take xs.length) := by simp [belowB, h]

set_option maxHeartbeats 1000000 in
/-- path's Below. -/
theorem below (A B : Option Addr) (n m c d : Nat) (xs ys : List Bs) (w : World) (D E : Nat) (hx : Reads w D A n (svs xs)) (hy : Reads w E B m (svs ys)) (hn : n ≤ 9223372036854775807) (hd : m ≤ d) :
    Calls Try.prog 19 #[.slice A n c, .slice B m d] w fun e w' => e = .returned (.bool (belowB xs ys)) ∧ ∃ q, w' = w.drewN q := by
  have lx := hx.slen
  have ly := hy.slen
  by_cases hnm : n ≤ m
  · rw [belowB_short (by omega), lx]
    have H1 := Lib.hid (fun w => head w B m d n (by omega))
    have H2 := Lib.hid (fun (q : Nat) => equal A B n n c n xs (ys.take n) (w.drewN q) D E (hx.drewN q) ((Reads.take hy hnm).drewN q) hn)
    have hz : (n : Int) ≤ (m : Int) := by omega
    clear hx hy
    go_enter Try.func19, Try.ntmps19
    go_wp2_with (first
      | (go_at_call 24; refine (H1.out _).mono ?_; rintro e w' ⟨rfl, hw⟩; rw [hw])
      | (go_at_call 26; refine (H2.out 0).mono ?_; rintro e w' ⟨rfl, q, rfl⟩))
    go_ret
    exact ⟨rfl, _, rfl⟩
  · rw [belowB_long (by omega)]
    have hz : ¬ (n : Int) ≤ (m : Int) := by omega
    go_enter Try.func19, Try.ntmps19
    go_wp2
    go_ret
    exact ⟨rfl, 0, rfl⟩
set_option maxHeartbeats 1000000 in
/-- The definition's Below. -/
theorem refBelow (A B : Option Addr) (n m c d : Nat) (xs ys : List Bs) (w : World) (D E : Nat) (hx : Reads w D A n (svs xs)) (hy : Reads w E B m (svs ys)) (hn : n ≤ 9223372036854775807) (hd : m ≤ d) :
    Calls Try.prog 20 #[.slice A n c, .slice B m d] w fun e w' => e = .returned (.bool (belowB xs ys)) ∧ ∃ q, w' = w.drewN q := by
  have lx := hx.slen
  have ly := hy.slen
  by_cases hnm : n ≤ m
  · rw [belowB_short (by omega), lx]
    have H2 := Lib.hid (fun (b : Nat) => refSame A B n n c b xs (ys.take n) w D E hx (Reads.take hy hnm) hn)
    have hz : (n : Int) ≤ (m : Int) := by omega
    clear hx hy
    go_enter Try.func20, Try.ntmps20
    go_wp2_with (go_at_call 16; refine (H2.out _).mono ?_; rintro e w' ⟨rfl, q, rfl⟩)
    go_ret
    exact ⟨rfl, _, rfl⟩
  · rw [belowB_long (by omega)]
    have hz : ¬ (n : Int) ≤ (m : Int) := by omega
    go_enter Try.func20, Try.ntmps20
    go_wp2
    go_ret
    exact ⟨rfl, 0, rfl⟩
end Go.Proofs.Ytblkfiaeifckjaa
