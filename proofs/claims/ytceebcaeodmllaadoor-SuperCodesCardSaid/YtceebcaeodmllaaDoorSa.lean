/-
  The contract of Right, some of its ways.
  Conditions: each theorem's own.
-/
import Derived.Test.YtceebcaeodmllaaDoorSr
namespace Go.Proofs.YtceebcaeodmllaaDoor.S
open Go.RowKit

set_option maxRecDepth 100000 in
set_option maxHeartbeats 4000000 in
theorem right_yes (s : Sup) (w : World) (h1 : (1 ≤ s.gen ∧ s.gen ≤ 4611686018427387904)) (h2 : (3 ≤ s.mem ∧ s.mem ≤ 16)) (h3 : (0 ≤ s.disk ∧ s.disk ≤ s.mem)) (h4 : (1 ≤ s.str ∧ s.str ≤ 1024)) (h5 : (1 ≤ s.logs ∧ s.logs ≤ 8)) (h6 : (-1 ≤ s.spare ∧ s.spare ≤ s.mem - 1)) (h7 : (0 ≤ s.mark ∧ s.mark ≤ s.most)) (h8 : (0 ≤ s.cur ∧ s.cur ≤ s.str - 1)) :
    Calls Tryd.prog 14 #[s.val] w fun e w' => e = .returned (.bool true) ∧ Below w.heap.size w w' := by
  have hm := Lib.hid (fun w => mostMark_any s w)
  have Q := Lib.hid within_yes
  have w1 : IntKind.i64.wrap (s.mem - 1) = s.mem - 1 := by rw [IntKind.wrap_i64]; omega
  have w2 : IntKind.i64.wrap (s.str - 1) = s.str - 1 := by rw [IntKind.wrap_i64]; omega
  have hblk := heap_alloc_last w (.cells s.cells 23)
  obtain ⟨c0, c1, c2, c3, c4, c5, c6, c7⟩ := row8 hblk
  clear hblk
  obtain ⟨x0, x1, x2, x3, x4, x5, x6, x7⟩ := s
  simp only [Sup.val, Sup.cells] at *
  go_enter Tryd.func14, Tryd.ntmps14
  have hbW : Below w.heap.size w (w.alloc (.cells #[.int .i64 x0, .int .i64 x1, .int .i64 x2, .int .i64 x3, .int .i64 x4, .int .i64 x5, .int .i64 x6, .int .i64 x7] 23)) := (Below.refl _ _).alloc (Nat.le_refl _) _
  have hgW : w.heap.size < (w.alloc (.cells #[.int .i64 x0, .int .i64 x1, .int .i64 x2, .int .i64 x3, .int .i64 x4, .int .i64 x5, .int .i64 x6, .int .i64 x7] 23)).heap.size := by simp
  generalize Sup.most ⟨x0, x1, x2, x3, x4, x5, x6, x7⟩ = mm at *
  go_wp2_with fail
  generalize w.alloc (.cells #[.int .i64 x0, .int .i64 x1, .int .i64 x2, .int .i64 x3, .int .i64 x4, .int .i64 x5, .int .i64 x6, .int .i64 x7] 23) = W at *
  generalize hgs : w.heap.size = g at *
  have Hgs := Lib.hid hgs
  clear hgs
  have HM := Lib.hid (fun (W' : World) (h : W'.cell? ⟨g, 0, none⟩ = some (.int .i64 x0) ∧ W'.cell? ⟨g, 1, none⟩ = some (.int .i64 x1) ∧ W'.cell? ⟨g, 2, none⟩ = some (.int .i64 x2) ∧ W'.cell? ⟨g, 3, none⟩ = some (.int .i64 x3) ∧ W'.cell? ⟨g, 4, none⟩ = some (.int .i64 x4) ∧ W'.cell? ⟨g, 5, none⟩ = some (.int .i64 x5) ∧ W'.cell? ⟨g, 6, none⟩ = some (.int .i64 x6) ∧ W'.cell? ⟨g, 7, none⟩ = some (.int .i64 x7) ∧ g < W'.heap.size ∧ Below g w W') => (show Calls Tryd.prog 26 #[.agg #[.int .i64 x0, .int .i64 x1, .int .i64 x2, .int .i64 x3, .int .i64 x4, .int .i64 x5, .int .i64 x6, .int .i64 x7]] W' fun e W'' => e = .returned (.int .i64 mm) ∧ W''.cell? ⟨g, 0, none⟩ = some (.int .i64 x0) ∧ W''.cell? ⟨g, 1, none⟩ = some (.int .i64 x1) ∧ W''.cell? ⟨g, 2, none⟩ = some (.int .i64 x2) ∧ W''.cell? ⟨g, 3, none⟩ = some (.int .i64 x3) ∧ W''.cell? ⟨g, 4, none⟩ = some (.int .i64 x4) ∧ W''.cell? ⟨g, 5, none⟩ = some (.int .i64 x5) ∧ W''.cell? ⟨g, 6, none⟩ = some (.int .i64 x6) ∧ W''.cell? ⟨g, 7, none⟩ = some (.int .i64 x7) ∧ g < W''.heap.size ∧ Below g w W'' by
    refine (hm.out W').mono fun e W'' ⟨he, hb⟩ => ⟨he, ?_⟩
    obtain ⟨k0, k1, k2, k3, k4, k5, k6, k7, kg, kb⟩ := h
    have hk : ∀ i, W''.cell? ⟨g, i, none⟩ = W'.cell? ⟨g, i, none⟩ := fun i => hb.cell (p := ⟨g, i, none⟩) kg
    exact ⟨(hk _).trans k0, (hk _).trans k1, (hk _).trans k2, (hk _).trans k3, (hk _).trans k4, (hk _).trans k5, (hk _).trans k6, (hk _).trans k7, Nat.lt_of_lt_of_le kg hb.size, kb.trans (hb.mono (Nat.le_of_lt kg))⟩))
  clear hm
  have hbD := hbW.drew
  go_region_held3 (fun W' => W'.cell? ⟨g, 0, none⟩ = some (.int .i64 x0) ∧ W'.cell? ⟨g, 1, none⟩ = some (.int .i64 x1) ∧ W'.cell? ⟨g, 2, none⟩ = some (.int .i64 x2) ∧ W'.cell? ⟨g, 3, none⟩ = some (.int .i64 x3) ∧ W'.cell? ⟨g, 4, none⟩ = some (.int .i64 x4) ∧ W'.cell? ⟨g, 5, none⟩ = some (.int .i64 x5) ∧ W'.cell? ⟨g, 6, none⟩ = some (.int .i64 x6) ∧ W'.cell? ⟨g, 7, none⟩ = some (.int .i64 x7) ∧ g < W'.heap.size ∧ Below g w W') (go_keep)
    (first
      | (go_at_call 25; refine (Q.out _ _ _ (by assumption) _).mono ?_; rintro e w' ⟨rfl, rfl⟩)
      | (go_at_call 26; refine (HM.out _ (by simp [*])).mono ?_; rintro e W2 ⟨rfl, k0, k1, k2, k3, k4, k5, k6, k7, kg, kb⟩))
  all_goals
    go_wp2
    go_ret
    exact ⟨rfl, by rw [Hgs.out]; assumption⟩
end Go.Proofs.YtceebcaeodmllaaDoor.S
