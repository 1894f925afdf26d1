/-
  The contracts of slices.Clone at texts and at writes, and of maps.Clone.
  Conditions: each theorem's own.
-/
import Derived.Test.YtbkcdomapdflaaaIm
import Derived.Shelf.SlicesE.Clone
import Derived.Shelf.SlMaps.Clone
namespace Go.Proofs.Ytbkcdomapdflaaa.Sh
open Go.RowKit Go.Maps Go.Shelf

def cloneRenS : Go.Shelf.Ren := ⟨fun | 41 => 43 | n => n, fun | 4 => 4 | 22 => 49 | 23 => 9 | n => n, fun | n => n⟩
theorem cloneLaysS : Go.Proofs.SlLaysE0.n41 Try.prog cloneRenS := {
  mixed := by kernel_rfl
  f41 := ⟨(Try.f43).name, by kernel_rfl, Try.func43.trans (congrArg some (by kernel_rfl))⟩
  t4 := Try.underlying4
  a4 := Try.isAgg4
  z4 := Try.sizeOf4
  v4 := Try.zeroValue4
  t22 := Try.underlying49
  a22 := Try.isAgg49
  z22 := Try.sizeOf49
  v22 := Try.zeroValue49 }
def cloneRenW : Go.Shelf.Ren := ⟨fun | 41 => 44 | n => n, fun | 4 => 4 | 22 => 52 | 23 => 87 | n => n, fun | n => n⟩
theorem cloneLaysW : Go.Proofs.SlLaysE0.n41 Try.prog cloneRenW := {
  mixed := by kernel_rfl
  f41 := ⟨(Try.f44).name, by kernel_rfl, Try.func44.trans (congrArg some (by kernel_rfl))⟩
  t4 := Try.underlying4
  a4 := Try.isAgg4
  z4 := Try.sizeOf4
  v4 := Try.zeroValue4
  t22 := Try.underlying52
  a22 := Try.isAgg52
  z22 := Try.sizeOf52
  v22 := Try.zeroValue52 }
def cloneRenM : Go.Shelf.Ren := ⟨fun | 5 => 45 | 7 => 55 | n => n, fun | 3 => 3 | 4 => 4 | 20 => 20 | 23 => 51 | 25 => 3 | n => n, fun | n => n⟩
theorem cloneLaysM : Go.Proofs.SlLaysW.n5 Try.prog cloneRenM := {
  mixed := by kernel_rfl
  f5 := ⟨(Try.f45).name, by kernel_rfl, Try.func45.trans (congrArg some (by kernel_rfl))⟩
  f7 := Try.func55.trans (congrArg some (by kernel_rfl))
  t4 := Try.underlying4
  a4 := Try.isAgg4
  z4 := Try.sizeOf4
  v4 := Try.zeroValue4
  t20 := Try.underlying20
  a20 := Try.isAgg20
  z20 := Try.sizeOf20
  v20 := Try.zeroValue20
  t23 := Try.underlying51
  a23 := Try.isAgg51
  z23 := Try.sizeOf51
  v23 := Try.zeroValue51 }

theorem own_cases {w : World} {base : Nat} {e : TypeId} {size : Nat} {v : Value} {n : Nat} {xs : List Value} (h : w.ownsRow base e size v n xs) : (v = .slice none 0 0 ∧ n = 0 ∧ xs = []) ∨ ∃ g cap, v = .slice (some ⟨g, 0, none⟩) n cap ∧ n ≤ maxLen ∧ ∀ j u, xs[j]? = some u → w.cell? ⟨g, 0 + j, none⟩ = some u := by
  rcases h.2 with ⟨rfl, rfl⟩ | ⟨g, cap, cur, rfl, _, _, h1, h2, _⟩
  · refine .inl ⟨rfl, rfl, List.eq_nil_of_length_eq_zero (by rw [h.1, Nat.zero_mul])⟩
  · refine .inr ⟨g, cap, rfl, Nat.le_trans h1 h2, fun j u hu => ?_⟩
    have := h.cells (g := g) rfl j u hu
    have e : (⟨g, 0, none⟩ : Addr).add j = ⟨g, 0 + j, none⟩ := by unfold Addr.add; split <;> simp_all
    rw [← e]; exact this
theorem clone_sure (w : World) {base n : Nat} {v : Value} {l : List Bs} (h : w.ownsRow base 9 1 v n (l.map sv)) (hn : n ≤ 4398046511104) :
    Calls Try.prog 43 #[v] w fun e w' => ∃ v', e = .returned v' ∧ w'.ownsRow w.heap.size 9 1 v' n (l.map sv) ∧ Below w.heap.size w w' := by
  rcases own_cases h with ⟨rfl, rfl, e⟩ | ⟨g, cap, rfl, hm, hc⟩
  · refine (AnyE.slices_Clone_nil cloneLaysS 0 0 w).mono ?_
    rintro e' w' ⟨rfl, rfl⟩
    exact ⟨_, rfl, by rw [e]; exact World.ownsRow_nil _ _ _ _, Below.refl _ _⟩
  · obtain ⟨i0, hi, hz0, hz1, hz2⟩ := info_parts info_string
    refine (AnyE.slices_Clone cloneLaysS i0 _ 1 16 hi hz0 hz1 hz2 rfl (by decide) (fun w => Try.sizeOf9 w) g 0 n cap (l.map sv) w h.1 hm (by omega) hc (fun u hu => ?_)).mono ?_
    · obtain ⟨b, _, rfl⟩ := List.mem_map.1 hu
      rfl
    · rintro e' w' ⟨v', rfl, h1, _, h2⟩
      exact ⟨v', rfl, h1, h2⟩
theorem clone_waits (w : World) {base n : Nat} {v : Value} {l : List (Nat × Bs)} (h : w.ownsRow base 87 2 v n (flat l)) (hn : n ≤ 4398046511104) :
    Calls Try.prog 44 #[v] w fun e w' => ∃ v', e = .returned v' ∧ w'.ownsRow w.heap.size 87 2 v' n (flat l) ∧ Below w.heap.size w w' := by
  rcases own_cases h with ⟨rfl, rfl, e⟩ | ⟨g, cap, rfl, hm, hc⟩
  · refine (AnyE.slices_Clone_nil cloneLaysW 0 0 w).mono ?_
    rintro e' w' ⟨rfl, rfl⟩
    exact ⟨_, rfl, by rw [e]; exact World.ownsRow_nil _ _ _ _, Below.refl _ _⟩
  · obtain ⟨i0, hi, hz0, hz1, hz2⟩ := info_parts info_write
    refine (AnyE.slices_Clone cloneLaysW i0 _ 2 24 hi hz0 hz1 hz2 rfl (by decide) (fun w => Try.sizeOf87 w) g 0 n cap (flat l) w h.1 hm (by omega) hc (fun u hu => ?_)).mono ?_
    · obtain ⟨x, _, hx⟩ := List.mem_flatMap.1 hu
      simp only [List.mem_cons, List.not_mem_nil, or_false] at hx
      rcases hx with rfl | rfl <;> rfl
    · rintro e' w' ⟨v', rfl, h1, _, h2⟩
      exact ⟨v', rfl, h1, h2⟩
theorem clone_map (w : World) {m n : Nat} {f : Int → Option Nat} (h : MapIs w m n f) :
    Calls Try.prog 45 #[.map (some m)] w fun e w' => e = .returned (.map (some w.heap.size)) ∧ MapIs w' w.heap.size n f ∧ Below w.heap.size w w' := by
  obtain ⟨D, h, hf⟩ := h
  refine (AnyW.maps_Clone_owns cloneLaysM 3 (plainElem Try.prog 3) m n D w h).mono ?_
  rintro e w' ⟨rfl, h1, _, h2⟩
  exact ⟨rfl, ⟨D, h1, hf⟩, h2⟩
end Go.Proofs.Ytbkcdomapdflaaa.Sh
