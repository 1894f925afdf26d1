/-
  A byte that turns, and a crash: plain facts on a disk of which nothing waits; lists of kept writes that came in.
  Conditions: each theorem's own.
-/
import Derived.Test.YtjdjpafnakhpcaaDoorUt
namespace Go.Proofs.YtjdjpafnakhpcaaDoor.U
open Go.ChangeShapes Go.WideShapes Go.ChangeAt Go.RowKit Go.Maps

section
variable {S : Sh.Sf} {d : Nat}
theorem turn_calm (h : Calm S d) (hw : (S.disks.getD d default).waits = []) (n i x : Nat) (hn : n < S.sectors) :
    Over S d (fun m => m = n) (S.doCorrupt d n i x) ∧ V (S.doCorrupt d n i x) d n = Sh.turnB (V S d n) i x ∧ ((S.doCorrupt d n i x).disks.getD d default).waits = [] := by
  have hg : ∀ e, (S.doCorrupt d n i x).disks.getD e default = if e = d then (S.disks.getD d default).turn n i x else S.disks.getD e default := fun e => Sh.getD_set _ _ _ _ h.lt
  have hgd : (S.doCorrupt d n i x).disks.getD d default = (S.disks.getD d default).turn n i x := by rw [hg, if_pos rfl]
  have hlen := h.len
  refine ⟨⟨⟨by show d < (S.disks.set d _).length; rw [List.length_set]; exact h.lt, h.on, h.left, by rw [hgd]; exact h.alive, ?_⟩, rfl, by show (S.disks.set d _).length = _; rw [List.length_set], fun m hm hne => ?_, fun e he => by rw [hg, if_neg he]⟩, ?_, by rw [hgd]; exact hw⟩
  · rw [hgd]
    show ((S.disks.getD d default).sure.set n _).length = S.sectors
    rw [List.length_set]; exact hlen
  · unfold V
    rw [hgd]
    show Sh.latest (S.disks.getD d default).waits m (((S.disks.getD d default).sure.set n _).getD m []) = Sh.latest (S.disks.getD d default).waits m ((S.disks.getD d default).sure.getD m [])
    congr 1
    simp [List.getD, List.getElem?_set_ne (Ne.symm hne)]
  · unfold V
    rw [hgd]
    show Sh.latest (S.disks.getD d default).waits n (((S.disks.getD d default).sure.set n _).getD n []) = Sh.turnB (Sh.latest (S.disks.getD d default).waits n ((S.disks.getD d default).sure.getD n [])) i x
    rw [hw]
    show ((S.disks.getD d default).sure.set n _).getD n [] = Sh.turnB ((S.disks.getD d default).sure.getD n []) i x
    have hn' : n < (S.disks.getD d default).sure.length := by rw [hlen]; exact hn
    generalize (S.disks.getD d default).sure = u at *
    simp [List.getD, hn']
theorem crash_calm (ks : List (List Int)) (hd : d < S.disks.length) (ha : (S.disks.getD d default).dead = false) (hl : (S.disks.getD d default).sure.length = S.sectors) : Calm (S.crash ks) d := by
  have hg := Sh.crash_getD S ks hd
  refine ⟨by rw [Sh.crash_length]; exact hd, rfl, rfl, by rw [hg]; exact ha, ?_⟩
  rw [hg]
  exact (Sh.stl_length _ _ _ _).trans hl
theorem crash_V (ks : List (List Int)) (hd : d < S.disks.length) (hw : (S.disks.getD d default).waits = []) (n : Nat) : V (S.crash ks) d n = V S d n := by
  unfold V
  rw [Sh.crash_getD S ks hd]
  show (Sh.stl _ (S.disks.getD d default).waits 0 (S.disks.getD d default).sure).getD n [] = Sh.latest (S.disks.getD d default).waits n ((S.disks.getD d default).sure.getD n [])
  rw [hw]
  rfl
theorem crash_sectors (ks : List (List Int)) : (S.crash ks).sectors = S.sectors := rfl
end
theorem good_same {S S' : Sh.Sf} {d k : Nat} (h1 : V S' d (sumOf k) = V S d (sumOf k)) (h2 : V S' d (dataOf k) = V S d (dataOf k)) : goodAt S' d k = goodAt S d k := by
  unfold goodAt
  rw [h1, h2]
/-! ### kept writes that came in -/
abbrev KeepIs := @Sh.KeepIs
abbrev Old := @Sh.Old
section
variable {H : Type} {enc : TypeId × Value → H} {W : World}
theorem keep_in {fuel n c : Nat} {A : Option Addr} {x : DataW H × List MemPlace} (h : DataW.trod enc Tryd.prog W 0 (fun _ => true) true fuel 33 [.slice A n c] = some x) :
    ∃ ks : List (List Int), n ≤ 9223372036854775807 ∧ KeepIs W (Old W) A n ks := Sh.keep_in h
end
end Go.Proofs.YtjdjpafnakhpcaaDoor.U
