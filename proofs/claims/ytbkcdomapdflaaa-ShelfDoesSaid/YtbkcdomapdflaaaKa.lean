/-
  What it says that the definition's shelf lies in memory and is the shelf S, and what keeps that true.
  Conditions: none beyond each lemma's own.
-/
import Derived.Test.YtbkcdomapdflaaaJb
namespace Go.Proofs.Ytbkcdomapdflaaa.Sh
open Go.RowKit Go.Maps

/-! ### sectors by number -/
def seek : List (Nat × Bs) → Nat → Bs
  | [], _ => noughts
  | x :: t, n => if x.1 = n then x.2 else seek t n
def putL : List (Nat × Bs) → Nat → Bs → List (Nat × Bs)
  | [], n, b => [(n, b)]
  | x :: t, n, b => if x.1 = n then (n, b) :: t else x :: putL t n b
theorem seek_put (n : Nat) (b : Bs) (m : Nat) : ∀ L, seek (putL L n b) m = if m = n then b else seek L m
  | [] => by
    simp only [putL, seek]
    by_cases h : n = m
    · rw [if_pos h, if_pos h.symm]
    · rw [if_neg h, if_neg (Ne.symm h)]
  | x :: t => by
    unfold putL
    by_cases hx : x.1 = n
    · rw [if_pos hx]
      simp only [seek]
      by_cases h : n = m
      · rw [if_pos h, if_pos h.symm]
      · rw [if_neg h, if_neg (Ne.symm h), if_neg (by omega)]
    · rw [if_neg hx]
      simp only [seek]
      rw [seek_put n b m t]
      by_cases h : x.1 = m
      · rw [if_pos h, if_pos h, if_neg (by omega)]
      · rw [if_neg h, if_neg h]
theorem put_keys (n : Nat) (b : Bs) : ∀ L, (putL L n b).map (·.1) = if n ∈ L.map (·.1) then L.map (·.1) else L.map (·.1) ++ [n]
  | [] => by simp [putL]
  | x :: t => by
    unfold putL
    by_cases hx : x.1 = n
    · rw [if_pos hx]; simp [hx]
    · rw [if_neg hx]
      have ih := put_keys n b t
      simp only [List.map_cons, ih, List.mem_cons]
      by_cases ht : n ∈ t.map (·.1)
      · rw [if_pos ht, if_pos (.inr ht)]
      · rw [if_neg ht, if_neg (by rintro (e | e); exact hx e.symm; exact ht e)]; rfl
theorem nodup_len : ∀ (m : Nat) (l : List Nat), l.Nodup → (∀ x ∈ l, x < m) → l.length ≤ m
  | 0, l, _, h => by
    cases l with
    | nil => exact Nat.le_refl _
    | cons x t => exact absurd (h x (List.mem_cons_self ..)) (by omega)
  | m + 1, l, hn, h => by
    have h1 : (l.erase m).length ≤ m := by
      refine nodup_len m _ (hn.erase m) (fun x hx => ?_)
      have hx1 := (hn.mem_erase_iff.1 hx)
      have := h x hx1.2
      have := hx1.1
      omega
    have h2 : l.length ≤ (l.erase m).length + 1 := by
      rw [List.length_erase]
      split <;> omega
    omega
/-- Where a sector stands in the list. -/
theorem seek_at : ∀ (L : List (Nat × Bs)) (n : Nat), n ∈ L.map (·.1) → ∃ i b, L[i]? = some (n, b) ∧ (∀ j x, j < i → L[j]? = some x → x.1 ≠ n) ∧ seek L n = b ∧ ∀ c, putL L n c = L.set i (n, c)
  | [], n, h => by simp at h
  | x :: t, n, h => by
    by_cases hx : x.1 = n
    · refine ⟨0, x.2, ?_, fun j y hj => by omega, ?_, fun c => ?_⟩
      · rw [← hx]; rfl
      · simp [seek, hx]
      · simp [putL, hx]
    · have ht : n ∈ t.map (·.1) := by
        simp only [List.map_cons, List.mem_cons] at h
        exact h.resolve_left (fun e => hx e.symm)
      obtain ⟨i, b, h1, h2, h3, h4⟩ := seek_at t n ht
      refine ⟨i + 1, b, h1, fun j y hj hy => ?_, ?_, fun c => ?_⟩
      · cases j with
        | zero => simp at hy; subst hy; exact hx
        | succ j => exact h2 j y (by omega) (by simpa using hy)
      · simp only [seek, if_neg hx]; exact h3
      · simp only [putL, if_neg hx, h4, List.set_cons_succ]
theorem seek_out : ∀ (L : List (Nat × Bs)) (n : Nat), n ∉ L.map (·.1) → (∀ (j : Nat) x, L[j]? = some x → x.1 ≠ n) ∧ seek L n = noughts ∧ ∀ c, putL L n c = L ++ [(n, c)]
  | [], n, _ => ⟨fun j x h => by simp at h, rfl, fun _ => rfl⟩
  | x :: t, n, h => by
    simp only [List.map_cons, List.mem_cons, not_or] at h
    obtain ⟨h1, h2, h3⟩ := seek_out t n h.2
    have hx : ¬ x.1 = n := fun e => h.1 e.symm
    refine ⟨fun j y hy => ?_, by simp only [seek, if_neg hx]; exact h2, fun c => by simp only [putL, if_neg hx, h3]; rfl⟩
    cases j with
    | zero => simp at hy; subst hy; exact hx
    | succ j => exact h1 j y (by simpa using hy)

/-! ### a disk -/
structure Gr where
  a : Value
  s : Value
  v : Value
instance : Inhabited Gr := ⟨⟨.slice none 0 0, .slice none 0 0, .slice none 0 0⟩⟩
def Gr.has (g : Gr) (b : Nat) : Prop := g.a.ownBlock = some b ∨ g.s.ownBlock = some b ∨ g.v.ownBlock = some b
def diskR (g : Gr) (dead : Bool) : Nat → Value
  | 0 => g.a
  | 1 => g.s
  | 2 => g.v
  | _ => .bool dead
def ats (L : List (Nat × Bs)) : List Value := L.map fun x => .int .i64 (x.1 : Int)
def bys (L : List (Nat × Bs)) : List Value := L.map fun x => sv x.2
structure RDk (w : World) (sectors : Nat) (g : Gr) (L : List (Nat × Bs)) (k : Dk) : Prop where
  at_ : w.ownsRow 0 3 1 g.a L.length (ats L)
  by_ : w.ownsRow 0 9 1 g.s L.length (bys L)
  waits : w.ownsRow 0 92 2 g.v k.waits.length (flat k.waits)
  len : k.sure.length = sectors
  says : ∀ n, n < sectors → seek L n = k.sure.getD n []
  keys : (L.map (·.1)).Nodup
  low : ∀ x ∈ L.map (·.1), x < sectors
  fits : ∀ x ∈ k.waits, x.1 < sectors ∧ Sec x.2
  secs : ∀ b ∈ k.sure, Sec b
theorem RDk.most {w : World} {sectors : Nat} {g : Gr} {L : List (Nat × Bs)} {k : Dk} (h : RDk w sectors g L k) : L.length ≤ sectors := by
  have := nodup_len sectors _ h.keys h.low
  simpa using this
theorem RDk.same {w w' : World} {sectors : Nat} {g : Gr} {L : List (Nat × Bs)} {k : Dk} (h : RDk w sectors g L k) (hk : ∀ b, g.has b → w'.heap[b]? = w.heap[b]?) : RDk w' sectors g L k :=
  ⟨same_row h.at_ fun b hb => hk b (.inl hb), same_row h.by_ fun b hb => hk b (.inr (.inl hb)), same_row h.waits fun b hb => hk b (.inr (.inr hb)), h.len, h.says, h.keys, h.low, h.fits, h.secs⟩
theorem RDk.lt {w : World} {sectors : Nat} {g : Gr} {L : List (Nat × Bs)} {k : Dk} (h : RDk w sectors g L k) {b : Nat} (hb : g.has b) : b < w.heap.size := by
  rcases hb with hb | hb | hb
  · exact (h.at_.lt b hb).2
  · exact (h.by_.lt b hb).2
  · exact (h.waits.lt b hb).2
theorem RDk.kinds {w : World} {sectors : Nat} {g : Gr} {L : List (Nat × Bs)} {k : Dk} (h : RDk w sectors g L k) {b : Nat} (hb : g.has b) {c : Array Value} {t : TypeId} {f : Nat × Nat} (ht : w.heap[b]? = some (.cells c t f)) : t = 3 ∨ t = 9 ∨ t = 92 := by
  rcases hb with hb | hb | hb
  · obtain ⟨cur, hc⟩ := row_type h.at_ hb
    exact .inl (type_ne ht hc)
  · obtain ⟨cur, hc⟩ := row_type h.by_ hb
    exact .inr (.inl (type_ne ht hc))
  · obtain ⟨cur, hc⟩ := row_type h.waits hb
    exact .inr (.inr (type_ne ht hc))

/-! ### the definition's shelf -/
/-- How its power stands for the shelf's. -/
structure Pow (S : Sf) (st : Bool) (l : Int) : Prop where
  st_ : st = (S.off || decide (0 < S.left))
  l_ : st = true → l = S.left
  off : S.off = true → S.left = 0
  left : S.left ≤ 9223372036854775807
  b0 : -9223372036854775808 ≤ l
  b1 : l ≤ 9223372036854775807
structure RefIs (w : World) (q : Nat) (S : Sf) (F : Nat → Prop) (D : Nat) (gs : Nat → Gr) (Ls : Nat → List (Nat × Bs)) (st : Bool) (l : Int) : Prop where
  some_ : 1 ≤ S.disks.length
  most : S.disks.length ≤ 17
  sec1 : 1 ≤ S.sectors
  secM : S.sectors ≤ 4096
  pow : Pow S st l
  root : w.heap[q]? = some (.cells #[.slice (some ⟨D, 0, none⟩) S.disks.length S.disks.length, .int .i64 (S.sectors : Int), .int .i64 S.count, .bool st, .int .i64 l] 57 (0, 0))
  row : w.ownsRow 0 79 4 (.slice (some ⟨D, 0, none⟩) S.disks.length S.disks.length) S.disks.length (rowOf (fun i c => diskR (gs i) ((S.disks.getD i default).dead) c) S.disks.length 4)
  disk : ∀ i, i < S.disks.length → RDk w S.sectors (gs i) (Ls i) (S.disks.getD i default)
  apart : ∀ i j b, i < S.disks.length → j < S.disks.length → i ≠ j → (gs i).has b → ¬ (gs j).has b
  inF : F q ∧ F D ∧ ∀ i b, i < S.disks.length → (gs i).has b → F b
  ltF : ∀ b, F b → b < w.heap.size
section
variable {w : World} {q D : Nat} {S : Sf} {F : Nat → Prop} {gs : Nat → Gr} {Ls : Nat → List (Nat × Bs)} {st : Bool} {l : Int} (h : RefIs w q S F D gs Ls st l)
include h
theorem RefIs.c0 : w.cell? ⟨q, 0, none⟩ = some (.slice (some ⟨D, 0, none⟩) S.disks.length S.disks.length) := cell_of_row _ _ 0 _ _ _ h.root
theorem RefIs.c1 : w.cell? ⟨q, 1, none⟩ = some (.int .i64 (S.sectors : Int)) := cell_of_row _ _ 1 _ _ _ h.root
theorem RefIs.c2 : w.cell? ⟨q, 2, none⟩ = some (.int .i64 S.count) := cell_of_row _ _ 2 _ _ _ h.root
theorem RefIs.c3 : w.cell? ⟨q, 3, none⟩ = some (.bool st) := cell_of_row _ _ 3 _ _ _ h.root
theorem RefIs.c4 : w.cell? ⟨q, 4, none⟩ = some (.int .i64 l) := cell_of_row _ _ 4 _ _ _ h.root
theorem RefIs.free (i : Nat) : w.frozen? ⟨q, i, none⟩ = false := frozen_of_row _ _ _ _ _ h.root
theorem RefIs.dc {d c : Nat} (hd : d < S.disks.length) (hc : c < 4) : w.cell? ⟨D, d * 4 + c, none⟩ = some (diskR (gs d) (S.disks.getD d default).dead c) := cell_at h.row (rowOf_at _ hd hc)
theorem RefIs.dfree (i : Nat) : w.frozen? ⟨D, i, none⟩ = false := h.row.frozenAt i
theorem RefIs.rowBlock : ∃ cur, w.heap[D]? = some (.cells cur 79 (0, 0)) := row_type h.row rfl
theorem RefIs.qD : q ≠ D := by
  rintro rfl
  obtain ⟨cur, hc⟩ := h.rowBlock
  exact absurd (type_ne h.root hc) (by decide)
theorem RefIs.nD {i : Nat} (hi : i < S.disks.length) : ¬ (gs i).has D := by
  intro e
  obtain ⟨cur, hc⟩ := h.rowBlock
  rcases (h.disk i hi).kinds e hc with e | e | e <;> exact absurd e (by decide)
theorem RefIs.nq {i : Nat} (hi : i < S.disks.length) : ¬ (gs i).has q := by
  intro e
  rcases (h.disk i hi).kinds e h.root with e | e | e <;> exact absurd e (by decide)
theorem RefIs.qlt : q < w.heap.size := h.ltF q h.inF.1
theorem RefIs.Dlt : D < w.heap.size := h.ltF D h.inF.2.1
end
def Ref (w : World) (q : Nat) (S : Sf) (F : Nat → Prop) : Prop := ∃ D gs Ls st l, RefIs w q S F D gs Ls st l
def RLeft (F : Nat → Prop) (w : World) (q : Nat) (S : Sf) (w' : World) : Prop := ∃ F', Ref w' q S F' ∧ Moves F w F' w'
theorem rleft_here {w : World} {q : Nat} {S : Sf} {F : Nat → Prop} (h : Ref w q S F) : RLeft F w q S w := ⟨F, h, Moves.refl _ _⟩
def updR (gs : Nat → Gr) (i : Nat) (g : Gr) (j : Nat) : Gr := if j = i then g else gs j
def updL (Ls : Nat → List (Nat × Bs)) (i : Nat) (L : List (Nat × Bs)) (j : Nat) : List (Nat × Bs) := if j = i then L else Ls j
/-- One disk was turned. -/
theorem RefIs.turned {w w' : World} {q D : Nat} {S : Sf} {F : Nat → Prop} {gs : Nat → Gr} {Ls : Nat → List (Nat × Bs)} {st : Bool} {l : Int} (h : RefIs w q S F D gs Ls st l) {i : Nat} (hi : i < S.disks.length) (g' : Gr) (L' : List (Nat × Bs)) (k' : Dk) (off : Bool) (left : Nat) (count : Int) (st' : Bool) (l' : Int)
    (pow : Pow { disks := S.disks.set i k', sectors := S.sectors, count := count, off := off, left := left } st' l')
    (root : w'.heap[q]? = some (.cells #[.slice (some ⟨D, 0, none⟩) S.disks.length S.disks.length, .int .i64 (S.sectors : Int), .int .i64 count, .bool st', .int .i64 l'] 57 (0, 0)))
    (row : w'.ownsRow 0 79 4 (.slice (some ⟨D, 0, none⟩) S.disks.length S.disks.length) S.disks.length (rowOf (fun a c => if a = i then diskR g' k'.dead c else diskR (gs a) (S.disks.getD a default).dead c) S.disks.length 4))
    (disk : RDk w' S.sectors g' L' k')
    (keep : ∀ b, F b → b ≠ q → b ≠ D → ¬ (gs i).has b → w'.heap[b]? = w.heap[b]?)
    (size : w.heap.size ≤ w'.heap.size) (new : ∀ b, g'.has b → (gs i).has b ∨ w.heap.size ≤ b) :
    RefIs w' q { disks := S.disks.set i k', sectors := S.sectors, count := count, off := off, left := left } (fun b => F b ∨ g'.has b) D (updR gs i g') (updL Ls i L') st' l' where
  some_ := by simpa using h.some_
  most := by simpa using h.most
  sec1 := h.sec1
  secM := h.secM
  pow := pow
  root := by simpa using root
  row := by
    have e : rowOf (fun a c => diskR (updR gs i g' a) (((S.disks.set i k').getD a default).dead) c) S.disks.length 4 = rowOf (fun a c => if a = i then diskR g' k'.dead c else diskR (gs a) (S.disks.getD a default).dead c) S.disks.length 4 := by
      refine rowOf_congr (by decide) fun a c ha _ => ?_
      rw [getD_set _ _ _ _ hi]
      by_cases e : a = i
      · rw [if_pos e, if_pos e, updR, if_pos e]
      · rw [if_neg e, if_neg e, updR, if_neg e]
    simp only [List.length_set]
    rw [e]
    exact row
  disk := by
    intro j hj
    simp only [List.length_set] at hj
    show RDk w' S.sectors (updR gs i g' j) (updL Ls i L' j) ((S.disks.set i k').getD j default)
    rw [getD_set _ _ _ _ hi]
    by_cases e : j = i
    · rw [updR, updL, if_pos e, if_pos e, if_pos e]
      exact disk
    · rw [updR, updL, if_neg e, if_neg e, if_neg e]
      refine (h.disk j hj).same fun b hb => ?_
      have hF := h.inF.2.2 j b hj hb
      refine keep b hF ?_ ?_ (h.apart j i b hj hi e hb)
      · rintro rfl; exact h.nq hj hb
      · rintro rfl; exact h.nD hj hb
  apart := by
    intro a c b ha hc hne hab hcb
    simp only [List.length_set] at ha hc
    unfold updR at hab hcb
    by_cases ea : a = i
    · rw [if_pos ea] at hab
      rw [if_neg (by omega)] at hcb
      rcases new b hab with e | e
      · exact h.apart i c b hi hc (by omega) e hcb
      · have := h.ltF b (h.inF.2.2 c b hc hcb); omega
    · rw [if_neg ea] at hab
      by_cases ec : c = i
      · rw [if_pos ec] at hcb
        rcases new b hcb with e | e
        · exact h.apart a i b ha hi ea hab e
        · have := h.ltF b (h.inF.2.2 a b ha hab); omega
      · rw [if_neg ec] at hcb
        exact h.apart a c b ha hc hne hab hcb
  inF := by
    refine ⟨.inl h.inF.1, .inl h.inF.2.1, fun a b ha hb => ?_⟩
    simp only [List.length_set] at ha
    unfold updR at hb
    by_cases ea : a = i
    · rw [if_pos ea] at hb; exact .inr hb
    · rw [if_neg ea] at hb; exact .inl (h.inF.2.2 a b ha hb)
  ltF := by
    rintro b (hb | hb)
    · have := h.ltF b hb; omega
    · exact disk.lt hb
/-- Only the root was turned: the power, the count. -/
theorem RefIs.rooted {w w' : World} {q D : Nat} {S : Sf} {F : Nat → Prop} {gs : Nat → Gr} {Ls : Nat → List (Nat × Bs)} {st : Bool} {l : Int} (h : RefIs w q S F D gs Ls st l) (off : Bool) (left : Nat) (count : Int) (st' : Bool) (l' : Int) (pow : Pow { S with count := count, off := off, left := left } st' l')
    (root : w'.heap[q]? = some (.cells #[.slice (some ⟨D, 0, none⟩) S.disks.length S.disks.length, .int .i64 (S.sectors : Int), .int .i64 count, .bool st', .int .i64 l'] 57 (0, 0)))
    (keep : ∀ b, F b → b ≠ q → w'.heap[b]? = w.heap[b]?) (size : w.heap.size ≤ w'.heap.size) :
    RefIs w' q { S with count := count, off := off, left := left } F D gs Ls st' l' where
  some_ := h.some_
  most := h.most
  sec1 := h.sec1
  secM := h.secM
  pow := pow
  root := root
  row := same_row h.row fun b hb => by injection hb with hb; subst hb; exact keep _ h.inF.2.1 (Ne.symm h.qD)
  disk := fun i hi => (h.disk i hi).same fun b hb => keep b (h.inF.2.2 i b hi hb) (by rintro rfl; exact h.nq hi hb)
  apart := h.apart
  inF := h.inF
  ltF := fun b hb => Nat.lt_of_lt_of_le (h.ltF b hb) size
theorem RefIs.only {w w' : World} {q D : Nat} {S : Sf} {F G : Nat → Prop} {gs : Nat → Gr} {Ls : Nat → List (Nat × Bs)} {st : Bool} {l : Int} (h : RefIs w q S F D gs Ls st l) (ho : Only G w w') (hG : ∀ b, F b → ¬ G b) : RefIs w' q S F D gs Ls st l where
  some_ := h.some_
  most := h.most
  sec1 := h.sec1
  secM := h.secM
  pow := h.pow
  root := (ho.block q h.qlt (hG q h.inF.1)).trans h.root
  row := same_row h.row fun b hb => by injection hb with hb; subst hb; exact ho.block _ h.Dlt (hG _ h.inF.2.1)
  disk := fun i hi => (h.disk i hi).same fun b hb => ho.block b ((h.disk i hi).lt hb) (hG b (h.inF.2.2 i b hi hb))
  apart := h.apart
  inF := h.inF
  ltF := fun b hb => Nat.lt_of_lt_of_le (h.ltF b hb) ho.size
end Go.Proofs.Ytbkcdomapdflaaa.Sh
