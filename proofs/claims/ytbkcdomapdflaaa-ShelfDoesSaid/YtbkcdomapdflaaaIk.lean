/-
  ShelfKeeps, the plain half: which bytes a sector may hold.
  Conditions: each lemma's own.
-/
import Derived.Test.YtbkcdomapdflaaaIj
namespace Go.Proofs.Ytbkcdomapdflaaa.Sh
open Go.RowKit Go.Maps

def From (v : Bs) (y : Nat) : Prop := v = secOf y ∨ (y = 0 ∧ v = noughts)
def of (m : Nat) (l : List (Nat × Bs)) : List Bs := (l.filter fun x => x.1 == m).map fun x => x.2
theorem latest_of (m : Nat) : ∀ (l : List (Nat × Bs)) (d : Bs), latest l m d = (of m l).getLast?.getD d
  | [], d => rfl
  | x :: t, d => by
    unfold latest of
    rw [latest_of m t]
    by_cases h : x.1 = m
    · rw [if_pos h, List.filter_cons_of_pos (by simpa using h), List.map_cons]
      show (of m t).getLast?.getD x.2 = (x.2 :: of m t).getLast?.getD d
      rcases snoc_cases (of m t) with e | ⟨s, z, e⟩
      · rw [e]; rfl
      · rw [e]
        have e2 : x.2 :: (s ++ [z]) = (x.2 :: s) ++ [z] := rfl
        rw [e2, List.getLast?_concat, List.getLast?_concat]
        rfl
    · rw [if_neg h, List.filter_cons_of_neg (by simpa using h)]
      rfl
structure Keeps (S : Sf) (n : Int) (l : Bs) (i : Nat) : Prop where
  len : S.disks.length = 2
  sec : S.sectors = 8
  small : ∀ k ∈ S.disks, k.waits.length ≤ i ∧ k.dead = false
  off : S.off = false
  left : S.left = 0
  room : l.length ≤ i + 1
  ne : 0 < l.length
  byte : ∀ y ∈ l, y < 256
  has : ∀ m : Nat, n = m → m < 8 → ∃ y0 ys v0, l = y0 :: ys ∧ (S.disks.getD 1 default).sure[m]? = some v0 ∧ From v0 y0 ∧ of m (S.disks.getD 1 default).waits = ys.map secOf
section
variable {S : Sf} {n : Int} {l : Bs} {i : Nat}
theorem Keeps.next (h : Keeps S n l i) : Keeps S n l (i + 1) := ⟨h.len, h.sec, fun k hk => ⟨by have := (h.small k hk).1; omega, (h.small k hk).2⟩, h.off, h.left, by have := h.room; omega, h.ne, h.byte, h.has⟩
theorem Keeps.one (h : Keeps S n l i) : S.disks.getD 1 default ∈ S.disks := getD_mem (by rw [h.len]; decide)
theorem Keeps.why (h : Keeps S n l i) : Sh.why S 1 = 0 := by
  unfold Sh.why
  rw [h.off, (h.small _ h.one).2]
  rfl
theorem Keeps.lt (h : Keeps S n l i) (hi : i ≤ 2000) : ∀ k ∈ S.disks, k.waits.length < 4398046511104 := fun k hk => by have := (h.small k hk).1; omega
theorem Keeps.offs (h : Keeps S n l i) : offAt S.left S.off = false := by unfold offAt; rw [if_pos h.left]; exact h.off
theorem Keeps.wrote (h : Keeps S n l i) {m : Nat} {b : Bs} {l' : Bs} (hr : l'.length ≤ i + 2) (h0 : 0 < l'.length) (hb : ∀ y ∈ l', y < 256)
    (hh : ∀ k : Nat, n = k → k < 8 → ∃ y0 ys v0, l' = y0 :: ys ∧ (S.disks.getD 1 default).sure[k]? = some v0 ∧ From v0 y0 ∧ of k ((S.disks.getD 1 default).waits ++ [(m, b)]) = ys.map secOf) : Keeps (S.doWrite 1 m b) n l' (i + 1) := by
  have h1 := h.small _ h.one
  have e : (S.doWrite 1 m b).disks.getD 1 default = (S.disks.getD 1 default).write m b := by
    show (S.disks.set 1 _).getD 1 default = _
    rw [getD_set _ _ _ _ (by rw [h.len]; decide), if_pos rfl]
  refine ⟨by show (S.disks.set 1 _).length = 2; simpa using h.len, h.sec, fun k hk => ?_, h.offs, by show S.left - 1 = 0; rw [h.left], hr, h0, hb, fun k hk hk8 => ?_⟩
  · rcases List.mem_or_eq_of_mem_set hk with hk | rfl
    · exact ⟨by have := (h.small k hk).1; omega, (h.small k hk).2⟩
    · exact ⟨by simp [Dk.write]; exact h1.1, h1.2⟩
  · rw [e]; exact hh k hk hk8
theorem of_snoc (m k : Nat) (b : Bs) (l : List (Nat × Bs)) : of k (l ++ [(m, b)]) = if m = k then of k l ++ [b] else of k l := by
  unfold of
  rw [List.filter_append, List.map_append]
  by_cases h : m = k
  · rw [if_pos h, List.filter_cons_of_pos (by simpa using h)]; rfl
  · rw [if_neg h, List.filter_cons_of_neg (by simpa using h)]; simp
theorem Keeps.here (h : Keeps S n l i) {m x : Nat} (hm : n = m) (hx : x < 256) : Keeps (S.doWrite 1 m (secOf x)) n (l ++ [x]) (i + 1) := by
  refine h.wrote (by have := h.room; simp; omega) (by simp) (fun y hy => ?_) (fun k hk hk8 => ?_)
  · rcases List.mem_append.1 hy with hy | hy
    · exact h.byte y hy
    · simp at hy; subst hy; exact hx
  · obtain ⟨y0, ys, v0, e1, e2, e3, e4⟩ := h.has k hk hk8
    have hmk : m = k := by omega
    refine ⟨y0, ys ++ [x], v0, by rw [e1]; rfl, e2, e3, ?_⟩
    rw [of_snoc, if_pos hmk, e4, List.map_append]
    rfl
theorem Keeps.there (h : Keeps S n l i) {m : Nat} {b : Bs} (hm : (m : Int) ≠ n) : Keeps (S.doWrite 1 m b) n l (i + 1) := by
  refine h.wrote (by have := h.room; omega) h.ne h.byte (fun k hk hk8 => ?_)
  obtain ⟨y0, ys, v0, e1, e2, e3, e4⟩ := h.has k hk hk8
  refine ⟨y0, ys, v0, e1, e2, e3, ?_⟩
  rw [of_snoc, if_neg (by omega), e4]
theorem Keeps.flush (h : Keeps S n l i) : Keeps (S.doFlush 1) n [l.getD (l.length - 1) 0] (i + 1) := by
  have h1 := h.small _ h.one
  have e : (S.doFlush 1).disks.getD 1 default = (S.disks.getD 1 default).settle (fun _ => true) := by
    show (S.disks.set 1 _).getD 1 default = _
    rw [getD_set _ _ _ _ (by rw [h.len]; decide), if_pos rfl]
  have hlast : l.getD (l.length - 1) 0 ∈ l := by
    have h0 : l.length - 1 < l.length := by have := h.ne; omega
    simp [List.getD, h0]
  refine ⟨by show (S.disks.set 1 _).length = 2; simpa using h.len, h.sec, fun k hk => ?_, h.offs, by show S.left - 1 = 0; rw [h.left], by simp, by simp, fun y hy => ?_, fun k hk hk8 => ?_⟩
  · rcases List.mem_or_eq_of_mem_set hk with hk | rfl
    · exact ⟨by have := (h.small k hk).1; omega, (h.small k hk).2⟩
    · exact ⟨by simp [Dk.settle], h1.2⟩
  · simp at hy; subst hy
    have := h.byte _ hlast
    simpa using this
  · rw [e]
    obtain ⟨y0, ys, v0, e1, e2, e3, e4⟩ := h.has k hk hk8
    have hlt : k < (S.disks.getD 1 default).sure.length := (List.getElem?_eq_some_iff.1 e2).1
    refine ⟨l.getD (l.length - 1) 0, [], latest (S.disks.getD 1 default).waits k ((S.disks.getD 1 default).sure.getD k []), rfl, stl_true k _ _ _ hlt, ?_, rfl⟩
    rw [latest_of, e4]
    rcases snoc_cases ys with rfl | ⟨t, z, rfl⟩
    · subst e1
      have : (S.disks.getD 1 default).sure.getD k [] = v0 := by rw [List.getD, e2]; rfl
      show From ((S.disks.getD 1 default).sure.getD k []) y0
      rw [this]; exact e3
    · left
      rw [List.map_append, e1]
      show (List.map secOf t ++ [secOf z]).getLast?.getD _ = _
      rw [List.getLast?_concat]
      have : (y0 :: (t ++ [z])).getD ((y0 :: (t ++ [z])).length - 1) 0 = z := by simp [List.getD]
      rw [this]
      rfl
theorem Keeps.crash (h : Keeps S n l i) (ks : List (List Int)) : (S.crash ks).disks.length = 2 ∧ (S.crash ks).sectors = 8 ∧ Sh.why (S.crash ks) 1 = 0 ∧ (((S.crash ks).disks.getD 1 default).waits.length : Int) = 0 := by
  have e := crash_getD S ks (d := 1) (by rw [h.len]; decide)
  refine ⟨by rw [crash_length]; exact h.len, h.sec, ?_, by rw [e]; rfl⟩
  unfold Sh.why
  have e3 : ((S.disks.getD 1 default).settle (keptOf ks 1)).dead = false := (h.small _ h.one).2
  rw [e, e3]
  rfl
theorem Keeps.val (h : Keeps S n l i) (ks : List (List Int)) {m : Nat} (hm : n = m) (h8 : m < 8) : ∃ j, j < l.length ∧ (((S.crash ks).disks.getD 1 default).val m = secOf (l.getD j 0) ∨ (j = 0 ∧ l.getD 0 0 = 0 ∧ ((S.crash ks).disks.getD 1 default).val m = noughts)) := by
  rw [crash_getD S ks (d := 1) (by rw [h.len]; decide)]
  obtain ⟨y0, ys, v0, e1, e2, e3, e4⟩ := h.has m hm h8
  have hlt : m < (S.disks.getD 1 default).sure.length := (List.getElem?_eq_some_iff.1 e2).1
  show ∃ j, j < l.length ∧ ((stl (keptOf ks 1) (S.disks.getD 1 default).waits 0 (S.disks.getD 1 default).sure).getD m [] = secOf (l.getD j 0) ∨ (j = 0 ∧ l.getD 0 0 = 0 ∧ (stl (keptOf ks 1) (S.disks.getD 1 default).waits 0 (S.disks.getD 1 default).sure).getD m [] = noughts))
  rw [List.getD]
  rcases stl_mem (keptOf ks 1) m (S.disks.getD 1 default).waits 0 (S.disks.getD 1 default).sure hlt with e | ⟨x, hx, hxm, e⟩
  · rw [e, e2]
    refine ⟨0, h.ne, ?_⟩
    subst e1
    rcases e3 with e3 | ⟨e3, e5⟩
    · exact .inl e3
    · exact .inr ⟨rfl, e3, e5⟩
  · rw [e]
    have hin : x.2 ∈ of m (S.disks.getD 1 default).waits := List.mem_map.2 ⟨x, List.mem_filter.2 ⟨hx, by simpa using hxm⟩, rfl⟩
    rw [e4] at hin
    obtain ⟨y, hy, e5⟩ := List.mem_map.1 hin
    obtain ⟨j, hj, e6⟩ := List.getElem_of_mem hy
    refine ⟨j + 1, by rw [e1]; simp; omega, .inl ?_⟩
    rw [e1]
    show x.2 = secOf (ys.getD j 0)
    rw [← e5, ← e6]
    simp [List.getD, hj]
theorem Keeps.start (n : Int) : Keeps (newSf 2 8) n [0] 0 := by
  refine ⟨rfl, rfl, fun k hk => ?_, rfl, rfl, by simp, by simp, fun y hy => by simp at hy; subst hy; decide, fun m _ h8 => ⟨0, [], noughts, rfl, ?_, .inr ⟨rfl, rfl⟩, rfl⟩⟩
  · have : k ∈ List.replicate 2 (newDk 8) := hk
    rw [List.eq_of_mem_replicate this]
    exact ⟨Nat.le_refl _, rfl⟩
  · show (List.replicate 8 noughts)[m]? = some noughts
    rw [List.getElem?_replicate, if_pos h8]
end
end Go.Proofs.Ytbkcdomapdflaaa.Sh
