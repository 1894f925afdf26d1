/-
  What a shelf is behind a call that turned one of its disks, its power or its count; and the contract of the power's spend.
  Conditions: each lemma's own.
-/
import Derived.Test.YtbkcdomapdflaaaHh
namespace Go.Proofs.Ytbkcdomapdflaaa.Sh
open Go.RowKit Go.Maps

theorem type_ne {w : World} {b : Nat} {c c2 : Array Value} {t t2 : TypeId} {f f2 : Nat × Nat} (h : w.heap[b]? = some (.cells c t f)) (h2 : w.heap[b]? = some (.cells c2 t2 f2)) : t = t2 := by
  rw [h] at h2
  injection h2 with h2
  injection h2
theorem row_type {w : World} {base : Nat} {e : TypeId} {size : Nat} {v : Value} {n b : Nat} {xs : List Value} (h : w.ownsRow base e size v n xs) (hb : v.ownBlock = some b) : ∃ cur, w.heap[b]? = some (.cells cur e (0, 0)) := by
  rcases h.2 with ⟨rfl, rfl⟩ | ⟨g, cap, cur, rfl, _, hh, _⟩
  · cases hb
  · simp only [Value.ownBlock, Option.some.injEq] at hb
    subst hb
    exact ⟨cur, hh⟩
theorem DiskIs.kinds {w : World} {sectors : Nat} {g : Gh} {k : Dk} (h : DiskIs w sectors g k) {b : Nat} (hb : g.has b) {c : Array Value} {t : TypeId} {f : Nat × Nat} (ht : w.heap[b]? = some (.cells c t f)) : t = 9 ∨ t = 87 := by
  rcases hb with hb | rfl | hb
  · obtain ⟨cur, hc⟩ := row_type h.sure hb
    exact .inl (type_ne ht hc)
  · obtain ⟨Dm, ⟨es, clock, hm, _⟩, _⟩ := h.map
    rw [hm] at ht
    cases ht
  · obtain ⟨cur, hc⟩ := row_type h.waits hb
    exact .inr (type_ne ht hc)
section
variable {w : World} {p D : Nat} {S : Sf} {F : Nat → Prop} {gs : Nat → Gh} (h : ShelfIs w p S F D gs)
include h
theorem ShelfIs.rowBlock : ∃ cur, w.heap[D]? = some (.cells cur 54 (0, 0)) := row_type h.row rfl
theorem ShelfIs.pD : p ≠ D := by
  rintro rfl
  obtain ⟨cur, hc⟩ := h.rowBlock
  exact absurd (type_ne h.root hc) (by decide)
theorem ShelfIs.nD {i : Nat} (hi : i < S.disks.length) : ¬ (gs i).has D := by
  intro e
  obtain ⟨cur, hc⟩ := h.rowBlock
  rcases (h.diskOf hi).kinds e hc with e | e <;> exact absurd e (by decide)
theorem ShelfIs.np {i : Nat} (hi : i < S.disks.length) : ¬ (gs i).has p := by
  intro e
  rcases (h.diskOf hi).kinds e h.root with e | e <;> exact absurd e (by decide)
theorem ShelfIs.plt : p < w.heap.size := h.ltF p h.inF.1
theorem ShelfIs.Dlt : D < w.heap.size := h.ltF D h.inF.2.1
end
/-- What a call leaves: of what was there it wrote the shelf's own blocks alone; the shelf's blocks are those that it had, and new ones. -/
def Moves (F : Nat → Prop) (w : World) (F' : Nat → Prop) (w' : World) : Prop := Only F w w' ∧ ∀ b, F' b → F b ∨ w.heap.size ≤ b
theorem Moves.trans {F F1 F2 : Nat → Prop} {w w1 w2 : World} (h : Moves F w F1 w1) (k : Moves F1 w1 F2 w2) : Moves F w F2 w2 :=
  ⟨h.1.trans k.1 h.2, fun b hb => (k.2 b hb).elim (h.2 b) (fun e => .inr (Nat.le_trans h.1.size e))⟩
theorem Moves.refl (F : Nat → Prop) (w : World) : Moves F w F w := ⟨Only.refl _ _, fun _ h => .inl h⟩
/-- A shelf lies at block p, in blocks of F. -/
def Shelf (w : World) (p : Nat) (S : Sf) (F : Nat → Prop) : Prop := ∃ D gs, ShelfIs w p S F D gs
/-- The shelf is there behind the call. -/
def Left (F : Nat → Prop) (w : World) (p : Nat) (S : Sf) (w' : World) : Prop := ∃ F', Shelf w' p S F' ∧ Moves F w F' w'

def upd (gs : Nat → Gh) (i : Nat) (g : Gh) (j : Nat) : Gh := if j = i then g else gs j
theorem getD_set (l : List Dk) (i j : Nat) (k : Dk) (hi : i < l.length) : (l.set i k).getD j default = if j = i then k else l.getD j default := by
  by_cases e : j = i
  · subst e; simp [List.getD, hi]
  · simp [List.getD, e, List.getElem?_set_ne (Ne.symm e)]
/-- One disk was turned. -/
theorem ShelfIs.turned {w w' : World} {p D : Nat} {S : Sf} {F : Nat → Prop} {gs : Nat → Gh} (h : ShelfIs w p S F D gs) {i : Nat} (hi : i < S.disks.length) (g' : Gh) (k' : Dk) (off : Bool) (left : Nat) (count : Int)
    (hleft : left ≤ 9223372036854775807)
    (root : w'.heap[p]? = some (.cells #[.bool off, .int .i64 (left : Int), .slice (some ⟨D, 0, none⟩) S.disks.length S.disks.length, .int .i64 (S.sectors : Int), .int .i64 count] 48 (0, 0)))
    (row : w'.ownsRow 0 54 4 (.slice (some ⟨D, 0, none⟩) S.disks.length S.disks.length) S.disks.length (rowOf (fun a c => if a = i then diskV g' k'.dead c else diskV (gs a) (S.disks.getD a default).dead c) S.disks.length 4))
    (disk : DiskIs w' S.sectors g' k')
    (keep : ∀ b, F b → b ≠ p → b ≠ D → ¬ (gs i).has b → w'.heap[b]? = w.heap[b]?)
    (size : w.heap.size ≤ w'.heap.size) (new : ∀ b, g'.has b → (gs i).has b ∨ w.heap.size ≤ b) :
    ShelfIs w' p { disks := S.disks.set i k', sectors := S.sectors, count := count, off := off, left := left } (fun b => F b ∨ g'.has b) D (upd gs i g') where
  some_ := by simpa using h.some_
  most := by simpa using h.most
  sec1 := h.sec1
  secM := h.secM
  left := hleft
  root := by simpa using root
  row := by
    have e : rowOf (fun a c => diskV (upd gs i g' a) (((S.disks.set i k').getD a default).dead) c) S.disks.length 4 = rowOf (fun a c => if a = i then diskV g' k'.dead c else diskV (gs a) (S.disks.getD a default).dead c) S.disks.length 4 := by
      refine rowOf_congr (by decide) fun a c ha _ => ?_
      rw [getD_set _ _ _ _ hi]
      by_cases e : a = i
      · rw [if_pos e, if_pos e, upd, if_pos e]
      · rw [if_neg e, if_neg e, upd, if_neg e]
    simp only [List.length_set]
    rw [e]
    exact row
  disk := by
    intro j k hj
    simp only at hj
    rw [List.getElem?_set] at hj
    by_cases e : i = j
    · subst e
      rw [if_pos rfl, if_pos hi] at hj
      injection hj with hj
      subst hj
      rw [upd, if_pos rfl]
      exact disk
    · rw [if_neg e] at hj
      rw [upd, if_neg (Ne.symm e)]
      have hjl : j < S.disks.length := (List.getElem?_eq_some_iff.1 hj).1
      refine (h.disk j k hj).same fun b hb => ?_
      have hF := h.inF.2.2 j b hjl hb
      refine keep b hF ?_ ?_ (h.apart j i b hjl hi (Ne.symm e) hb)
      · rintro rfl; exact h.np hjl hb
      · rintro rfl; exact h.nD hjl hb
  apart := by
    intro a c b ha hc hne hab hcb
    simp only [List.length_set] at ha hc
    unfold upd at hab hcb
    by_cases ea : a = i
    · rw [if_pos ea] at hab
      rw [if_neg (by omega)] at hcb
      rcases new b hab with e | e
      · exact h.apart i c b hi hc (by omega) e hcb
      · have := h.ltF b (h.inF.2.2 c b hc hcb); omega
    · rw [if_neg ea] at hab
      by_cases ec : c = i
      · rw [if_pos ec] at hcb
        rcases new b hcb with e | e
        · exact h.apart a i b ha hi ea hab e
        · have := h.ltF b (h.inF.2.2 a b ha hab); omega
      · rw [if_neg ec] at hcb
        exact h.apart a c b ha hc hne hab hcb
  inF := by
    refine ⟨.inl h.inF.1, .inl h.inF.2.1, fun a b ha hb => ?_⟩
    simp only [List.length_set] at ha
    unfold upd at hb
    by_cases ea : a = i
    · rw [if_pos ea] at hb; exact .inr hb
    · rw [if_neg ea] at hb; exact .inl (h.inF.2.2 a b ha hb)
  ltF := by
    rintro b (hb | hb)
    · have := h.ltF b hb; omega
    · exact disk.lt hb
/-- Only the root was turned: the power, the count. -/
theorem ShelfIs.rooted {w w' : World} {p D : Nat} {S : Sf} {F : Nat → Prop} {gs : Nat → Gh} (h : ShelfIs w p S F D gs) (off : Bool) (left : Nat) (count : Int) (hleft : left ≤ 9223372036854775807)
    (root : w'.heap[p]? = some (.cells #[.bool off, .int .i64 (left : Int), .slice (some ⟨D, 0, none⟩) S.disks.length S.disks.length, .int .i64 (S.sectors : Int), .int .i64 count] 48 (0, 0)))
    (keep : ∀ b, F b → b ≠ p → w'.heap[b]? = w.heap[b]?) (size : w.heap.size ≤ w'.heap.size) :
    ShelfIs w' p { S with count := count, off := off, left := left } F D gs where
  some_ := h.some_
  most := h.most
  sec1 := h.sec1
  secM := h.secM
  left := hleft
  root := root
  row := same_row h.row fun b hb => by
    injection hb with hb
    subst hb
    exact keep _ h.inF.2.1 (Ne.symm h.pD)
  disk := fun j k hj => (h.disk j k hj).same fun b hb => keep b (h.inF.2.2 j b (List.getElem?_eq_some_iff.1 hj).1 hb) (by rintro rfl; exact h.np (List.getElem?_eq_some_iff.1 hj).1 hb)
  apart := h.apart
  inF := h.inF
  ltF := fun b hb => by have := h.ltF b hb; omega
/-- Nothing of the shelf was turned. -/
theorem ShelfIs.same {w w' : World} {p D : Nat} {S : Sf} {F : Nat → Prop} {gs : Nat → Gh} (h : ShelfIs w p S F D gs) (keep : ∀ b, F b → w'.heap[b]? = w.heap[b]?) (size : w.heap.size ≤ w'.heap.size) : ShelfIs w' p S F D gs := by
  have := h.rooted (w' := w') S.off S.left S.count h.left ((keep p h.inF.1).trans h.root) (fun b hb _ => keep b hb) size
  simpa using this
theorem Shelf.only {w w' : World} {p : Nat} {S : Sf} {F G : Nat → Prop} (h : Shelf w p S F) (hO : Only G w w') (hd : ∀ b, F b → ¬ G b) : Shelf w' p S F := by
  obtain ⟨D, gs, h⟩ := h
  exact ⟨D, gs, h.same (fun b hb => hO.block b (h.ltF b hb) (hd b hb)) hO.size⟩
theorem Shelf.ltF {w : World} {p : Nat} {S : Sf} {F : Nat → Prop} (h : Shelf w p S F) {b : Nat} (hb : F b) : b < w.heap.size := by
  obtain ⟨D, gs, h⟩ := h
  exact h.ltF b hb

/-! ### the power -/
theorem spend_none (w : World) (p : Nat) (c1 : w.cell? ⟨p, 1, none⟩ = some (.int .i64 0)) :
    Calls Try.prog 23 #[.pointer (some ⟨p, 0, none⟩)] w fun e w' => e = .returned (.tuple #[]) ∧ w = w' := by
  go_enter Try.func23, Try.ntmps23
  go_wp2
  go_end0
  exact ⟨rfl, rfl⟩
theorem spend_some (w : World) (p n : Nat) (off : Bool) (hn : 0 < n) (hm : n ≤ 9223372036854775807) (c0 : w.cell? ⟨p, 0, none⟩ = some (.bool off)) (c1 : w.cell? ⟨p, 1, none⟩ = some (.int .i64 (n : Int))) (f0 : w.frozen? ⟨p, 0, none⟩ = false) (f1 : w.frozen? ⟨p, 1, none⟩ = false) :
    Calls Try.prog 23 #[.pointer (some ⟨p, 0, none⟩)] w fun e w' => e = .returned (.tuple #[]) ∧ w' = (w.setCell ⟨p, 1, none⟩ (.int .i64 ((n - 1 : Nat) : Int))).setCell ⟨p, 0, none⟩ (.bool (decide (n = 1))) := by
  have hn1 : (n : Int) - 1 = ((n - 1 : Nat) : Int) := by omega
  by_cases h1 : n = 1
  · subst h1
    go_enter Try.func23, Try.ntmps23
    go_wp2
    go_end0
    exact ⟨rfl, rfl⟩
  · have hq : (((n - 1 : Nat) : Int) == 0) = false := by rw [beq_eq_false_iff_ne]; omega
    have hd := Lib.hid (show decide (n = 1) = false by simp [h1])
    clear h1
    go_enter Try.func23, Try.ntmps23
    go_wp2
    go_end0
    exact ⟨rfl, by rw [hd.out]⟩

theorem cells_set {w : World} {b i : Nat} {c : Array Value} {t : TypeId} (v : Value) (h : w.heap[b]? = some (.cells c t (0, 0))) : (w.setCell ⟨b, i, none⟩ v).heap[b]? = some (.cells (c.setIfInBounds i v) t (0, 0)) := heap_setCell_same w b i c t v h
theorem heap_set_other (w : World) (a : Addr) (v : Value) {k : Nat} (h : k ≠ a.block) : (w.setCell a v).heap[k]? = w.heap[k]? := Below.heap_setCell _ _ _ _ h
/-- The power behind a write or a flush. -/
def offAt (left : Nat) (off : Bool) : Bool := if left = 0 then off else decide (left = 1)
noncomputable def powered (w : World) (p left : Nat) : World := if left = 0 then w else (w.setCell ⟨p, 1, none⟩ (.int .i64 ((left - 1 : Nat) : Int))).setCell ⟨p, 0, none⟩ (.bool (decide (left = 1)))
theorem powered_other (w : World) (p left : Nat) {k : Nat} (h : k ≠ p) : (powered w p left).heap[k]? = w.heap[k]? := by
  unfold powered
  split
  · rfl
  · rw [heap_set_other _ _ _ h, heap_set_other _ _ _ h]
theorem powered_root {w : World} {p left : Nat} {off : Bool} {x y z : Value} {t : TypeId} (h : w.heap[p]? = some (.cells #[.bool off, .int .i64 (left : Int), x, y, z] t (0, 0))) :
    (powered w p left).heap[p]? = some (.cells #[.bool (offAt left off), .int .i64 ((left - 1 : Nat) : Int), x, y, z] t (0, 0)) := by
  unfold powered offAt
  split
  · rename_i e
    subst e
    exact h
  · rw [cells_set _ (cells_set _ h)]
    rfl
theorem powered_only {F : Nat → Prop} {w w1 : World} {p : Nat} (h : Only F w w1) (hp : F p) (left : Nat) : Only F w (powered w1 p left) := by
  unfold powered
  split
  · exact h
  · exact (h.setCell (.inl hp) _).setCell (.inl hp) _
theorem powered_size (w : World) (p left : Nat) : (powered w p left).heap.size = w.heap.size := by
  unfold powered
  split <;> simp
theorem spend_any (w : World) (p n : Nat) (off : Bool) (hm : n ≤ 9223372036854775807) (c0 : w.cell? ⟨p, 0, none⟩ = some (.bool off)) (c1 : w.cell? ⟨p, 1, none⟩ = some (.int .i64 (n : Int))) (f0 : w.frozen? ⟨p, 0, none⟩ = false) (f1 : w.frozen? ⟨p, 1, none⟩ = false) :
    Calls Try.prog 23 #[.pointer (some ⟨p, 0, none⟩)] w fun e w' => e = .returned (.tuple #[]) ∧ w' = powered w p n := by
  rcases Nat.eq_zero_or_pos n with rfl | hn
  · exact (spend_none w p c1).mono fun e w' ⟨h1, h2⟩ => ⟨h1, by rw [← h2]; rfl⟩
  · exact (spend_some w p n off hn hm c0 c1 f0 f1).mono fun e w' ⟨h1, h2⟩ => ⟨h1, by rw [h2, powered, if_neg (by omega)]⟩
/-- Where a call that turns one disk may write. -/
def oneF (p : Nat) (g : Gh) (b : Nat) : Prop := b = p ∨ g.has b
/-- A disk was turned, the power was spent. -/
theorem turn_disk {w w2 : World} {p D : Nat} {S : Sf} {F : Nat → Prop} {gs : Nat → Gh} (h : ShelfIs w p S F D gs) {d : Nat} (hd : d < S.disks.length) (k' : Dk) (v : Value) (cnt : Int)
    (hdead : k'.dead = (S.disks.getD d default).dead)
    (hO : Only (oneF p (gs d)) w w2)
    (hroot : w2.heap[p]? = some (.cells #[.bool S.off, .int .i64 (S.left : Int), .slice (some ⟨D, 0, none⟩) S.disks.length S.disks.length, .int .i64 (S.sectors : Int), .int .i64 cnt] 48 (0, 0)))
    (hdisk : DiskIs w2 S.sectors { s := (gs d).s, m := (gs d).m, v := v } k')
    (hnew : ∀ b, v.ownBlock = some b → (gs d).v.ownBlock = some b ∨ w.heap.size ≤ b) :
    Left F w p { disks := S.disks.set d k', sectors := S.sectors, count := cnt, off := offAt S.left S.off, left := S.left - 1 } (powered (w2.setCell ⟨D, d * 4 + 1, none⟩ v) p S.left) := by
  have hDF : ¬ oneF p (gs d) D := fun e => e.elim (fun e => h.pD e.symm) (h.nD hd)
  have hD2 : w2.heap[D]? = w.heap[D]? := hO.block D h.Dlt hDF
  have hrow2 := same_row (w' := w2) h.row fun b hb => by injection hb with hb; subst hb; exact hD2
  have hrow3 := (hrow2.stored (d * 4 + 1) v).1
  rw [rowOf_set _ (by decide)] at hrow3
  have hvD : ¬ (Gh.has { s := (gs d).s, m := (gs d).m, v := v } D) := by
    intro e
    obtain ⟨cur, hc⟩ := row_type hrow2 rfl
    rcases hdisk.kinds e hc with e | e <;> exact absurd e (by decide)
  have hOF : Only F w w2 := hO.mono fun b hb => hb.elim (fun e => e ▸ h.inF.1) (h.inF.2.2 d b hd)
  have hO4 : Only F w (powered (w2.setCell ⟨D, d * 4 + 1, none⟩ v) p S.left) := powered_only (hOF.setCell (.inl h.inF.2.1) v) h.inF.1 _
  have hs4 : (powered (w2.setCell ⟨D, d * 4 + 1, none⟩ v) p S.left).heap.size = w2.heap.size := by rw [powered_size]; simp
  refine ⟨_, ⟨D, _, h.turned hd { s := (gs d).s, m := (gs d).m, v := v } k' (offAt S.left S.off) (S.left - 1) cnt (by have := h.left; omega) ?_ ?_ ?_ ?_ hO4.size ?_⟩, hO4, ?_⟩
  · exact powered_root (by rw [heap_set_other _ _ _ h.pD]; exact hroot)
  · refine same_row ?_ (fun b hb => by injection hb with hb; subst hb; exact powered_other _ _ _ (Ne.symm h.pD))
    have e : rowOf (fun a c => if a = d ∧ c = 1 then v else diskV (gs a) (S.disks.getD a default).dead c) S.disks.length 4 = rowOf (fun a c => if a = d then diskV { s := (gs d).s, m := (gs d).m, v := v } k'.dead c else diskV (gs a) (S.disks.getD a default).dead c) S.disks.length 4 := by
      refine rowOf_congr (by decide) fun a c _ hc => ?_
      by_cases ea : a = d
      · subst ea
        rw [if_pos rfl, hdead]
        match c, hc with
        | 0, _ => simp [diskV]
        | 1, _ => simp [diskV]
        | 2, _ => simp [diskV]
        | 3, _ => simp [diskV]
      · rw [if_neg ea, if_neg (fun h => ea h.1)]
    rw [← e]
    exact hrow3
  · refine hdisk.same fun b hb => ?_
    rw [powered_other, heap_set_other]
    · rintro rfl; exact hvD hb
    · rintro rfl
      rcases hdisk.kinds hb hroot with e | e <;> exact absurd e (by decide)
  · intro b hb hbp hbD hbg
    rw [powered_other _ _ _ hbp, heap_set_other _ _ _ hbD]
    exact hO.block b (h.ltF b hb) (fun e => e.elim hbp hbg)
  · intro b hb
    rcases hb with hb | hb | hb
    · exact .inl (.inl hb)
    · exact .inl (.inr (.inl hb))
    · exact (hnew b hb).imp (fun e => .inr (.inr e)) id
  · rintro b (hb | hb)
    · exact .inl hb
    · rcases hb with hb | hb | hb
      · exact .inl (h.inF.2.2 d b hd (.inl hb))
      · exact .inl (h.inF.2.2 d b hd (.inr (.inl hb)))
      · exact (hnew b hb).imp (fun e => h.inF.2.2 d b hd (.inr (.inr e))) id
end Go.Proofs.Ytbkcdomapdflaaa.Sh
