/-
  What it says that a shelf lies in memory, and what keeps that true.
  Conditions: none beyond each lemma's own.
-/
import Derived.Test.YtbkcdomapdflaaaHb
namespace Go.Proofs.Ytbkcdomapdflaaa.Sh
open Go.RowKit Go.Maps

/-! ### the map of the last writes -/
theorem lawInt : Keyed Try.prog 3 := int_keyed Try.underlying3
theorem zeroInt (w : World) : (zeroValue 3).run Try.prog w = .ok (.int .i64 0) w := by kernel_rfl
theorem keyInt (x : Nat) (hx : x ≤ 9223372036854775807) : keyOf Try.prog 3 (.int .i64 (x : Int)) = some (.int .i64 (x : Int)) := keyOf_int_mk Try.underlying3 (by exact WalkArith.wf_i64 (by omega))
theorem elInt (x : Nat) (hx : x ≤ 9223372036854775807) : plainElem (H := Unit) Try.prog 3 (.int .i64 (x : Int)) = some (.lit (.int .i64 (x : Int)), []) := plainElem_int Try.underlying3 (by exact WalkArith.wf_i64 (by omega))
/-- The map in block m has at most n entries, and tells of each number what f says. -/
def MapIs (w : World) (m n : Nat) (f : Int → Option Nat) : Prop :=
  ∃ D : DataW Unit, w.ownsMap Try.prog 3 (plainElem Try.prog 3) m n D ∧ ∀ x : Int, Maps.has D (.int .i64 x) = (f x).isSome ∧ ∀ j, f x = some j → D.atKey (.int .i64 x) (.lit (.int .i64 0)) = .lit (.int .i64 (j : Int))
theorem MapIs.lt {w : World} {m n : Nat} {f : Int → Option Nat} (h : MapIs w m n f) : m < w.heap.size := by
  obtain ⟨D, h, _⟩ := h; exact h.lt
theorem MapIs.same {w w' : World} {m n : Nat} {f : Int → Option Nat} (h : MapIs w m n f) (hk : w'.heap[m]? = w.heap[m]?) : MapIs w' m n f := by
  obtain ⟨D, h, r⟩ := h; exact ⟨D, same_map h hk, r⟩
theorem MapIs.made (w : World) : MapIs (w.alloc (.map #[] 0)) w.heap.size 0 (fun _ => none) :=
  ⟨.map [], World.ownsMap_made w _ _ _, fun x => ⟨by rfl, fun j h => by cases h⟩⟩
theorem put_is {D : DataW Unit} {f : Int → Option Nat} (hD : IsMap D) (x j : Nat) (hf : ∀ x : Int, Maps.has D (.int .i64 x) = (f x).isSome ∧ ∀ j, f x = some j → D.atKey (.int .i64 x) (.lit (.int .i64 0)) = .lit (.int .i64 (j : Int))) :
    ∀ y : Int, Maps.has (D.put (.int .i64 (x : Int)) (.lit (.int .i64 (j : Int)))) (.int .i64 y) = (if (x : Int) = y then some j else f y).isSome ∧
      ∀ i, (if (x : Int) = y then some j else f y) = some i → (D.put (.int .i64 (x : Int)) (.lit (.int .i64 (j : Int)))).atKey (.int .i64 y) (.lit (.int .i64 0)) = .lit (.int .i64 (i : Int)) := by
  intro y
  by_cases h : (x : Int) = y
  · subst h
    rw [if_pos rfl]
    refine ⟨by rw [Maps.has_put_same hD (by trivial)]; rfl, fun i hi => ?_⟩
    injection hi with hi
    subst hi
    exact Maps.atKey_put_same hD (by trivial) _ _
  · have hne : Lit.int .i64 y ≠ Lit.int .i64 (x : Int) := fun e => h (by injection e with _ e; exact e.symm)
    rw [if_neg h]
    refine ⟨by rw [Maps.has_put_other hne]; exact (hf y).1, fun i hi => ?_⟩
    rw [Maps.atKey_put_other hne]
    exact (hf y).2 i hi
theorem del_is {D : DataW Unit} {f : Int → Option Nat} (x : Nat) (hf : ∀ x : Int, Maps.has D (.int .i64 x) = (f x).isSome ∧ ∀ j, f x = some j → D.atKey (.int .i64 x) (.lit (.int .i64 0)) = .lit (.int .i64 (j : Int))) :
    ∀ y : Int, Maps.has (D.del (.int .i64 (x : Int))) (.int .i64 y) = (if (x : Int) = y then none else f y).isSome ∧
      ∀ i, (if (x : Int) = y then none else f y) = some i → (D.del (.int .i64 (x : Int))).atKey (.int .i64 y) (.lit (.int .i64 0)) = .lit (.int .i64 (i : Int)) := by
  intro y
  by_cases h : (x : Int) = y
  · subst h
    rw [if_pos rfl]
    exact ⟨by rw [Maps.has_del_same]; rfl, fun i hi => by cases hi⟩
  · have hne : Lit.int .i64 y ≠ Lit.int .i64 (x : Int) := fun e => h (by injection e with _ e; exact e.symm)
    rw [if_neg h]
    refine ⟨by rw [Maps.has_del_other hne]; exact (hf y).1, fun i hi => ?_⟩
    rw [Maps.atKey_del_other hne]
    exact (hf y).2 i hi
/-- Nothing is found: the map has no entry. -/
theorem MapIs.empty {w : World} {m n : Nat} (h : MapIs w m n (fun _ => none)) : MapIs w m 0 (fun _ => none) := by
  obtain ⟨D, ⟨es, clock, hb, F, hs, hD⟩, hf⟩ := h
  have hk := Maps.fit_keys F
  have hnil : es.toList = [] := by
    rcases hes : es.toList with _ | ⟨x, t⟩
    · rfl
    · exfalso
      have hx : (WideElems.rg Try.prog 3 (plainElem (H := Unit) Try.prog 3) x) ∈ es.toList.map (WideElems.rg Try.prog 3 (plainElem (H := Unit) Try.prog 3)) := List.mem_map_of_mem (by rw [hes]; exact List.mem_cons_self ..)
      obtain ⟨v, hv⟩ := hk _ hx
      obtain ⟨a, ha⟩ : ∃ a, (WideElems.rg Try.prog 3 (plainElem (H := Unit) Try.prog 3) x).1 = .int .i64 a := by
        generalize (WideElems.rg Try.prog 3 (plainElem (H := Unit) Try.prog 3) x).1 = l at hv
        cases v <;> simp [keyOf, mapKey, Try.underlying3] at hv
        exact ⟨_, hv.2.symm⟩
      have h1 := (hf a).1
      rw [hD, Maps.has_eq] at h1
      have h2 : ((es.toList.map (WideElems.rg Try.prog 3 (plainElem (H := Unit) Try.prog 3))).foldr DataW.insert []).any (fun p => p.1.sameKey (.int .i64 a)) = true := by
        rw [List.any_eq_true]
        refine ⟨_, (WideShapes.sorted_perm _).mem_iff.2 hx, ?_⟩
        rw [ha]
        simp [Lit.sameKey]
      rw [h2] at h1
      cases h1
  have hsz : es.size = 0 := by rw [← Array.length_toList, hnil]; rfl
  exact ⟨D, ⟨es, clock, hb, F, by omega, hD⟩, hf⟩

/-! ### rows of structs -/
/-- The row of n times size cells whose cell c of element i is 'f i c'. -/
def rowOf (f : Nat → Nat → Value) (n size : Nat) : List Value := (List.range (n * size)).map fun j => f (j / size) (j % size)
theorem rowOf_length (f : Nat → Nat → Value) (n size : Nat) : (rowOf f n size).length = n * size := by simp [rowOf]
theorem rowOf_at (f : Nat → Nat → Value) {n size i c : Nat} (hi : i < n) (hc : c < size) : (rowOf f n size)[i * size + c]? = some (f i c) := by
  have hlt : i * size + c < n * size := by
    have : (i + 1) * size ≤ n * size := Nat.mul_le_mul_right _ hi
    rw [Nat.succ_mul] at this
    omega
  have h1 : (i * size + c) / size = i := by
    rw [Nat.mul_comm, Nat.mul_add_div (by omega), Nat.div_eq_of_lt hc, Nat.add_zero]
  have h2 : (i * size + c) % size = c := by rw [Nat.mul_comm, Nat.mul_add_mod, Nat.mod_eq_of_lt hc]
  simp [rowOf, hlt, h1, h2]
theorem rowOf_set (f : Nat → Nat → Value) {n size i c : Nat} (hc : c < size) (v : Value) : (rowOf f n size).set (i * size + c) v = rowOf (fun a b => if a = i ∧ b = c then v else f a b) n size := by
  have h1 : (i * size + c) / size = i := by
    rw [Nat.mul_comm, Nat.mul_add_div (by omega), Nat.div_eq_of_lt hc, Nat.add_zero]
  have h2 : (i * size + c) % size = c := by rw [Nat.mul_comm, Nat.mul_add_mod, Nat.mod_eq_of_lt hc]
  apply List.ext_getElem?
  intro j
  rw [List.getElem?_set]
  by_cases hj : i * size + c = j
  · subst hj
    simp only [if_true, rowOf_length]
    by_cases hlt : i * size + c < n * size
    · simp [rowOf, hlt, h1, h2]
    · simp [rowOf, hlt]
  · rw [if_neg hj]
    by_cases hlt : j < n * size
    · have hne : ¬ (j / size = i ∧ j % size = c) := by
        rintro ⟨rfl, rfl⟩
        exact hj (by rw [Nat.mul_comm]; exact Nat.div_add_mod j size)
      simp [rowOf, hlt, hne]
    · simp [rowOf, hlt]
theorem rowOf_congr {f g : Nat → Nat → Value} {n size : Nat} (hs : 0 < size) (h : ∀ i c, i < n → c < size → f i c = g i c) : rowOf f n size = rowOf g n size := by
  unfold rowOf
  apply List.map_congr_left
  intro j hj
  have hj : j < n * size := List.mem_range.1 hj
  exact h _ _ (Nat.div_lt_of_lt_mul (by rw [Nat.mul_comm]; exact hj)) (Nat.mod_lt _ hs)
/-- The cells of writes that wait. -/
def flat (l : List (Nat × Bs)) : List Value := l.flatMap fun x => [.int .i64 (x.1 : Int), sv x.2]
theorem flat_length (l : List (Nat × Bs)) : (flat l).length = l.length * 2 := by
  induction l with
  | nil => rfl
  | cons x t ih => simp only [flat, List.flatMap_cons, List.length_append, List.length_cons, List.length_nil] at *; omega
theorem flat_snoc (l : List (Nat × Bs)) (x : Nat × Bs) : flat (l ++ [x]) = flat l ++ [.int .i64 (x.1 : Int), sv x.2] := by simp [flat]
theorem flat_at : ∀ (l : List (Nat × Bs)) (j n : Nat) (b : Bs), l[j]? = some (n, b) → (flat l)[j * 2]? = some (.int .i64 (n : Int)) ∧ (flat l)[j * 2 + 1]? = some (sv b)
  | [], j, n, b, h => by simp at h
  | x :: t, 0, n, b, h => by
    simp at h
    subst h
    simp [flat]
  | x :: t, j + 1, n, b, h => by
    have := flat_at t j n b (by simpa using h)
    have e : flat (x :: t) = .int .i64 (x.1 : Int) :: sv x.2 :: flat t := by simp [flat]
    rw [e]
    have e1 : (j + 1) * 2 = j * 2 + 1 + 1 := by omega
    have e2 : (j + 1) * 2 + 1 = (j * 2 + 1) + 1 + 1 := by omega
    rw [e1]
    simp only [List.getElem?_cons_succ]
    exact this

/-! ### a disk -/
/-- Where a disk's parts lie: the row of what is sure, the block of the map, the row of what waits. -/
structure Gh where
  s : Value
  m : Nat
  v : Value
instance : Inhabited Gh := ⟨⟨.slice none 0 0, 0, .slice none 0 0⟩⟩
def Gh.has (g : Gh) (b : Nat) : Prop := g.s.ownBlock = some b ∨ g.m = b ∨ g.v.ownBlock = some b
def diskV (g : Gh) (dead : Bool) : Nat → Value
  | 0 => g.s
  | 1 => g.v
  | 2 => .map (some g.m)
  | _ => .bool dead
/-- What may stand in a sector. -/
def Sec (b : Bs) : Prop := b.length = 128 ∧ Small b
structure DiskIs (w : World) (sectors : Nat) (g : Gh) (k : Dk) : Prop where
  len : k.sure.length = sectors
  sure : w.ownsRow 0 9 1 g.s sectors (k.sure.map sv)
  secs : ∀ b ∈ k.sure, Sec b
  waits : w.ownsRow 0 87 2 g.v k.waits.length (flat k.waits)
  fits : ∀ x ∈ k.waits, x.1 < sectors ∧ Sec x.2
  map : MapIs w g.m k.waits.length (lastOf k.waits)
theorem DiskIs.same {w w' : World} {sectors : Nat} {g : Gh} {k : Dk} (h : DiskIs w sectors g k) (hk : ∀ b, g.has b → w'.heap[b]? = w.heap[b]?) : DiskIs w' sectors g k :=
  ⟨h.len, same_row h.sure fun b hb => hk b (.inl hb), h.secs, same_row h.waits fun b hb => hk b (.inr (.inr hb)), h.fits, h.map.same (hk _ (.inr (.inl rfl)))⟩
theorem DiskIs.lt {w : World} {sectors : Nat} {g : Gh} {k : Dk} (h : DiskIs w sectors g k) {b : Nat} (hb : g.has b) : b < w.heap.size := by
  rcases hb with hb | rfl | hb
  · exact (h.sure.lt b hb).2
  · exact h.map.lt
  · exact (h.waits.lt b hb).2
theorem DiskIs.dead {w : World} {sectors : Nat} {g : Gh} {k : Dk} (h : DiskIs w sectors g k) (d : Bool) : DiskIs w sectors g { k with dead := d } := ⟨h.len, h.sure, h.secs, h.waits, h.fits, h.map⟩

/-! ### a shelf -/
def shelfRow (p : World → Nat → Prop) : Prop := ∀ w b, p w b
/-- A shelf lies at block p, all of its parts in blocks of F. -/
structure ShelfIs (w : World) (p : Nat) (S : Sf) (F : Nat → Prop) (D : Nat) (gs : Nat → Gh) : Prop where
  some_ : 1 ≤ S.disks.length
  most : S.disks.length ≤ 17
  sec1 : 1 ≤ S.sectors
  secM : S.sectors ≤ 4096
  left : S.left ≤ 9223372036854775807
  root : w.heap[p]? = some (.cells #[.bool S.off, .int .i64 (S.left : Int), .slice (some ⟨D, 0, none⟩) S.disks.length S.disks.length, .int .i64 (S.sectors : Int), .int .i64 S.count] 48 (0, 0))
  row : w.ownsRow 0 54 4 (.slice (some ⟨D, 0, none⟩) S.disks.length S.disks.length) S.disks.length (rowOf (fun i c => diskV (gs i) ((S.disks.getD i default).dead) c) S.disks.length 4)
  disk : ∀ i k, S.disks[i]? = some k → DiskIs w S.sectors (gs i) k
  apart : ∀ i j b, i < S.disks.length → j < S.disks.length → i ≠ j → (gs i).has b → ¬ (gs j).has b
  inF : F p ∧ F D ∧ ∀ i b, i < S.disks.length → (gs i).has b → F b
  ltF : ∀ b, F b → b < w.heap.size
end Go.Proofs.Ytbkcdomapdflaaa.Sh
