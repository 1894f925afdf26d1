/-
  What path's statements speak of, as plain functions on bytes: which names may be, a path's pieces, the errors in their order; slices of strings in memory.
  Conditions: none beyond each lemma's own.
-/
import Derived.Test.YtblkfiaeifckjaaRows
import Derived.WalkKit
import Derived.WalkSpells
import Derived.WalkLawsBesides
import Derived.Below
import Derived.Laws.OwnMore
import Derived.Laws.BitsAllLaws
import Derived.Deep.AppendLies
import Derived.Deep.Draws
import Derived.Deep.QuietTactic
import Derived.BigQuiet
import Derived.Lib.Hide
import Derived.IntWalk
namespace Go.Proofs.Ytblkfiaeifckjaa
open Go.RowKit

abbrev Bs := List UInt8
/-- A byte that no name has. -/
def bad (b : UInt8) : Bool := b == 47 || b == 0
def anyBad : Bs → Bool
  | [] => false
  | b :: r => bad b || anyBad r
def nameE (s : Bs) : Int := if s = [] ∨ s = [46] ∨ s = [46, 46] ∨ anyBad s = true then 25 else if 27 < s.length then 26 else 0
theorem anyBad_get {s : Bs} (h : anyBad s = false) (i : Nat) (b : UInt8) (hb : s[i]? = some b) : bad b = false := by
  induction s generalizing i with
  | nil => simp at hb
  | cons x r ih =>
    rw [anyBad, Bool.or_eq_false_iff] at h
    cases i with
    | zero => simp at hb; subst hb; exact h.1
    | succ i => exact ih h.2 i (by simpa using hb)
theorem anyBad_of {s : Bs} (i : Nat) (b : UInt8) (hb : s[i]? = some b) (h : bad b = true) : anyBad s = true := by
  cases hc : anyBad s with
  | true => rfl
  | false => rw [anyBad_get hc i b hb] at h; cases h
theorem anyBad_no {s : Bs} (h : ∀ (i : Nat) b, s[i]? = some b → bad b = false) : anyBad s = false := by
  induction s with
  | nil => rfl
  | cons x r ih => rw [anyBad, Bool.or_eq_false_iff]; exact ⟨h 0 x rfl, ih fun i b hb => h (i + 1) b (by simpa using hb)⟩

/-- The pieces of what stands between slashes, none of them empty; cur is what has come of the piece that is under way. -/
def piecesA : Bs → Bs → List Bs
  | cur, [] => if cur = [] then [] else [cur]
  | cur, b :: r => if b = 47 then (if cur = [] then piecesA [] r else cur :: piecesA [] r) else piecesA (cur ++ [b]) r
def pieces (l : Bs) : List Bs := piecesA [] l
/-- The first error, in order; k names have come. -/
def scan : Nat → List Bs → Int
  | _, [] => 0
  | k, x :: xs => if nameE x ≠ 0 then nameE x else if k = 16 then 26 else scan (k + 1) xs
def splitE (p : Bs) : Int × List Bs :=
  if p.head? ≠ some 47 then (25, []) else if 255 < p.length then (26, []) else if scan 0 (pieces p) ≠ 0 then (scan 0 (pieces p), []) else (0, pieces p)

/-- What stands ahead of the first slash; what stands behind it. -/
def front : Bs → Bs
  | [] => []
  | b :: r => if b = 47 then [] else b :: front r
def behind : Bs → Bs
  | [] => []
  | b :: r => if b = 47 then r else behind r
theorem behind_length : ∀ l : Bs, l ≠ [] → (behind l).length < l.length
  | [], h => absurd rfl h
  | b :: r, _ => by
    unfold behind
    by_cases hb : b = 47
    · simp [hb]
    · rw [if_neg hb]
      cases r with
      | nil => simp [behind]
      | cons c t => have := behind_length (c :: t) (by simp); simp at this ⊢; omega
theorem piecesA_step : ∀ (cur l : Bs), piecesA cur l = (if cur ++ front l = [] then [] else [cur ++ front l]) ++ pieces (behind l)
  | cur, [] => by by_cases h : cur = [] <;> simp [piecesA, front, behind, pieces, h]
  | cur, b :: r => by
    unfold front behind
    by_cases hb : b = 47
    · subst hb
      by_cases h : cur = [] <;> simp [piecesA, h, pieces]
    · rw [if_neg hb, if_neg hb, piecesA, if_neg hb, piecesA_step (cur ++ [b]) r]
      simp
theorem pieces_step (l : Bs) : pieces l = (if front l = [] then [] else [front l]) ++ pieces (behind l) := by
  have := piecesA_step [] l
  simpa [pieces] using this
theorem front_noslash : ∀ (l : Bs), (∀ b ∈ l, b ≠ 47) → front l = l ∧ behind l = []
  | [], _ => ⟨rfl, rfl⟩
  | b :: r, h => by
    obtain ⟨h1, h2⟩ := front_noslash r fun c hc => h c (by simp [hc])
    have hb : ¬ b = 47 := h b (by simp)
    simp [front, behind, hb, h1, h2]
theorem front_at : ∀ (l : Bs) (i : Nat), l[i]? = some 47 → (∀ j b, j < i → l[j]? = some b → b ≠ 47) → front l = l.take i ∧ behind l = l.drop (i + 1)
  | [], i, h, _ => by simp at h
  | b :: r, 0, h, _ => by simp at h; subst h; simp [front, behind]
  | b :: r, i + 1, h, hn => by
    have hb : ¬ b = 47 := hn 0 b (by omega) rfl
    obtain ⟨h1, h2⟩ := front_at r i (by simpa using h) fun j c hj hc => hn (j + 1) c (by omega) (by simpa using hc)
    simp [front, behind, hb, h1, h2]

/-- Slices of strings. -/
def sv (x : Bs) : Value := .string ⟨x.toArray⟩
def svs (l : List Bs) : List Value := l.map sv
theorem svs_length (l : List Bs) : (svs l).length = l.length := by simp [svs]
theorem svs_append (l m : List Bs) : svs (l ++ m) = svs l ++ svs m := by simp [svs]
theorem svs_one (l : List Bs) : ∀ u ∈ svs l, u.oneCell' = true := by
  intro u hu
  simp only [svs, List.mem_map] at hu
  obtain ⟨x, _, rfl⟩ := hu
  rfl
theorem svs_get (l : List Bs) (k : Nat) (x : Bs) (h : l[k]? = some x) : (svs l)[k]? = some (sv x) := by simp [svs, h]

theorem block_of_add (a : Addr) (n : Nat) : (a.add n).block = a.block := by unfold Addr.add; split <;> rfl
theorem add_of_add (a : Addr) (i j : Nat) : (a.add i).add j = a.add (i + j) := by
  unfold Addr.add
  by_cases hi : i = 0 <;> by_cases hj : j = 0 <;> simp [hi, hj, Nat.add_assoc]
/-- The slice '.slice A n _' holds the cells xs (one cell each), and lies below block B. -/
def Reads (w : World) (B : Nat) (A : Option Addr) (n : Nat) (xs : List Value) : Prop :=
  xs.length = n ∧ (0 < n → ∃ ad, A = some ad ∧ ad.block < B ∧ ∀ j u, xs[j]? = some u → w.cell? (ad.add j) = some u)
section
variable {w w' : World} {B B' n : Nat} {A : Option Addr} {xs : List Value}
theorem Reads.none_ : Reads w B A 0 [] := ⟨rfl, fun h => absurd h (by omega)⟩
theorem Reads.at_ {k : Nat} (h : Reads w B A n xs) (hk : k < n) : ∃ ad u, A = some ad ∧ ad.block < B ∧ xs[k]? = some u ∧ w.cell? (ad.add k) = some u := by
  obtain ⟨ad, e, hb, hc⟩ := h.2 (by omega)
  have hl : k < xs.length := by have := h.1; omega
  exact ⟨ad, xs[k], e, hb, List.getElem?_eq_getElem hl, hc k _ (List.getElem?_eq_getElem hl)⟩
theorem Reads.keep (h : Reads w B A n xs) (hk : ∀ p : Addr, p.block < B → w'.cell? p = w.cell? p) : Reads w' B A n xs :=
  ⟨h.1, fun hn => by
    obtain ⟨ad, e, hb, hc⟩ := h.2 hn
    exact ⟨ad, e, hb, fun j u hu => (hk _ (by rw [block_of_add]; exact hb)).trans (hc j u hu)⟩⟩
theorem Reads.more (h : Reads w B A n xs) (hB : B ≤ B') : Reads w B' A n xs :=
  ⟨h.1, fun hn => by
    obtain ⟨ad, e, hb, hc⟩ := h.2 hn
    exact ⟨ad, e, by omega, hc⟩⟩
theorem Reads.below (h : Reads w B A n xs) (hb : Below B w w') : Reads w' B A n xs := h.keep fun _ hp => hb.cell hp
theorem Reads.drewN (h : Reads w B A n xs) (k : Nat) : Reads (w.drewN k) B A n xs := h
theorem Reads.alloc (h : Reads w B A n xs) (hB : B ≤ w.heap.size) (o : Obj) : Reads (w.alloc o) B A n xs := h.keep fun p hp => World.cell?_alloc_lt w o p (by omega)
theorem Reads.setCell (h : Reads w B A n xs) {p : Addr} (hB : B ≤ p.block) (u : Value) : Reads (w.setCell p u) B A n xs :=
  h.keep fun q hq => World.cell?_setCell_other w p q u (fun e => by subst e; omega)
theorem Reads.grown (h : Reads w B A n xs) {row : Option Nat} (hg : w.grownBy w' row) (hB : B ≤ w.heap.size) (hr : ∀ g, row = some g → B ≤ g) : Reads w' B A n xs :=
  h.keep fun p hp => World.cell?_of_block (hg.block p.block (by omega) (fun e => by have := hr _ e.symm; omega))
theorem Reads.of_own {base : Nat} {e : TypeId} {c : Nat} (h : w.ownsRow base e 1 (.slice A n c) n xs) : Reads w w.heap.size A n xs := by
  refine ⟨by simpa using h.1, fun hn => ?_⟩
  obtain ⟨g, cap, hv, _, hlt⟩ := h.form hn
  have hA : A = some ⟨g, 0, none⟩ := by injection hv
  subst hA
  exact ⟨_, rfl, hlt, h.cells (g := g) rfl⟩
theorem Reads.str {l : List Bs} {k : Nat} (h : Reads w B A n (svs l)) (hk : k < n) : ∃ ad x, A = some ad ∧ ad.block < B ∧ l[k]? = some x ∧ w.cell? (ad.add k) = some (sv x) := by
  obtain ⟨ad, u, e, hb, hx, hc⟩ := h.at_ hk
  have hl : k < l.length := by have := h.1; rw [svs_length] at this; omega
  refine ⟨ad, l[k], e, hb, List.getElem?_eq_getElem hl, ?_⟩
  rw [svs_get l k l[k] (List.getElem?_eq_getElem hl)] at hx
  injection hx with hx
  rw [hc, ← hx]
theorem Reads.slen {l : List Bs} (h : Reads w B A n (svs l)) : l.length = n := by rw [← h.1, svs_length]
end

theorem scan_prefix {k : Nat} : ∀ {pre xs : List Bs}, pre <+: xs → scan k pre ≠ 0 → scan k xs = scan k pre := by
  intro pre
  induction pre generalizing k with
  | nil => intro xs _ h; exact absurd rfl h
  | cons x r ih =>
    intro xs hp h
    obtain ⟨t, rfl⟩ := hp
    rw [List.cons_append, scan]
    rw [scan] at h
    by_cases h1 : nameE x ≠ 0
    · rw [if_pos h1, scan, if_pos h1]
    · rw [if_neg h1] at h ⊢
      rw [scan, if_neg h1]
      by_cases h2 : k = 16
      · rw [if_pos h2, if_pos h2]
      · rw [if_neg h2] at h ⊢
        rw [if_neg h2]
        exact ih ⟨t, rfl⟩ h
/-- One name more, behind names that were all right. -/
theorem scan_snoc : ∀ (k : Nat) (pre : List Bs) (x : Bs), scan k pre = 0 → scan k (pre ++ [x]) = if nameE x ≠ 0 then nameE x else if k + pre.length = 16 then 26 else 0
  | k, [], x, _ => by simp [scan]
  | k, y :: r, x, h => by
    rw [scan] at h
    rw [List.cons_append, scan]
    by_cases h1 : nameE y ≠ 0
    · rw [if_pos h1] at h; exact absurd h h1
    · rw [if_neg h1] at h ⊢
      by_cases h2 : k = 16
      · rw [if_pos h2] at h; exact absurd h (by decide)
      · rw [if_neg h2] at h ⊢
        rw [scan_snoc (k + 1) r x h]
        simp only [List.length_cons]
        rw [show k + 1 + r.length = k + (r.length + 1) by omega]
theorem scan_len : ∀ (k : Nat) (pre : List Bs), k ≤ 16 → scan k pre = 0 → k + pre.length ≤ 16
  | k, [], hk, _ => by simpa using hk
  | k, y :: r, hk, h => by
    rw [scan] at h
    by_cases h1 : nameE y ≠ 0
    · rw [if_pos h1] at h; exact absurd h h1
    · rw [if_neg h1] at h
      by_cases h2 : k = 16
      · rw [if_pos h2] at h; exact absurd h (by decide)
      · rw [if_neg h2] at h
        have := scan_len (k + 1) r (by omega) h
        simp only [List.length_cons]; omega
end Go.Proofs.Ytblkfiaeifckjaa
