/-
  The contract of New: a shelf of noughts in new memory, or what it refuses.
  Conditions: none.
-/
import Derived.Test.YtbkcdomapdflaaaHv
import Derived.Deep.RegionWith
import Derived.Deep.RegionHeld3
namespace Go.Proofs.Ytbkcdomapdflaaa.Sh
open Go.RowKit Go.Maps

def zeroD : Nat → Value
  | 0 => .slice none 0 0
  | 1 => .slice none 0 0
  | 2 => .map none
  | _ => .bool false
theorem info_disk : (Try.prog.info? 54).map (fun i => (i.zero, i.size, i.bytes)) = some (some (.agg #[.slice none 0 0, .slice none 0 0, .map none, .bool false]), 4, 64) := by kernel_rfl
theorem info_u8 : (Try.prog.info? 5).map (fun i => (i.zero, i.size, i.bytes)) = some (some (.int .u8 0), 1, 1) := by kernel_rfl
theorem noughts_sec : Sec noughts := ⟨by simp [noughts], fun x hx => by rw [List.eq_of_mem_replicate hx]; decide⟩
theorem bts_noughts : bts noughts = List.replicate 128 (.int .u8 0) := by simp [bts, noughts]
theorem noughts_reads {w : World} {g : Nat} (h : w.ownsRow 0 5 1 (.slice (some ⟨g, 0, none⟩) 128 128) 128 (madeCells (Value.int .u8 0).cells (128 * 1)).toList) : Reads w w.heap.size (some ⟨g, 0, none⟩) 128 (bts noughts) := by
  have e : (madeCells (Value.int .u8 0).cells (128 * 1)).toList = bts noughts := by
    rw [bts_noughts]
    exact toList_madeCells_one _ _
  rw [e] at h
  exact Reads.of_own h
theorem own_next {w1 w2 : World} {o : Obj} {base : Nat} {e : TypeId} {size n c : Nat} {xs : List Value} (h : w2.ownsRow base e size (.slice (some ⟨(w1.alloc o).heap.size, 0, none⟩) n c) n xs) : w2.ownsRow base e size (.slice (some ⟨w1.heap.size + 1, 0, none⟩) n c) n xs := by
  have e : (w1.alloc o).heap.size = w1.heap.size + 1 := by simp
  rwa [e] at h
/-- The shelf in the making, when so many disks are laid. -/
structure NewRel (w wr : World) (p D n d j : Nat) (gs : Nat → Gh) : Prop where
  root : wr.heap[p]? = some (.cells #[.bool false, .int .i64 0, .slice (some ⟨D, 0, none⟩) d d, .int .i64 (n : Int), .int .i64 0] 48 (0, 0))
  row : wr.ownsRow 0 54 4 (.slice (some ⟨D, 0, none⟩) d d) d (rowOf (fun i c => if i < j then diskV (gs i) false c else zeroD c) d 4)
  disk : ∀ i, i < j → DiskIs wr n (gs i) (newDk n)
  apart : ∀ a c b, a < j → c < j → a ≠ c → (gs a).has b → ¬ (gs c).has b
  low : ∀ i, i < j → ∀ b, (gs i).has b → w.heap.size ≤ b
  bel : Below w.heap.size w wr
/-- What a Repeat leaves, of one text in a new block. -/
def RepIs (wr : World) (s : ByteArray) (n q : Nat) (w' : World) : Prop :=
  w'.ownsRow 0 9 1 (.slice (some ⟨q, 0, none⟩) n n) n (List.replicate n (.string s)) ∧ Below wr.heap.size wr w' ∧ wr.heap.size ≤ q ∧ q < w'.heap.size
theorem rep_in {wr W : World} {s : ByteArray} {b n q : Nat} (h1 : 1 ≤ n) (hn : n ≤ 4096) (hW : Below wr.heap.size wr W) (hb : b < W.heap.size) (hc : W.cell? ⟨b, 0, none⟩ = some (.string s)) (hq : W.heap.size = q) :
    Calls Try.prog 15 #[.slice (some ⟨b, 0, none⟩) 1 1, .int .i64 n] W fun e w' => e = .returned (.slice (some ⟨q, 0, none⟩) n n) ∧ RepIs wr s n q w' ∧ ∀ k, k < q → w'.heap[k]? = W.heap[k]? := by
  subst hq
  refine (repeat_any W s b n h1 hn hb hc).mono ?_
  rintro e w' ⟨rfl, ho, hb3⟩
  exact ⟨rfl, ⟨ho, hW.trans (hb3.mono hW.size), hW.size, (ho.lt _ rfl).2⟩, hb3.block⟩
theorem repA (wr : World) (s : ByteArray) (n : Nat) (h1 : 1 ≤ n) (hn : n ≤ 4096) :
    Calls Try.prog 15 #[.slice (some ⟨wr.heap.size, 0, none⟩) 1 1, .int .i64 n] (wr.alloc (.cells #[.string s] 9)).drew fun e w' => e = .returned (.slice (some ⟨wr.heap.size + 1, 0, none⟩) n n) ∧ RepIs wr s n (wr.heap.size + 1) w' := by
  refine (rep_in (wr := wr) (s := s) (q := wr.heap.size + 1) h1 hn (((Below.refl _ wr).alloc (Nat.le_refl _) _).drew) (by show wr.heap.size < (wr.alloc _).heap.size; simp) ?_ (by show (wr.alloc _).heap.size = _; simp)).mono fun e w' h => ⟨h.1, h.2.1⟩
  exact cell_of_row _ _ 0 _ _ _ (heap_alloc_new wr (.cells #[.string s] 9))
theorem repB (wr : World) (s : ByteArray) (n : Nat) (h1 : 1 ≤ n) (hn : n ≤ 4096) :
    Calls Try.prog 15 #[.slice (some ⟨wr.heap.size, 0, none⟩) 1 1, .int .i64 n] ((wr.alloc (.cells #[.string s] 9)).alloc (.map #[] 0)).drew fun e w' => e = .returned (.slice (some ⟨wr.heap.size + 2, 0, none⟩) n n) ∧ RepIs wr s n (wr.heap.size + 2) w' ∧ w'.heap[wr.heap.size + 1]? = some (.map #[] 0) := by
  refine (rep_in (wr := wr) (s := s) (q := wr.heap.size + 2) h1 hn ((((Below.refl _ wr).alloc (Nat.le_refl _) _).alloc (by simp) _).drew) (by show wr.heap.size < ((wr.alloc _).alloc _).heap.size; simp; omega) ?_ (by show ((wr.alloc _).alloc _).heap.size = _; simp)).mono fun e w' h => ⟨h.1, h.2.1, (h.2.2 _ (by omega)).trans (heap_alloc2_new wr _ _)⟩
  exact cell_of_row _ _ 0 _ _ _ (heap_alloc2_old wr (.cells #[.string s] 9) (.map #[] 0))
theorem repC (wr : World) (s : ByteArray) (n : Nat) (h1 : 1 ≤ n) (hn : n ≤ 4096) :
    Calls Try.prog 15 #[.slice (some ⟨wr.heap.size + 1, 0, none⟩) 1 1, .int .i64 n] ((wr.alloc (.map #[] 0)).alloc (.cells #[.string s] 9)).drew fun e w' => e = .returned (.slice (some ⟨wr.heap.size + 2, 0, none⟩) n n) ∧ RepIs wr s n (wr.heap.size + 2) w' ∧ w'.heap[wr.heap.size]? = some (.map #[] 0) := by
  refine (rep_in (wr := wr) (s := s) (q := wr.heap.size + 2) h1 hn ((((Below.refl _ wr).alloc (Nat.le_refl _) _).alloc (by simp) _).drew) (by show wr.heap.size + 1 < ((wr.alloc _).alloc _).heap.size; simp) ?_ (by show ((wr.alloc _).alloc _).heap.size = _; simp)).mono fun e w' h => ⟨h.1, h.2.1, (h.2.2 _ (by omega)).trans (heap_alloc2_old wr _ _)⟩
  exact cell_of_row _ _ 0 _ _ _ (heap_alloc2_new wr (.map #[] 0) (.cells #[.string s] 9))
/-- The disk's place in a world that grew out of the loop's. -/
theorem NewRel.facts {w wr w' : World} {p D n d j : Nat} {gs : Nat → Gh} (h : NewRel w wr p D n d j gs) (hb : Below wr.heap.size wr w') (hj : j < d) :
    (w'.cell? ⟨p, 2, none⟩ = some (.slice (some ⟨D, 0, none⟩) d d) ∧ w'.cell? ⟨D, j * 4, none⟩ = some (.slice none 0 0) ∧ w'.cell? ⟨D, j * 4 + 1, none⟩ = some (.slice none 0 0) ∧ w'.cell? ⟨D, j * 4 + 2, none⟩ = some (.map none) ∧ w'.cell? ⟨D, j * 4 + 3, none⟩ = some (.bool false)) ∧
      ∀ i, w'.frozen? ⟨D, i, none⟩ = false := by
  have hD := (h.row.lt D rfl).2
  have hp := lt_of_block h.root
  have c : ∀ c, c < 4 → w'.cell? ⟨D, j * 4 + c, none⟩ = some (zeroD c) := fun c hc => by
    rw [hb.cell (p := ⟨D, j * 4 + c, none⟩) hD, cell_at h.row (rowOf_at _ hj hc), if_neg (Nat.lt_irrefl _)]
  refine ⟨⟨?_, c 0 (by decide), c 1 (by decide), c 2 (by decide), c 3 (by decide)⟩, fun i => ?_⟩
  · rw [hb.cell (p := ⟨p, 2, none⟩) hp]; exact cell_of_row _ _ 2 _ _ _ h.root
  · rw [hb.frozen (p := ⟨D, i, none⟩) hD]; exact h.row.frozenAt i
theorem new_round {w wr w4 : World} {p D n d j q m : Nat} {gs : Nat → Gh} {s : ByteArray} (h : NewRel w wr p D n d j gs) (hs : s = strL noughts) (hj : j < d) (hw : w.heap.size ≤ D) (hpD : p ≠ D) (hb : Below wr.heap.size wr w4)
    (ho : w4.ownsRow 0 9 1 (.slice (some ⟨q, 0, none⟩) n n) n (List.replicate n (.string s))) (hm : w4.heap[m]? = some (.map #[] 0)) (hq : wr.heap.size ≤ q) (hmq : wr.heap.size ≤ m) :
    NewRel w ((((w4.setCell ⟨D, j * 4, none⟩ (.slice (some ⟨q, 0, none⟩) n n)).setCell ⟨D, j * 4 + 1, none⟩ (.slice none 0 0)).setCell ⟨D, j * 4 + 2, none⟩ (.map (some m))).setCell ⟨D, j * 4 + 3, none⟩ (.bool false)) p D n d (j + 1) (upd gs j ⟨.slice (some ⟨q, 0, none⟩) n n, m, .slice none 0 0⟩) := by
  have hD := (h.row.lt D rfl).2
  have hp := lt_of_block h.root
  have hk : ∀ b, b ≠ D → ((((w4.setCell ⟨D, j * 4, none⟩ (.slice (some ⟨q, 0, none⟩) n n)).setCell ⟨D, j * 4 + 1, none⟩ (.slice none 0 0)).setCell ⟨D, j * 4 + 2, none⟩ (.map (some m))).setCell ⟨D, j * 4 + 3, none⟩ (.bool false)).heap[b]? = w4.heap[b]? := by
    intro b hb'
    rw [heap_set_other _ _ _ hb', heap_set_other _ _ _ hb', heap_set_other _ _ _ hb', heap_set_other _ _ _ hb']
  have hr0 : w4.ownsRow 0 54 4 (.slice (some ⟨D, 0, none⟩) d d) d (rowOf (fun i c => if i < j then diskV (gs i) false c else zeroD c) d 4) := same_row h.row fun b hb' => by
    injection hb' with hb'; subst hb'; exact hb.block _ hD
  have hr1 := (((((hr0.stored (j * 4 + 0) (.slice (some ⟨q, 0, none⟩) n n)).1.stored (j * 4 + 1) (.slice none 0 0)).1.stored (j * 4 + 2) (.map (some m))).1).stored (j * 4 + 3) (.bool false)).1
  rw [rowOf_set _ (by decide), rowOf_set _ (by decide), rowOf_set _ (by decide), rowOf_set _ (by decide)] at hr1
  have hbel : Below w.heap.size w ((((w4.setCell ⟨D, j * 4, none⟩ (.slice (some ⟨q, 0, none⟩) n n)).setCell ⟨D, j * 4 + 1, none⟩ (.slice none 0 0)).setCell ⟨D, j * 4 + 2, none⟩ (.map (some m))).setCell ⟨D, j * 4 + 3, none⟩ (.bool false)) := ((((h.bel.trans (hb.mono h.bel.size)).setCell hw _).setCell hw _).setCell hw _).setCell hw _
  have hr2 : ((((w4.setCell ⟨D, j * 4, none⟩ (.slice (some ⟨q, 0, none⟩) n n)).setCell ⟨D, j * 4 + 1, none⟩ (.slice none 0 0)).setCell ⟨D, j * 4 + 2, none⟩ (.map (some m))).setCell ⟨D, j * 4 + 3, none⟩ (.bool false)).ownsRow 0 54 4 (.slice (some ⟨D, 0, none⟩) d d) d _ := hr1
  clear hr1 hr0
  generalize ((((w4.setCell ⟨D, j * 4, none⟩ (.slice (some ⟨q, 0, none⟩) n n)).setCell ⟨D, j * 4 + 1, none⟩ (.slice none 0 0)).setCell ⟨D, j * 4 + 2, none⟩ (.map (some m))).setCell ⟨D, j * 4 + 3, none⟩ (.bool false)) = w5 at *
  have hdk : DiskIs w5 n ⟨.slice (some ⟨q, 0, none⟩) n n, m, .slice none 0 0⟩ (newDk n) := by
    refine ⟨by simp [newDk], ?_, ?_, World.ownsRow_nil _ _ _ _, (fun x hx => by cases hx), ?_⟩
    · refine same_row (w := w4) ?_ (fun b hb' => by injection hb' with hb'; subst hb'; exact hk _ (by show q ≠ D; omega))
      have e : (newDk n).sure.map sv = List.replicate n (.string s) := by simp [newDk, sv, hs]
      rw [e]; exact ho
    · intro b hb'
      rw [List.eq_of_mem_replicate hb']; exact noughts_sec
    · refine MapIs.same (w := w4) ?_ (hk _ (by show m ≠ D; omega))
      exact ⟨.map [], ⟨#[], 0, hm, ⟨by simp, MapKept.stamped_empty 0, by simp⟩, Nat.le_refl _, rfl⟩, fun x => ⟨rfl, fun j h => by cases h⟩⟩
  refine ⟨?_, ?_, ?_, ?_, ?_, ?_⟩
  · exact (hk p hpD).trans ((hb.block p hp).trans h.root)
  · refine Eq.mp ?_ hr2
    congr 1
    refine rowOf_congr (by decide) fun a c _ hc => ?_
    by_cases ea : a = j
    · subst ea
      match c, hc with
      | 0, _ => simp [diskV, upd]
      | 1, _ => simp [diskV, upd]
      | 2, _ => simp [diskV, upd]
      | 3, _ => simp [diskV]
    · by_cases hlt : a < j
      · simp [ea, hlt, upd, show a < j + 1 by omega]
      · simp [ea, hlt, show ¬ a < j + 1 by omega]
  · intro i hi
    by_cases e : i = j
    · subst e
      rw [upd, if_pos rfl]; exact hdk
    · rw [upd, if_neg e]
      have hii : i < j := by omega
      have hdi := h.disk i hii
      refine hdi.same fun b hb' => ?_
      have hbl := hdi.lt hb'
      refine (hk b ?_).trans (hb.block b hbl)
      rintro rfl
      obtain ⟨cur, hcur⟩ := row_type h.row rfl
      rcases hdi.kinds hb' hcur with e | e <;> exact absurd e (by decide)
  · intro a c b ha hc hne hab hcb
    unfold upd at hab hcb
    have hnew : ∀ b, Gh.has ⟨.slice (some ⟨q, 0, none⟩) n n, m, .slice none 0 0⟩ b → wr.heap.size ≤ b := by
      rintro b (e | e | e)
      · injection e with e; subst e; exact hq
      · subst e; exact hmq
      · cases e
    by_cases ea : a = j
    · rw [if_pos ea] at hab
      rw [if_neg (by omega)] at hcb
      have := hnew b hab
      have := (h.disk c (by omega)).lt hcb
      omega
    · rw [if_neg ea] at hab
      by_cases ec : c = j
      · rw [if_pos ec] at hcb
        have := hnew b hcb
        have := (h.disk a (by omega)).lt hab
        omega
      · rw [if_neg ec] at hcb
        exact h.apart a c b (by omega) (by omega) hne hab hcb
  · intro i hi b hb'
    have hsz := h.bel.size
    by_cases e : i = j
    · rw [upd, if_pos e] at hb'
      rcases hb' with e | e | e
      · injection e with e; subst e; exact Nat.le_trans hsz hq
      · subst e; exact Nat.le_trans hsz hmq
      · cases e
    · rw [upd, if_neg e] at hb'
      exact h.low i (by omega) b hb'
  · exact hbel
theorem zero_row (d : Nat) : (madeCells (Value.agg #[.slice none 0 0, .slice none 0 0, .map none, .bool false]).cells (d * 4)).toList = rowOf (fun i c => if i < 0 then diskV ((default : Nat → Gh) i) false c else zeroD c) d 4 := by
  apply List.ext_getElem?
  intro i
  by_cases h : i < d * 4
  · have h4 : i % 4 = 0 ∨ i % 4 = 1 ∨ i % 4 = 2 ∨ i % 4 = 3 := by omega
    rcases h4 with e | e | e | e <;> simp [madeCells, rowOf, Value.cells, h, e, zeroD]
  · simp [madeCells, rowOf, h]
theorem new_start {w w1 w2 : World} {d n : Nat} {o : Obj} (hown1 : w1.ownsRow 0 54 4 (.slice (some ⟨w.heap.size, 0, none⟩) d d) d (madeCells (Value.agg #[.slice none 0 0, .slice none 0 0, .map none, .bool false]).cells (d * 4)).toList) (hgrow1 : w.grownBy w1 none) (hgrow2 : (w1.alloc o).grownBy w2 none)
    (hp2 : w2.heap[w1.heap.size]? = some (.cells #[.bool false, .int .i64 0, .slice (some ⟨w.heap.size, 0, none⟩) d d, .int .i64 (n : Int), .int .i64 0] 48 (0, 0))) : NewRel w w2 w1.heap.size w.heap.size n d 0 default := by
  have hz : (madeCells (Value.agg #[.slice none 0 0, .slice none 0 0, .map none, .bool false]).cells (d * 4)).toList = rowOf (fun i c => if i < 0 then diskV ((default : Nat → Gh) i) false c else zeroD c) d 4 := by
    exact zero_row d
  rw [hz] at hown1
  refine ⟨hp2, (hown1.alloc o).kept hgrow2 (.inr (by simp [Value.ownBlock])), fun i h => absurd h (by omega), fun a c b h => absurd h (by omega), fun i h => absurd h (by omega), ?_⟩
  exact (((Below.refl _ w).grown hgrow1 (Nat.le_refl _) (fun _ h => by cases h)).alloc hgrow1.size o).grown hgrow2 (by simp; have := hgrow1.size; omega) (fun _ h => by cases h)
theorem new_shelf {w wr : World} {p D n d : Nat} {gs : Nat → Gh} (h : NewRel w wr p D n d d gs) (hd1 : 1 ≤ d) (hd : d ≤ 17) (hn1 : 1 ≤ n) (hn : n ≤ 4096) (hpD : p ≠ D) :
    Shelf wr p (newSf d n) (fun b => b = p ∨ b = D ∨ ∃ i, i < d ∧ (gs i).has b) := by
  have hl : (newSf d n).disks.length = d := by simp [newSf]
  refine ⟨D, gs, ?_⟩
  refine ⟨by rw [hl]; exact hd1, by rw [hl]; exact hd, hn1, hn, by simp [newSf], ?_, ?_, ?_, ?_, ?_, ?_⟩
  · rw [hl]; exact h.root
  · rw [hl]
    refine Eq.mp ?_ h.row
    congr 1
    refine rowOf_congr (by decide) fun a c ha _ => ?_
    rw [if_pos ha]
    have e : ((newSf d n).disks.getD a default).dead = false := by simp [newSf, List.getD, ha, newDk]
    rw [e]
  · intro i k hk
    have hi : i < d := by rw [← hl]; exact (List.getElem?_eq_some_iff.1 hk).1
    have e : k = newDk n := by simp [newSf, hi] at hk; exact hk.symm
    subst e
    exact h.disk i hi
  · intro i j b hi hj hne
    rw [hl] at hi hj
    exact h.apart i j b hi hj hne
  · exact ⟨.inl rfl, .inr (.inl rfl), fun i b hi hb => .inr (.inr ⟨i, by rw [← hl]; exact hi, hb⟩)⟩
  · rintro b (rfl | rfl | ⟨i, hi, hb⟩)
    · exact lt_of_block h.root
    · exact (h.row.lt _ rfl).2
    · exact (h.disk i hi).lt hb
theorem new_no (d n : Int) (w : World) (h : d < 1 ∨ (1 ≤ d ∧ 17 < d) ∨ (1 ≤ d ∧ d ≤ 17 ∧ n < 1) ∨ (1 ≤ d ∧ d ≤ 17 ∧ 1 ≤ n ∧ 4096 < n)) :
    Calls Try.prog 4 #[.int .i64 d, .int .i64 n] w fun e w' => e = .returned (.tuple #[.pointer none, .int .i64 1]) ∧ w = w' := by
  rcases h with h | ⟨h, h2⟩ | ⟨h, h2, h3⟩ | ⟨h, h2, h3, h4⟩
  all_goals
    go_enter Try.func4, Try.ntmps4
    go_wp2
    go_ret2
    exact ⟨rfl, rfl⟩
end Go.Proofs.Ytbkcdomapdflaaa.Sh
