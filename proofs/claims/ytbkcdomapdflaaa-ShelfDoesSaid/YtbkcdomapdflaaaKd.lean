/-
  A sector of the definition's surely has other bytes.
  Conditions: the definition's shelf lies in memory.
-/
import Derived.Test.YtbkcdomapdflaaaKc
import Derived.Deep.RegionLaw
namespace Go.Proofs.Ytbkcdomapdflaaa.Sh
open Go.RowKit Go.Maps

def Dk.setSure (k : Dk) (n : Nat) (b : Bs) : Dk := { k with sure := k.sure.set n b }
def Sf.setSure (S : Sf) (d n : Nat) (b : Bs) : Sf := { S with disks := S.disks.set d ((S.disks.getD d default).setSure n b) }
/-- Where a set may write. -/
def rsetF (D : Nat) (g : Gr) (b : Nat) : Prop := b = D ∨ g.a.ownBlock = some b ∨ g.s.ownBlock = some b
/-- What a set leaves. -/
structure RSet (w w' : World) (q D : Nat) (S : Sf) (F : Nat → Prop) (gs : Nat → Gr) (Ls : Nat → List (Nat × Bs)) (st : Bool) (l : Int) (d n : Nat) (b : Bs) (g' : Gr) : Prop where
  is_ : RefIs w' q (S.setSure d n b) (fun b => F b ∨ g'.has b) D (updR gs d g') (updL Ls d (putL (Ls d) n b)) st l
  v : g'.v = (gs d).v
  new : ∀ b, g'.has b → (gs d).has b ∨ w.heap.size ≤ b
  only : Only (rsetF D (gs d)) w w'
theorem rset_end {w w' : World} {q D : Nat} {S : Sf} {F : Nat → Prop} {gs : Nat → Gr} {Ls : Nat → List (Nat × Bs)} {st : Bool} {l : Int} (h : RefIs w q S F D gs Ls st l) {d n : Nat} {b : Bs} (hd : d < S.disks.length) (hn : n < S.sectors) (hb : Sec b) (a s : Value)
    (hO : Only (rsetF D (gs d)) w w')
    (row : w'.ownsRow 0 79 4 (.slice (some ⟨D, 0, none⟩) S.disks.length S.disks.length) S.disks.length (rowOf (fun x c => if x = d then diskR ⟨a, s, (gs d).v⟩ (S.disks.getD d default).dead c else diskR (gs x) (S.disks.getD x default).dead c) S.disks.length 4))
    (at_ : w'.ownsRow 0 3 1 a (putL (Ls d) n b).length (ats (putL (Ls d) n b))) (by_ : w'.ownsRow 0 9 1 s (putL (Ls d) n b).length (bys (putL (Ls d) n b)))
    (na : ∀ b, a.ownBlock = some b → (gs d).a.ownBlock = some b ∨ w.heap.size ≤ b) (ns : ∀ b, s.ownBlock = some b → (gs d).s.ownBlock = some b ∨ w.heap.size ≤ b) :
    RSet w w' q D S F gs Ls st l d n b ⟨a, s, (gs d).v⟩ := by
  have hk := h.disk d hd
  have hnew : ∀ b, (⟨a, s, (gs d).v⟩ : Gr).has b → (gs d).has b ∨ w.heap.size ≤ b := by
    intro b hb
    rcases hb with hb | hb | hb
    · exact (na b hb).imp .inl id
    · exact (ns b hb).imp (fun e => .inr (.inl e)) id
    · exact .inl (.inr (.inr hb))
  have hwt : ∀ b, (gs d).v.ownBlock = some b → w'.heap[b]? = w.heap[b]? := fun b hb => by
    refine hO.block b (hk.waits.lt b hb).2 ?_
    rintro (rfl | e | e)
    · exact h.nD hd (.inr (.inr hb))
    · exact row_ne_row hk.at_ hk.waits (by decide) e hb
    · exact row_ne_row hk.by_ hk.waits (by decide) e hb
  have hlen := hk.len
  have hdisk : RDk w' S.sectors ⟨a, s, (gs d).v⟩ (putL (Ls d) n b) ((S.disks.getD d default).setSure n b) := by
    refine ⟨at_, by_, same_row hk.waits hwt, ?_, ?_, ?_, ?_, hk.fits, ?_⟩
    · show ((S.disks.getD d default).sure.set n b).length = _
      rw [List.length_set]; exact hlen
    · intro m hm
      rw [seek_put]
      show _ = ((S.disks.getD d default).sure.set n b).getD m []
      by_cases e : m = n
      · subst e
        have hlt : m < (S.disks.getD d default).sure.length := by rw [hlen]; exact hm
        rw [if_pos rfl, List.getD, List.getElem?_set_self hlt]
        rfl
      · rw [if_neg e, hk.says m hm]
        simp [List.getD, List.getElem?_set_ne (Ne.symm e)]
    · rw [put_keys]
      split
      · exact hk.keys
      · rename_i hno
        rw [List.nodup_append]
        refine ⟨hk.keys, by simp, fun x hx y hy => ?_⟩
        simp at hy
        subst hy
        rintro rfl
        exact hno hx
    · intro x hx
      rw [put_keys] at hx
      split at hx
      · exact hk.low x hx
      · rcases List.mem_append.1 hx with hx | hx
        · exact hk.low x hx
        · simp at hx; omega
    · intro x hx
      rcases List.mem_or_eq_of_mem_set hx with hx | rfl
      · exact hk.secs x hx
      · exact hb
  have hp := h.pow
  refine ⟨?_, rfl, hnew, hO⟩
  refine h.turned (w' := w') hd ⟨a, s, (gs d).v⟩ (putL (Ls d) n b) ((S.disks.getD d default).setSure n b) S.off S.left S.count st l ⟨hp.st_, hp.l_, hp.off, hp.left, hp.b0, hp.b1⟩ ?_ row hdisk ?_ hO.size hnew
  · refine (hO.block q h.qlt ?_).trans h.root
    rintro (e | e | e)
    · exact h.qD e
    · exact h.nq hd (.inl e)
    · exact h.nq hd (.inr (.inl e))
  · intro b hF h1 h2 h3
    refine hO.block b (h.ltF b hF) ?_
    rintro (e | e | e)
    · exact h2 e
    · exact h3 (.inl e)
    · exact h3 (.inr (.inl e))
theorem cells1_new (w : World) (x : Value) (t : TypeId) : ∀ j u, [x][j]? = some u → (w.alloc (.cells #[x] t)).cell? ((⟨w.heap.size, 0, none⟩ : Addr).add j) = some u := by
  intro j u hu
  match j, hu with
  | 0, hu =>
    have e : (⟨w.heap.size, 0, none⟩ : Addr).add 0 = ⟨w.heap.size, 0, none⟩ := by unfold Addr.add; simp
    rw [e, World.cell?_alloc_at _ _ _ _ rfl]
    simpa using hu
theorem info_int : (Try.prog.info? 3).map (fun i => (i.zero, i.size, i.bytes)) = some (some (.int .i64 0), 1, 8) := by kernel_rfl
theorem info_str2 : (Try.prog.info? 9).map (fun i => (i.zero, i.size, i.bytes)) = some (some (.string ⟨#[]⟩), 1, 16) := by kernel_rfl
theorem ats_set {L : List (Nat × Bs)} {i n : Nat} {b c : Bs} (h : L[i]? = some (n, b)) : ats (L.set i (n, c)) = ats L := by
  unfold ats
  rw [List.map_set]
  apply List.ext_getElem?
  intro j
  rw [List.getElem?_set]
  by_cases e : i = j
  · subst e
    simp [h]
    exact (List.getElem?_eq_some_iff.1 h).1
  · rw [if_neg e]
/-- One more at the end of a row, as a step of a region that draws. -/
theorem step_ints {ops : Array Oper} {o : Oper} {a : Act} {w : World} {K : Act → World → Prop} {Q : Exit → Act → World → Prop} {E : Prop} (hgd : o.guard = none)
    (ho : o.op = .call { callee := .builtin .append, args := #[.tmp 58, .tmp 60], argTypes := #[59, 59] })
    {v u : Value} {n q : Nat} {xs : List Value} (hs : a.eval (.tmp 58) = v) (hx : a.eval (.tmp 60) = .slice (some ⟨q, 0, none⟩) 1 1) (hown : w.ownsRow 0 3 1 v n xs) (hc : w.cell? ⟨q, 0, none⟩ = some u) (h1 : u.oneCell' = true) (hn : n ≤ 4096)
    (h : ∀ g cap w', w'.ownsRow 0 3 1 (.slice (some ⟨g, 0, none⟩) (n + 1) cap) (n + 1) (xs ++ [u]) → w.grownBy w' v.ownBlock → (v.ownBlock = some g ∨ g = w.heap.size) → g < w'.heap.size → K (a.put o.dst (.slice (some ⟨g, 0, none⟩) (n + 1) cap)) w') :
    if Region.wanted o (yielded ops a.tmps) = true then Oper.wp Try.prog o a w K Q else E := by
  obtain ⟨i0, hi, hz0, hz1, hz2⟩ := info_parts info_int
  have hadd : (⟨q, 0, none⟩ : Addr).add 0 = ⟨q, 0, none⟩ := by unfold Addr.add; simp
  exact step_append_lies w hgd (.tmp 58) (.tmp 60) 59 ho 0 3 i0 _ 1 8 Try.underlying59 hi hz0 hz1 hz2 rfl (by decide) v n xs hs hown ⟨q, 0, none⟩ 1 1 [u] hx rfl (fun j y hj => by
    match j, hj with
    | 0, hj => rw [hadd, hc]; exact hj) (fun y hy => by simp at hy; subst hy; exact h1) (by decide) (by unfold maxLen; omega) (by omega) (Nat.zero_le _) _ rfl h
/-- One more at the end of a row, as a step of a region that draws. -/
theorem step_texts {ops : Array Oper} {o : Oper} {a : Act} {w : World} {K : Act → World → Prop} {Q : Exit → Act → World → Prop} {E : Prop} (hgd : o.guard = none)
    (ho : o.op = .call { callee := .builtin .append, args := #[.tmp 76, .tmp 78], argTypes := #[49, 49] })
    {v u : Value} {n q : Nat} {xs : List Value} (hs : a.eval (.tmp 76) = v) (hx : a.eval (.tmp 78) = .slice (some ⟨q, 0, none⟩) 1 1) (hown : w.ownsRow 0 9 1 v n xs) (hc : w.cell? ⟨q, 0, none⟩ = some u) (h1 : u.oneCell' = true) (hn : n ≤ 4096)
    (h : ∀ g cap w', w'.ownsRow 0 9 1 (.slice (some ⟨g, 0, none⟩) (n + 1) cap) (n + 1) (xs ++ [u]) → w.grownBy w' v.ownBlock → (v.ownBlock = some g ∨ g = w.heap.size) → g < w'.heap.size → K (a.put o.dst (.slice (some ⟨g, 0, none⟩) (n + 1) cap)) w') :
    if Region.wanted o (yielded ops a.tmps) = true then Oper.wp Try.prog o a w K Q else E := by
  obtain ⟨i0, hi, hz0, hz1, hz2⟩ := info_parts info_str2
  have hadd : (⟨q, 0, none⟩ : Addr).add 0 = ⟨q, 0, none⟩ := by unfold Addr.add; simp
  exact step_append_lies w hgd (.tmp 76) (.tmp 78) 49 ho 0 9 i0 _ 1 16 Try.underlying49 hi hz0 hz1 hz2 rfl (by decide) v n xs hs hown ⟨q, 0, none⟩ 1 1 [u] hx rfl (fun j y hj => by
    match j, hj with
    | 0, hj => rw [hadd, hc]; exact hj) (fun y hy => by simp at hy; subst hy; exact h1) (by decide) (by unfold maxLen; omega) (by omega) (Nat.zero_le _) _ rfl h
/-- When the number stands behind the others. -/
structure Stage (w W1 : World) (q D d k : Nat) (g : Gr) (L : List (Nat × Bs)) (n : Nat) (B : Option Addr) (cb : Nat) (f : Nat → Nat → Value) (v1 : Value) : Prop where
  c0 : W1.cell? ⟨q, 0, none⟩ = some (.slice (some ⟨D, 0, none⟩) k k)
  c1 : W1.cell? ⟨D, d * 4 + 1, none⟩ = some (.slice B L.length cb)
  f1 : W1.frozen? ⟨D, d * 4 + 1, none⟩ = false
  by_ : W1.ownsRow 0 9 1 (.slice B L.length cb) L.length (bys L)
  at_ : W1.ownsRow 0 3 1 v1 (L.length + 1) (ats L ++ [.int .i64 (n : Int)])
  row : W1.ownsRow 0 79 4 (.slice (some ⟨D, 0, none⟩) k k) k ((rowOf f k 4).set (d * 4) v1)
  only : Only (rsetF D g) w W1
  na : ∀ b, v1.ownBlock = some b → g.a.ownBlock = some b ∨ w.heap.size ≤ b
  ne : ∀ b, v1.ownBlock = some b → b ≠ D ∧ b ≠ q
/-- What stands behind an append whose new slice was made ahead of it. -/
theorem app_block {w W2 : World} {o : Obj} {row : Option Nat} (hg : (w.drew.alloc o).grownBy W2 row) {b : Nat} (hb : b < w.heap.size) (hv : row ≠ some b) : W2.heap[b]? = w.heap[b]? :=
  (hg.block b (by simp; exact Nat.lt_succ_of_lt hb) (fun e => hv e.symm)).trans (Below.heap_alloc w.drew o b hb)
theorem stage_is {w w2 : World} {q D d k g2 cap2 : Nat} {g : Gr} {L : List (Nat × Bs)} {n : Nat} {A B : Option Addr} {ca cb : Nat} {f : Nat → Nat → Value}
    (hgrow : (w.drew.alloc (.cells #[.int .i64 (n : Int)] 3)).grownBy w2 (Value.slice A L.length ca).ownBlock) (hown : w2.ownsRow 0 3 1 (.slice (some ⟨g2, 0, none⟩) (L.length + 1) cap2) (L.length + 1) (ats L ++ [.int .i64 (n : Int)]))
    (hlie : (Value.slice A L.length ca).ownBlock = some g2 ∨ g2 = (w.drew.alloc (.cells #[.int .i64 (n : Int)] 3)).heap.size)
    (hva : g.a = .slice A L.length ca) (hvb : g.s = .slice B L.length cb) (hq : ¬ g.has q) (hD : ¬ g.has D) (hDq : D ≠ q) (hql : q < w.heap.size) (hDl : D < w.heap.size)
    (hab : ∀ x, (Value.slice A L.length ca).ownBlock = some x → (Value.slice B L.length cb).ownBlock ≠ some x)
    (c0 : w.cell? ⟨q, 0, none⟩ = some (.slice (some ⟨D, 0, none⟩) k k)) (c1 : w.cell? ⟨D, d * 4 + 1, none⟩ = some (.slice B L.length cb)) (f1 : w.frozen? ⟨D, d * 4 + 1, none⟩ = false)
    (hby : w.ownsRow 0 9 1 (.slice B L.length cb) L.length (bys L)) (hrow : w.ownsRow 0 79 4 (.slice (some ⟨D, 0, none⟩) k k) k (rowOf f k 4)) :
    Stage w (w2.setCell ⟨D, d * 4, none⟩ (.slice (some ⟨g2, 0, none⟩) (L.length + 1) cap2)) q D d k g L n B cb f (.slice (some ⟨g2, 0, none⟩) (L.length + 1) cap2) := by
  have hAD : (Value.slice A L.length ca).ownBlock ≠ some D := fun e => hD (.inl (by rw [hva]; exact e))
  have hAq : (Value.slice A L.length ca).ownBlock ≠ some q := fun e => hq (.inl (by rw [hva]; exact e))
  have hkD := app_block hgrow hDl hAD
  have hkq := app_block hgrow hql hAq
  have hsz : (w.drew.alloc (.cells #[.int .i64 (n : Int)] 3)).heap.size = w.heap.size + 1 := by simp
  rw [hsz] at hlie
  have hgD : g2 ≠ D := fun e => hlie.elim (fun h => hAD (by rw [h, e])) (fun h => by omega)
  have hgq : g2 ≠ q := fun e => hlie.elim (fun h => hAq (by rw [h, e])) (fun h => by omega)
  have hO2 : Only (rsetF D g) w w2 := ((Only.refl _ w).drew.alloc _).grown hgrow (fun b hb => .inl (.inr (.inl (by rw [hva]; exact hb))))
  have hst := same_row hrow (w' := w2) (fun b hb => by injection hb with hb; subst hb; exact hkD)
  refine ⟨?_, ?_, ?_, ?_, ?_, ?_, ?_, ?_, ?_⟩
  · rw [cell_set_other _ _ _ _ (show q ≠ D from Ne.symm hDq), World.cell?_of_block (w := w) hkq]
    exact c0
  · rw [World.cell?_setCell_other _ _ _ _ (by intro e; injection e with _ e; omega), World.cell?_of_block (w := w) hkD]
    exact c1
  · rw [World.frozen?_setCell, World.frozen?_of_block (w := w) hkD]
    exact f1
  · refine same_row hby fun b hb => (heap_set_other _ _ _ (fun e => hD (.inr (.inl (by rw [hvb, hb, e]))))).trans (app_block hgrow (hby.lt b hb).2 (fun e => hab b e hb))
  · exact same_row hown fun b hb => heap_set_other _ _ _ (by injection hb with hb; subst hb; exact hgD)
  · exact (hst.stored (d * 4) _).1
  · exact hO2.setCell (p := ⟨D, d * 4, none⟩) (.inl (.inl rfl)) _
  · intro b hb
    injection hb with hb
    subst hb
    rcases hlie with h | h
    · exact .inl (by rw [hva]; exact h)
    · exact .inr (by show w.heap.size ≤ g2; omega)
  · intro b hb
    injection hb with hb
    subst hb
    exact ⟨hgD, hgq⟩
/-- And when the bytes do, too. -/
theorem stage_end {w W1 w2 : World} {q D d k g2 cap2 : Nat} {g : Gr} {L : List (Nat × Bs)} {n : Nat} {s : ByteArray} {B : Option Addr} {cb : Nat} {f : Nat → Nat → Value} {v1 : Value} (h : Stage w W1 q D d k g L n B cb f v1)
    (hgrow : (W1.drew.alloc (.cells #[.string s] 9)).grownBy w2 (Value.slice B L.length cb).ownBlock) (hown : w2.ownsRow 0 9 1 (.slice (some ⟨g2, 0, none⟩) (L.length + 1) cap2) (L.length + 1) (bys L ++ [.string s]))
    (hlie : (Value.slice B L.length cb).ownBlock = some g2 ∨ g2 = (W1.drew.alloc (.cells #[.string s] 9)).heap.size)
    (hvb : g.s = .slice B L.length cb) (hD : ¬ g.has D) (hDl : D < w.heap.size) (hdk : d < k) (hf : f d 2 = g.v) (dead : Bool) (hf3 : ∀ c, 3 ≤ c → f d c = .bool dead) :
    Only (rsetF D g) w (w2.setCell ⟨D, d * 4 + 1, none⟩ (.slice (some ⟨g2, 0, none⟩) (L.length + 1) cap2)) ∧
    (w2.setCell ⟨D, d * 4 + 1, none⟩ (.slice (some ⟨g2, 0, none⟩) (L.length + 1) cap2)).ownsRow 0 79 4 (.slice (some ⟨D, 0, none⟩) k k) k (rowOf (fun x c => if x = d then diskR ⟨v1, .slice (some ⟨g2, 0, none⟩) (L.length + 1) cap2, g.v⟩ dead c else f x c) k 4) ∧
    (w2.setCell ⟨D, d * 4 + 1, none⟩ (.slice (some ⟨g2, 0, none⟩) (L.length + 1) cap2)).ownsRow 0 3 1 v1 (L.length + 1) (ats L ++ [.int .i64 (n : Int)]) ∧
    (w2.setCell ⟨D, d * 4 + 1, none⟩ (.slice (some ⟨g2, 0, none⟩) (L.length + 1) cap2)).ownsRow 0 9 1 (.slice (some ⟨g2, 0, none⟩) (L.length + 1) cap2) (L.length + 1) (bys L ++ [.string s]) ∧
    (∀ b, (Value.slice (some ⟨g2, 0, none⟩) (L.length + 1) cap2).ownBlock = some b → g.s.ownBlock = some b ∨ w.heap.size ≤ b) := by
  have hz := h.only.size
  have hBD : (Value.slice B L.length cb).ownBlock ≠ some D := fun e => hD (.inr (.inl (by rw [hvb]; exact e)))
  have hDl1 : D < W1.heap.size := Nat.lt_of_lt_of_le hDl hz
  have hkD := app_block hgrow hDl1 hBD
  have hsz : (W1.drew.alloc (.cells #[.string s] 9)).heap.size = W1.heap.size + 1 := by simp
  rw [hsz] at hlie
  have hgD : g2 ≠ D := fun e => hlie.elim (fun h => hBD (by rw [h, e])) (fun h => by omega)
  have hO2 : Only (rsetF D g) w w2 := (h.only.drew.alloc _).grown hgrow (fun b hb => .inl (.inr (.inr (by rw [hvb]; exact hb))))
  have hst := same_row h.row (w' := w2) (fun b hb => by injection hb with hb; subst hb; exact hkD)
  refine ⟨hO2.setCell (p := ⟨D, d * 4 + 1, none⟩) (.inl (.inl rfl)) _, ?_, ?_, ?_, ?_⟩
  · have e : rowOf (fun x c => if x = d then diskR ⟨v1, .slice (some ⟨g2, 0, none⟩) (L.length + 1) cap2, g.v⟩ dead c else f x c) k 4 = ((rowOf f k 4).set (d * 4) v1).set (d * 4 + 1) (.slice (some ⟨g2, 0, none⟩) (L.length + 1) cap2) := by
      have e0 := rowOf_set f (n := k) (size := 4) (i := d) (c := 0) (by decide) v1
      rw [Nat.add_zero] at e0
      rw [e0, rowOf_set _ (by decide)]
      refine rowOf_congr (by decide) fun x c _ hc => ?_
      by_cases e : x = d
      · subst e
        rw [if_pos rfl]
        match c, hc with
        | 0, _ => simp [diskR]
        | 1, _ => simp [diskR]
        | 2, _ => simp [diskR, hf]
        | 3, _ => simp [diskR, hf3 3 (by decide)]
      · rw [if_neg e, if_neg (fun h => e h.1), if_neg (fun h => e h.1)]
    rw [e]
    exact (hst.stored (d * 4 + 1) _).1
  · refine same_row h.at_ fun b hb => (heap_set_other _ _ _ (h.ne b hb).1).trans (app_block hgrow (h.at_.lt b hb).2 (row_ne_row h.at_ h.by_ (by decide) hb))
  · exact same_row hown fun b hb => heap_set_other _ _ _ (by injection hb with hb; subst hb; exact hgD)
  · intro b hb
    injection hb with hb
    subst hb
    rcases hlie with h | h
    · exact .inl (by rw [hvb]; exact h)
    · exact .inr (by show w.heap.size ≤ g2; omega)
set_option maxRecDepth 20000 in
set_option maxHeartbeats 1600000 in
theorem rset_any {w : World} {q D : Nat} {S : Sf} {F : Nat → Prop} {gs : Nat → Gr} {Ls : Nat → List (Nat × Bs)} {st : Bool} {l : Int} (h : RefIs w q S F D gs Ls st l) (d n : Nat) (b : Bs) (hd : d < S.disks.length) (hn : n < S.sectors) (hb : Sec b) :
    Calls Try.prog 51 #[.pointer (some ⟨q, 0, none⟩), .int .i64 d, .int .i64 n, sv b] w fun e w' => e = .returned (.tuple #[]) ∧ ∃ g', RSet w w' q D S F gs Ls st l d n b g' := by
  obtain ⟨i0, hi, hz0, hz1, hz2⟩ := info_parts info_int
  obtain ⟨i1, ki, kz0, kz1, kz2⟩ := info_parts info_str2
  have HE := Lib.hid (fun w' a s => rset_end (w' := w') h (d := d) (n := n) (b := b) hd hn hb a s)
  have c0 := h.c0
  have k0 := h.dc hd (c := 0) (by decide)
  have k1 := h.dc hd (c := 1) (by decide)
  have f0 := h.dfree (d * 4)
  have f1 := h.dfree (d * 4 + 1)
  have hDq : D ≠ q := Ne.symm h.qD
  have hDl := h.Dlt
  have hql := h.qlt
  have hm := h.most
  have hs := h.secM
  have hk := h.disk d hd
  have hmo := hk.most
  have hat := hk.at_
  have hby := hk.by_
  have hrow := h.row
  have hnq := h.nq hd
  have hnD := h.nD hd
  simp only [diskR, Nat.add_zero] at k0 k1
  obtain ⟨A, ca, hva⟩ := own_shape2 hat
  obtain ⟨B, cb, hvb⟩ := own_shape2 hby
  have HVA := Lib.hid hva
  have HVB := Lib.hid hvb
  have hab : ∀ x, (Value.slice A (Ls d).length ca).ownBlock = some x → (Value.slice B (Ls d).length cb).ownBlock ≠ some x := by
    rw [← hva, ← hvb]; exact fun x hx => row_ne_row hat hby (by decide) hx
  rw [hva] at k0 hat
  rw [hvb] at k1 hby
  have HQ := Lib.hid hnq
  have HD := Lib.hid hnD
  have HROW := Lib.hid hrow
  have HAB := Lib.hid hab
  clear hva hvb hk hnq hnD hrow h hab
  have HB := Lib.hid (show sv b = .string (strL b) from rfl)
  rw [HB.out]
  generalize strL b = s at *
  generalize hL : Ls d = L at *
  generalize hkk : S.disks.length = k at *
  generalize S.sectors = m at *
  go_enter Try.func51, Try.ntmps51
  go_wp2
  go_loopw [8] (fun i wr => ∃ j : Nat, j ≤ L.length ∧ i = .int .i64 j ∧ w = wr ∧ Hid (∀ (c : Nat) x, c < j → L[c]? = some x → x.1 ≠ n)) (fun i _ => L.length - (intOf i).toNat)
  case atStart => exact ⟨0, Nat.zero_le _, rfl, rfl, Lib.hid (fun c x h => absurd h (Nat.not_lt_zero _))⟩
  case round =>
    obtain ⟨j, hj, rfl, rfl, hno⟩ := hrel
    by_cases hlt : j < L.length
    · obtain ⟨n2, b2, hjw⟩ : ∃ n2 b2, L[j]? = some (n2, b2) := ⟨_, _, List.getElem?_eq_getElem hlt⟩
      obtain ⟨ga, cap2, he, hgl, hlc, hcm⟩ := own_form hat (by omega)
      simp only [Value.slice.injEq, true_and] at he
      obtain ⟨rfl, rfl⟩ := he
      obtain ⟨gb, cap3, he, hgl3, hlc3, hcm3⟩ := own_form hby (by omega)
      simp only [Value.slice.injEq, true_and] at he
      obtain ⟨rfl, rfl⟩ := he
      have x0 := cell_at hat (ats_at hjw)
      have x1 := cell_at hby (bys_at hjw)
      have y1 := hby.frozenAt j
      have HJ := Lib.hid hjw
      have HA := Lib.hid hat
      have HY := Lib.hid hby
      clear hat hby hjw
      by_cases hq : n2 = n
      · subst hq
        have hmem : n2 ∈ L.map (·.1) := List.mem_map_of_mem (f := (·.1)) (List.mem_of_getElem? HJ.out)
        have hput : putL L n2 b = L.set j (n2, b) := by
          obtain ⟨i1, b1, e1, e2, e3, e4⟩ := seek_at L n2 hmem
          have : i1 = j := by
            rcases Nat.lt_trichotomy i1 j with h | h | h
            · exact absurd rfl (hno.out i1 _ h e1)
            · exact h
            · exact absurd rfl (e2 j _ h HJ.out)
          rw [e4, this]
        have hend : ∃ g', RSet w (w.setCell ⟨gb, j, none⟩ (.string s)) q D S F gs Ls st l d n2 b g' := by
          have hgD : gb ≠ D := fun e => HD.out (.inr (.inl (by rw [HVB.out, e]; rfl)))
          have hgab : gb ≠ ga := fun e => HAB.out ga rfl (by rw [e]; rfl)
          refine ⟨_, HE.out _ (gs d).a (gs d).s ?_ ?_ ?_ ?_ (fun b hb => .inl hb) (fun b hb => .inl hb)⟩
          · exact Only.setCell (F := rsetF D (gs d)) (p := ⟨gb, j, none⟩) (Only.refl _ _) (.inl (.inr (.inr (by rw [HVB.out]; rfl)))) _
          · have e : rowOf (fun x c => if x = d then diskR ⟨(gs d).a, (gs d).s, (gs d).v⟩ (S.disks.getD d default).dead c else diskR (gs x) (S.disks.getD x default).dead c) k 4 = rowOf (fun i c => diskR (gs i) ((S.disks.getD i default).dead) c) k 4 := by
              refine rowOf_congr (by decide) fun x c _ _ => ?_
              by_cases e : x = d
              · subst e; rw [if_pos rfl]
              · rw [if_neg e]
            rw [e]
            exact same_row HROW.out fun b hb => heap_set_other _ _ _ (by injection hb with hb; subst hb; exact Ne.symm hgD)
          · rw [hput, List.length_set, ats_set HJ.out, HVA.out]
            exact same_row HA.out fun b hb => heap_set_other _ _ _ (by injection hb with hb; subst hb; exact Ne.symm hgab)
          · rw [hput, List.length_set, HVB.out]
            have e : bys (L.set j (n2, b)) = (bys L).set j (.string s) := by unfold bys; rw [List.map_set, HB.out]
            rw [e]
            exact (HY.out.stored j (.string s)).1
        have HEE := Lib.hid hend
        clear hend hno HA HY HE HROW HAB HD HQ HB HVA HVB
        change _ = some (Value.string (strL b2)) at x1
        generalize strL b2 = s2 at *
        go_wp2
        (try simp only [Exit.inBlock, Exit.then])
        refine bodyPost_ret (results_none rfl _ _ _) rfl ?_
        exact ⟨rfl, HEE.out⟩
      · have qd : ((n2 : Int) == (n : Int)) = false := by rw [beq_eq_false_iff_ne]; omega
        clear x1 y1 HE HROW HAB HD HQ HB HVA HVB HA HY
        go_wp2
        go_roundw
        case rel =>
          refine ⟨j + 1, by omega, by go_num, by trivial, Lib.hid (fun c x hc hx => ?_)⟩
          rcases Nat.lt_or_ge c j with h | h
          · exact hno.out c x h hx
          · obtain rfl : c = j := by omega
            rw [HJ.out] at hx
            injection hx with hx
            subst hx
            exact hq
        case measure => simp [intOf]; omega
    · obtain rfl : j = L.length := by omega
      have hput : putL L n b = L ++ [(n, b)] := by
        by_cases hin : n ∈ L.map (·.1)
        · obtain ⟨i1, b1, e1, e2, e3, _⟩ := seek_at L n hin
          exact absurd rfl (hno.out i1 _ (List.getElem?_eq_some_iff.1 e1).1 e1)
        · exact (seek_out L n hin).2.2 b
      clear hno
      have HA := Lib.hid hat
      have HY := Lib.hid hby
      have hAD : (Value.slice A L.length ca).ownBlock ≠ some D := fun e => HD.out (.inl (by rw [HVA.out]; exact e))
      have hAq : (Value.slice A L.length ca).ownBlock ≠ some q := fun e => HQ.out (.inl (by rw [HVA.out]; exact e))
      have hBD : (Value.slice B L.length cb).ownBlock ≠ some D := fun e => HD.out (.inr (.inl (by rw [HVB.out]; exact e)))
      have hBq : (Value.slice B L.length cb).ownBlock ≠ some q := fun e => HQ.out (.inr (.inl (by rw [HVB.out]; exact e)))
      have kA : ∀ W', Below w.heap.size w W' → W'.cell? ⟨q, 0, none⟩ = some (.slice (some ⟨D, 0, none⟩) k k) ∧ W'.cell? ⟨D, d * 4, none⟩ = some (.slice A L.length ca) := fun W' hb => ⟨(hb.cell hql).trans c0, (hb.cell hDl).trans k0⟩
      have q0 : (w.drew.alloc (.cells #[.int .i64 (n : Int)] 3)).cell? ⟨w.heap.size, 0, none⟩ = some (.int .i64 (n : Int)) := cell_of_row _ _ 0 _ _ _ (heap_alloc_new w.drew (.cells #[.int .i64 (n : Int)] 3))
      have q1 : (w.drew.alloc (.cells #[.int .i64 (n : Int)] 3)).ownsRow 0 3 1 (.slice A L.length ca) L.length (ats L) := World.ownsRow.alloc (w := w.drew) HA.out _
      have kB : (w.alloc (.cells #[.int .i64 (n : Int)] 3)).cell? ⟨D, d * 4, none⟩ = some (.slice A L.length ca) := (World.cell?_alloc_lt _ _ ⟨D, d * 4, none⟩ hDl).trans k0
      have hAft1 : ∀ W2 : World, (w.drew.alloc (.cells #[.int .i64 (n : Int)] 3)).grownBy W2 (Value.slice A L.length ca).ownBlock → W2.cell? ⟨q, 0, none⟩ = some (.slice (some ⟨D, 0, none⟩) k k) ∧ W2.cell? ⟨D, d * 4, none⟩ = some (.slice A L.length ca) ∧ W2.frozen? ⟨D, d * 4, none⟩ = false ∧ ∀ v, (W2.setCell ⟨D, d * 4, none⟩ v).cell? ⟨q, 0, none⟩ = some (.slice (some ⟨D, 0, none⟩) k k) := fun W2 hg => by
        have a1 := (World.cell?_of_block (a := ⟨q, 0, none⟩) (app_block hg hql hAq)).trans c0
        have a2 := app_block hg hDl hAD
        exact ⟨a1, (World.cell?_of_block (a := ⟨D, d * 4, none⟩) a2).trans k0, (World.frozen?_of_block (a := ⟨D, d * 4, none⟩) a2).trans f0, fun v => (cell_set_other _ _ _ _ (show q ≠ D from Ne.symm hDq)).trans a1⟩
      have Q0 := Lib.hid q0
      have Q1 := Lib.hid q1
      clear q0 q1
      go_wp2
      refine wp_region_held_drew (S := fun W' => W'.cell? ⟨q, 0, none⟩ = some (.slice (some ⟨D, 0, none⟩) k k)) (by kernel_rfl) (by exact c0) (fun hHeld => ?_)
      refine wpAnyH_take (i := 0) (oi := ⟨some 46, _, _, _, _, _⟩) (v := ?_) rfl (by kernel_rfl) (by kernel_rfl) (by kernel_rfl) (fun _ _ _ h => h) (Or.inl ⟨by rfl, ?_⟩) (by assumption) ?_
      rotate_left
      · (intro w hSw; (try dsimp only at hSw); go_simp; first | done | with_reducible rfl)
      try simp only [Act.put, List.setIfInBounds_toArray, List.set_cons_zero, List.set_cons_succ]
      refine wpAnyH_take (i := 1) (oi := ⟨some 47, _, _, _, _, _⟩) (v := ?_) rfl (by kernel_rfl) (by kernel_rfl) (by kernel_rfl) (fun _ _ _ h => h) (Or.inl ⟨by rfl, ?_⟩) (by assumption) ?_
      rotate_left
      · (intro w hSw; (try dsimp only at hSw); go_simp; first | done | with_reducible rfl)
      try simp only [Act.put, List.setIfInBounds_toArray, List.set_cons_zero, List.set_cons_succ]
      refine wpAnyH_take (i := 2) (oi := ⟨some 48, _, _, _, _, _⟩) (v := ?_) rfl (by kernel_rfl) (by kernel_rfl) (by kernel_rfl) (fun _ _ _ h => h) (Or.inl ⟨by rfl, ?_⟩) (by assumption) ?_
      rotate_left
      · (intro w hSw; (try dsimp only at hSw); go_simp; first | done | with_reducible rfl)
      try simp only [Act.put, List.setIfInBounds_toArray, List.set_cons_zero, List.set_cons_succ]
      refine wpAnyH_take (i := 3) (oi := ⟨some 49, _, _, _, _, _⟩) (v := ?_) rfl (by kernel_rfl) (by kernel_rfl) (by kernel_rfl) (fun _ _ _ h => h) (Or.inl ⟨by rfl, ?_⟩) (by assumption) ?_
      rotate_left
      · (intro w hSw; (try dsimp only at hSw); go_simp; first | done | with_reducible rfl)
      try simp only [Act.put, List.setIfInBounds_toArray, List.set_cons_zero, List.set_cons_succ]
      refine wpAnyH_take (i := 4) (oi := ⟨some 50, _, _, _, _, _⟩) (v := ?_) rfl (by kernel_rfl) (by kernel_rfl) (by kernel_rfl) (fun _ _ _ h => h) (Or.inl ⟨by rfl, ?_⟩) (by assumption) ?_
      rotate_left
      · (intro w hSw; (try dsimp only at hSw); go_simp; first | done | with_reducible rfl)
      try simp only [Act.put, List.setIfInBounds_toArray, List.set_cons_zero, List.set_cons_succ]
      refine wpAnyH_take (i := 5) (oi := ⟨some 51, _, _, _, _, _⟩) (v := ?_) rfl (by kernel_rfl) (by kernel_rfl) (by kernel_rfl) (fun _ _ _ h => h) (Or.inl ⟨by rfl, ?_⟩) (by assumption) ?_
      rotate_left
      · (intro w hSw; (try dsimp only at hSw); go_simp; first | done | with_reducible rfl)
      try simp only [Act.put, List.setIfInBounds_toArray, List.set_cons_zero, List.set_cons_succ]
      refine wpAnyH_take (i := 6) (oi := ⟨some 52, _, _, _, _, _⟩) (v := ?_) rfl (by kernel_rfl) (by kernel_rfl) (by kernel_rfl) (fun _ _ _ h => h) (Or.inl ⟨by rfl, ?_⟩) (by assumption) ?_
      rotate_left
      · (intro w hSw; (try dsimp only at hSw); go_simp; first | done | with_reducible rfl)
      try simp only [Act.put, List.setIfInBounds_toArray, List.set_cons_zero, List.set_cons_succ]
      refine wpAnyH_take (i := 7) (oi := ⟨some 53, _, _, _, _, _⟩) (v := ?_) rfl (by kernel_rfl) (by kernel_rfl) (by kernel_rfl) (fun _ _ _ h => h) (Or.inl ⟨by rfl, ?_⟩) (by assumption) ?_
      rotate_left
      · (intro w hSw; (try dsimp only at hSw); go_simp; first | done | with_reducible rfl)
      try simp only [Act.put, List.setIfInBounds_toArray, List.set_cons_zero, List.set_cons_succ]
      refine wpAnyH_take (i := 8) (oi := ⟨some 54, _, _, _, _, _⟩) (v := ?_) rfl (by kernel_rfl) (by kernel_rfl) (by kernel_rfl) (fun _ _ _ h => h) (Or.inl ⟨by rfl, ?_⟩) (by assumption) ?_
      rotate_left
      · (intro w hSw; (try dsimp only at hSw); go_simp; first | done | with_reducible rfl)
      try simp only [Act.put, List.setIfInBounds_toArray, List.set_cons_zero, List.set_cons_succ]
      refine wpAnyH_take (i := 9) (oi := ⟨some 55, _, _, _, _, _⟩) (v := ?_) rfl (by kernel_rfl) (by kernel_rfl) (by kernel_rfl) (fun _ _ _ h => h) (Or.inl ⟨by rfl, ?_⟩) (by assumption) ?_
      rotate_left
      · (intro w hSw; (try dsimp only at hSw); go_simp; first | done | with_reducible rfl)
      try simp only [Act.put, List.setIfInBounds_toArray, List.set_cons_zero, List.set_cons_succ]
      refine wpAnyH_take (i := 10) (oi := ⟨some 56, _, _, _, _, _⟩) (v := ?_) rfl (by kernel_rfl) (by kernel_rfl) (by kernel_rfl) (fun _ _ _ h => h) (Or.inl ⟨by rfl, ?_⟩) (by assumption) ?_
      rotate_left
      · (intro w hSw; (try dsimp only at hSw); go_simp; first | done | with_reducible rfl)
      try simp only [Act.put, List.setIfInBounds_toArray, List.set_cons_zero, List.set_cons_succ]
      refine wpAnyH_take (i := 11) (oi := ⟨some 57, _, _, _, _, _⟩) (v := ?_) rfl (by kernel_rfl) (by kernel_rfl) (by kernel_rfl) (fun _ _ _ h => h) (Or.inl ⟨by rfl, ?_⟩) (by assumption) ?_
      rotate_left
      · (intro w hSw; (try dsimp only at hSw); go_simp; first | done | with_reducible rfl)
      try simp only [Act.put, List.setIfInBounds_toArray, List.set_cons_zero, List.set_cons_succ]
      refine wpAnyH_take (i := 13) (oi := ⟨some 59, _, _, _, _, _⟩) (v := ?_) rfl (by kernel_rfl) (by kernel_rfl) (by kernel_rfl) (fun _ _ _ h => h) (Or.inl ⟨by rfl, ?_⟩) (by assumption) ?_
      rotate_left
      · (intro w hSw; (try dsimp only at hSw); go_simp; first | done | with_reducible rfl)
      try simp only [Act.put, List.setIfInBounds_toArray, List.set_cons_zero, List.set_cons_succ]
      refine wpAnyH_ready (rs := [12, 14]) (by kernel_rfl) (by simp) ?_
      refine AllReadyH.cons (o := ⟨some 58, _, _, _, _, _⟩) rfl (fun K hK => ?_) (AllReadyH.cons (o := ⟨some 60, _, _, _, _, _⟩) rfl (fun K hK => ?_) AllReadyH.nil)
      · go_simp
        refine hK.out _ _ (by exact c0) (fun hHeld => ?_)
        clear hK K
        try simp only [Act.put, List.setIfInBounds_toArray, List.set_cons_zero, List.set_cons_succ]
        refine wpAnyH_ready (rs := [14]) (by kernel_rfl) (by simp) ?_
        refine AllReadyH.cons (o := ⟨some 60, _, _, _, _, _⟩) rfl (fun K hK => ?_) AllReadyH.nil
        go_simp
        refine hK.out _ _ (by exact (World.cell?_alloc_lt _ _ ⟨q, 0, none⟩ (by first | exact hql | exact hql1)).trans c0) (fun hHeld => ?_)
        clear hK K
        try simp only [Act.put, List.setIfInBounds_toArray, List.set_cons_zero, List.set_cons_succ]
        refine wpAnyH_ready (rs := [15]) (by kernel_rfl) (by simp) ?_
        refine AllReadyH.cons (o := ⟨some 61, _, _, _, _, _⟩) rfl (fun K hK => ?_) AllReadyH.nil
        refine step_ints (v := .slice A L.length ca) (xs := ats L) (u := .int .i64 (n : Int)) (q := w.heap.size) rfl rfl rfl rfl Q1.out Q0.out rfl (by omega) ?_
        intro g2 cap2 w2 hown2 hgrow2 hlie2 hg2
        have z2 := hAft1 w2 hgrow2
        refine hK.out _ _ (z2.1) (fun hHeld => ?_)
        clear hK K
        try simp only [Act.put, List.setIfInBounds_toArray, List.set_cons_zero, List.set_cons_succ]
        refine wpAnyH_take (i := 16) (oi := ⟨some 62, _, _, _, _, _⟩) (v := ?_) rfl (by kernel_rfl) (by kernel_rfl) (by kernel_rfl) (fun _ _ _ h => h) (Or.inl ⟨by rfl, ?_⟩) (by assumption) ?_
        rotate_left
        · (intro w hSw; (try dsimp only at hSw); go_simp; first | done | with_reducible rfl)
        try simp only [Act.put, List.setIfInBounds_toArray, List.set_cons_zero, List.set_cons_succ]
        refine wpAnyH_take (i := 17) (oi := ⟨some 63, _, _, _, _, _⟩) (v := ?_) rfl (by kernel_rfl) (by kernel_rfl) (by kernel_rfl) (fun _ _ _ h => h) (Or.inl ⟨by rfl, ?_⟩) (by assumption) ?_
        rotate_left
        · (intro w hSw; (try dsimp only at hSw); go_simp; first | done | with_reducible rfl)
        try simp only [Act.put, List.setIfInBounds_toArray, List.set_cons_zero, List.set_cons_succ]
        refine wpAnyH_ready (rs := [18]) (by kernel_rfl) (by simp) ?_
        refine AllReadyH.cons (o := ⟨none, _, _, _, _, _⟩) rfl (fun K hK => ?_) AllReadyH.nil
        have z3 := z2.2.1
        have z4 := z2.2.2.1
        go_simp
        refine hK.out _ _ (z2.2.2.2 _) (fun hHeld => ?_)
        clear hK K
        try simp only [Act.put, List.setIfInBounds_toArray, List.set_cons_zero, List.set_cons_succ]
        refine wpAnyH_done (by kernel_rfl) ?_ _
        clear hHeld z2 z3 z4
        have hT := Lib.hid (stage_is hgrow2 hown2 hlie2 HVA.out HVB.out HQ.out HD.out hDq hql hDl HAB.out c0 k1 f1 HY.out HROW.out)
        have hql1 : q < (w2.setCell ⟨D, d * 4, none⟩ (.slice (some ⟨g2, 0, none⟩) (L.length + 1) cap2)).heap.size := block_lt_of_cell hT.out.c0
        clear hown2 hgrow2 hlie2
        go_wp2
        generalize w2.setCell ⟨D, d * 4, none⟩ (.slice (some ⟨g2, 0, none⟩) (L.length + 1) cap2) = W1 at *
        generalize (Value.slice (some ⟨g2, 0, none⟩) (L.length + 1) cap2) = v1 at *
        have m0 := hT.out.c0
        have m1 := hT.out.c1
        have m2 := hT.out.f1
        have mB : (W1.alloc (.cells #[.string s] 9)).cell? ⟨D, d * 4 + 1, none⟩ = some (.slice B L.length cb) := (World.cell?_alloc_lt _ _ ⟨D, d * 4 + 1, none⟩ (block_lt_of_cell m1)).trans m1
        have q2 : (W1.drew.alloc (.cells #[.string s] 9)).cell? ⟨W1.heap.size, 0, none⟩ = some (.string s) := cell_of_row _ _ 0 _ _ _ (heap_alloc_new W1.drew (.cells #[.string s] 9))
        have q3 : (W1.drew.alloc (.cells #[.string s] 9)).ownsRow 0 9 1 (.slice B L.length cb) L.length (bys L) := World.ownsRow.alloc (w := W1.drew) hT.out.by_ _
        have hAft2 : ∀ W2 : World, (W1.drew.alloc (.cells #[.string s] 9)).grownBy W2 (Value.slice B L.length cb).ownBlock → W2.cell? ⟨q, 0, none⟩ = some (.slice (some ⟨D, 0, none⟩) k k) ∧ W2.cell? ⟨D, d * 4 + 1, none⟩ = some (.slice B L.length cb) ∧ W2.frozen? ⟨D, d * 4 + 1, none⟩ = false ∧ ∀ v, (W2.setCell ⟨D, d * 4 + 1, none⟩ v).cell? ⟨q, 0, none⟩ = some (.slice (some ⟨D, 0, none⟩) k k) := fun W2 hg => by
          have a1 := (World.cell?_of_block (a := ⟨q, 0, none⟩) (app_block hg hql1 hBq)).trans m0
          have a2 := app_block hg (block_lt_of_cell m1) hBD
          exact ⟨a1, (World.cell?_of_block (a := ⟨D, d * 4 + 1, none⟩) a2).trans m1, (World.frozen?_of_block (a := ⟨D, d * 4 + 1, none⟩) a2).trans m2, fun v => (cell_set_other _ _ _ _ (show q ≠ D from Ne.symm hDq)).trans a1⟩
        have Q2 := Lib.hid q2
        have Q3 := Lib.hid q3
        clear q2 q3
        refine wp_region_held_drew (S := fun W' => W'.cell? ⟨q, 0, none⟩ = some (.slice (some ⟨D, 0, none⟩) k k)) (by kernel_rfl) (by exact hT.out.c0) (fun hHeld => ?_)
        refine wpAnyH_take (i := 0) (oi := ⟨some 64, _, _, _, _, _⟩) (v := ?_) rfl (by kernel_rfl) (by kernel_rfl) (by kernel_rfl) (fun _ _ _ h => h) (Or.inl ⟨by rfl, ?_⟩) (by assumption) ?_
        rotate_left
        · (intro w hSw; (try dsimp only at hSw); go_simp; first | done | with_reducible rfl)
        try simp only [Act.put, List.setIfInBounds_toArray, List.set_cons_zero, List.set_cons_succ]
        refine wpAnyH_take (i := 1) (oi := ⟨some 65, _, _, _, _, _⟩) (v := ?_) rfl (by kernel_rfl) (by kernel_rfl) (by kernel_rfl) (fun _ _ _ h => h) (Or.inl ⟨by rfl, ?_⟩) (by assumption) ?_
        rotate_left
        · (intro w hSw; (try dsimp only at hSw); go_simp; first | done | with_reducible rfl)
        try simp only [Act.put, List.setIfInBounds_toArray, List.set_cons_zero, List.set_cons_succ]
        refine wpAnyH_take (i := 2) (oi := ⟨some 66, _, _, _, _, _⟩) (v := ?_) rfl (by kernel_rfl) (by kernel_rfl) (by kernel_rfl) (fun _ _ _ h => h) (Or.inl ⟨by rfl, ?_⟩) (by assumption) ?_
        rotate_left
        · (intro w hSw; (try dsimp only at hSw); go_simp; first | done | with_reducible rfl)
        try simp only [Act.put, List.setIfInBounds_toArray, List.set_cons_zero, List.set_cons_succ]
        refine wpAnyH_take (i := 3) (oi := ⟨some 67, _, _, _, _, _⟩) (v := ?_) rfl (by kernel_rfl) (by kernel_rfl) (by kernel_rfl) (fun _ _ _ h => h) (Or.inl ⟨by rfl, ?_⟩) (by assumption) ?_
        rotate_left
        · (intro w hSw; (try dsimp only at hSw); go_simp; first | done | with_reducible rfl)
        try simp only [Act.put, List.setIfInBounds_toArray, List.set_cons_zero, List.set_cons_succ]
        refine wpAnyH_take (i := 4) (oi := ⟨some 68, _, _, _, _, _⟩) (v := ?_) rfl (by kernel_rfl) (by kernel_rfl) (by kernel_rfl) (fun _ _ _ h => h) (Or.inl ⟨by rfl, ?_⟩) (by assumption) ?_
        rotate_left
        · (intro w hSw; (try dsimp only at hSw); go_simp; first | done | with_reducible rfl)
        try simp only [Act.put, List.setIfInBounds_toArray, List.set_cons_zero, List.set_cons_succ]
        refine wpAnyH_take (i := 5) (oi := ⟨some 69, _, _, _, _, _⟩) (v := ?_) rfl (by kernel_rfl) (by kernel_rfl) (by kernel_rfl) (fun _ _ _ h => h) (Or.inl ⟨by rfl, ?_⟩) (by assumption) ?_
        rotate_left
        · (intro w hSw; (try dsimp only at hSw); go_simp; first | done | with_reducible rfl)
        try simp only [Act.put, List.setIfInBounds_toArray, List.set_cons_zero, List.set_cons_succ]
        refine wpAnyH_take (i := 6) (oi := ⟨some 70, _, _, _, _, _⟩) (v := ?_) rfl (by kernel_rfl) (by kernel_rfl) (by kernel_rfl) (fun _ _ _ h => h) (Or.inl ⟨by rfl, ?_⟩) (by assumption) ?_
        rotate_left
        · (intro w hSw; (try dsimp only at hSw); go_simp; first | done | with_reducible rfl)
        try simp only [Act.put, List.setIfInBounds_toArray, List.set_cons_zero, List.set_cons_succ]
        refine wpAnyH_take (i := 7) (oi := ⟨some 71, _, _, _, _, _⟩) (v := ?_) rfl (by kernel_rfl) (by kernel_rfl) (by kernel_rfl) (fun _ _ _ h => h) (Or.inl ⟨by rfl, ?_⟩) (by assumption) ?_
        rotate_left
        · (intro w hSw; (try dsimp only at hSw); go_simp; first | done | with_reducible rfl)
        try simp only [Act.put, List.setIfInBounds_toArray, List.set_cons_zero, List.set_cons_succ]
        refine wpAnyH_take (i := 8) (oi := ⟨some 72, _, _, _, _, _⟩) (v := ?_) rfl (by kernel_rfl) (by kernel_rfl) (by kernel_rfl) (fun _ _ _ h => h) (Or.inl ⟨by rfl, ?_⟩) (by assumption) ?_
        rotate_left
        · (intro w hSw; (try dsimp only at hSw); go_simp; first | done | with_reducible rfl)
        try simp only [Act.put, List.setIfInBounds_toArray, List.set_cons_zero, List.set_cons_succ]
        refine wpAnyH_take (i := 9) (oi := ⟨some 73, _, _, _, _, _⟩) (v := ?_) rfl (by kernel_rfl) (by kernel_rfl) (by kernel_rfl) (fun _ _ _ h => h) (Or.inl ⟨by rfl, ?_⟩) (by assumption) ?_
        rotate_left
        · (intro w hSw; (try dsimp only at hSw); go_simp; first | done | with_reducible rfl)
        try simp only [Act.put, List.setIfInBounds_toArray, List.set_cons_zero, List.set_cons_succ]
        refine wpAnyH_take (i := 10) (oi := ⟨some 74, _, _, _, _, _⟩) (v := ?_) rfl (by kernel_rfl) (by kernel_rfl) (by kernel_rfl) (fun _ _ _ h => h) (Or.inl ⟨by rfl, ?_⟩) (by assumption) ?_
        rotate_left
        · (intro w hSw; (try dsimp only at hSw); go_simp; first | done | with_reducible rfl)
        try simp only [Act.put, List.setIfInBounds_toArray, List.set_cons_zero, List.set_cons_succ]
        refine wpAnyH_take (i := 11) (oi := ⟨some 75, _, _, _, _, _⟩) (v := ?_) rfl (by kernel_rfl) (by kernel_rfl) (by kernel_rfl) (fun _ _ _ h => h) (Or.inl ⟨by rfl, ?_⟩) (by assumption) ?_
        rotate_left
        · (intro w hSw; (try dsimp only at hSw); go_simp; first | done | with_reducible rfl)
        try simp only [Act.put, List.setIfInBounds_toArray, List.set_cons_zero, List.set_cons_succ]
        refine wpAnyH_take (i := 13) (oi := ⟨some 77, _, _, _, _, _⟩) (v := ?_) rfl (by kernel_rfl) (by kernel_rfl) (by kernel_rfl) (fun _ _ _ h => h) (Or.inl ⟨by rfl, ?_⟩) (by assumption) ?_
        rotate_left
        · (intro w hSw; (try dsimp only at hSw); go_simp; first | done | with_reducible rfl)
        try simp only [Act.put, List.setIfInBounds_toArray, List.set_cons_zero, List.set_cons_succ]
        refine wpAnyH_ready (rs := [12, 14]) (by kernel_rfl) (by simp) ?_
        refine AllReadyH.cons (o := ⟨some 76, _, _, _, _, _⟩) rfl (fun K hK => ?_) (AllReadyH.cons (o := ⟨some 78, _, _, _, _, _⟩) rfl (fun K hK => ?_) AllReadyH.nil)
        · go_simp
          refine hK.out _ _ (by exact hT.out.c0) (fun hHeld => ?_)
          clear hK K
          try simp only [Act.put, List.setIfInBounds_toArray, List.set_cons_zero, List.set_cons_succ]
          refine wpAnyH_ready (rs := [14]) (by kernel_rfl) (by simp) ?_
          refine AllReadyH.cons (o := ⟨some 78, _, _, _, _, _⟩) rfl (fun K hK => ?_) AllReadyH.nil
          go_simp
          refine hK.out _ _ (by exact (World.cell?_alloc_lt _ _ ⟨q, 0, none⟩ (by first | exact hql | exact hql1)).trans hT.out.c0) (fun hHeld => ?_)
          clear hK K
          try simp only [Act.put, List.setIfInBounds_toArray, List.set_cons_zero, List.set_cons_succ]
          refine wpAnyH_ready (rs := [15]) (by kernel_rfl) (by simp) ?_
          refine AllReadyH.cons (o := ⟨some 79, _, _, _, _, _⟩) rfl (fun K hK => ?_) AllReadyH.nil
          refine step_texts (v := .slice B L.length cb) (xs := bys L) (u := .string s) (q := W1.heap.size) rfl rfl rfl rfl Q3.out Q2.out rfl (by omega) ?_
          intro g2 cap2 w2 hown2 hgrow2 hlie2 hg2
          have z2 := hAft2 w2 hgrow2
          refine hK.out _ _ (z2.1) (fun hHeld => ?_)
          clear hK K
          try simp only [Act.put, List.setIfInBounds_toArray, List.set_cons_zero, List.set_cons_succ]
          refine wpAnyH_take (i := 16) (oi := ⟨some 80, _, _, _, _, _⟩) (v := ?_) rfl (by kernel_rfl) (by kernel_rfl) (by kernel_rfl) (fun _ _ _ h => h) (Or.inl ⟨by rfl, ?_⟩) (by assumption) ?_
          rotate_left
          · (intro w hSw; (try dsimp only at hSw); go_simp; first | done | with_reducible rfl)
          try simp only [Act.put, List.setIfInBounds_toArray, List.set_cons_zero, List.set_cons_succ]
          refine wpAnyH_take (i := 17) (oi := ⟨some 81, _, _, _, _, _⟩) (v := ?_) rfl (by kernel_rfl) (by kernel_rfl) (by kernel_rfl) (fun _ _ _ h => h) (Or.inl ⟨by rfl, ?_⟩) (by assumption) ?_
          rotate_left
          · (intro w hSw; (try dsimp only at hSw); go_simp; first | done | with_reducible rfl)
          try simp only [Act.put, List.setIfInBounds_toArray, List.set_cons_zero, List.set_cons_succ]
          refine wpAnyH_ready (rs := [18]) (by kernel_rfl) (by simp) ?_
          refine AllReadyH.cons (o := ⟨none, _, _, _, _, _⟩) rfl (fun K hK => ?_) AllReadyH.nil
          have z3 := z2.2.1
          have z4 := z2.2.2.1
          go_simp
          refine hK.out _ _ (z2.2.2.2 _) (fun hHeld => ?_)
          clear hK K
          try simp only [Act.put, List.setIfInBounds_toArray, List.set_cons_zero, List.set_cons_succ]
          refine wpAnyH_done (by kernel_rfl) ?_ _
          clear hHeld z2 z3 z4
          obtain ⟨e1, e2, e3, e4, e5⟩ := stage_end hT.out hgrow2 hown2 hlie2 HVB.out HD.out hDl hd rfl (S.disks.getD d default).dead (fun c hc => by match c, hc with | 3, _ => rfl | (c + 4), _ => rfl)
          have HEE := Lib.hid (HE.out _ _ _ e1 (by exact e2) (by rw [hput, List.length_append]; show World.ownsRow _ _ _ _ _ _ _; rw [show ats (L ++ [(n, b)]) = ats L ++ [.int .i64 (n : Int)] by simp [ats]]; exact e3) (by rw [hput, List.length_append, show bys (L ++ [(n, b)]) = bys L ++ [.string s] by simp [bys, HB.out]]; exact e4) hT.out.na e5)
          clear e1 e2 e3 e4 e5 hown2 hgrow2 hlie2
          go_wp2
          go_end0
          exact ⟨rfl, _, HEE.out⟩
        · go_simp
          refine hK.out _ _ (by exact (World.cell?_alloc_lt _ _ ⟨q, 0, none⟩ (by first | exact hql | exact hql1)).trans hT.out.c0) (fun hHeld => ?_)
          clear hK K
          try simp only [Act.put, List.setIfInBounds_toArray, List.set_cons_zero, List.set_cons_succ]
          refine wpAnyH_ready (rs := [12]) (by kernel_rfl) (by simp) ?_
          refine AllReadyH.cons (o := ⟨some 76, _, _, _, _, _⟩) rfl (fun K hK => ?_) AllReadyH.nil
          go_simp
          refine hK.out _ _ (by exact (World.cell?_alloc_lt _ _ ⟨q, 0, none⟩ (by first | exact hql | exact hql1)).trans hT.out.c0) (fun hHeld => ?_)
          clear hK K
          try simp only [Act.put, List.setIfInBounds_toArray, List.set_cons_zero, List.set_cons_succ]
          refine wpAnyH_ready (rs := [15]) (by kernel_rfl) (by simp) ?_
          refine AllReadyH.cons (o := ⟨some 79, _, _, _, _, _⟩) rfl (fun K hK => ?_) AllReadyH.nil
          refine step_texts (v := .slice B L.length cb) (xs := bys L) (u := .string s) (q := W1.heap.size) rfl rfl rfl rfl Q3.out Q2.out rfl (by omega) ?_
          intro g2 cap2 w2 hown2 hgrow2 hlie2 hg2
          have z2 := hAft2 w2 hgrow2
          refine hK.out _ _ (z2.1) (fun hHeld => ?_)
          clear hK K
          try simp only [Act.put, List.setIfInBounds_toArray, List.set_cons_zero, List.set_cons_succ]
          refine wpAnyH_take (i := 16) (oi := ⟨some 80, _, _, _, _, _⟩) (v := ?_) rfl (by kernel_rfl) (by kernel_rfl) (by kernel_rfl) (fun _ _ _ h => h) (Or.inl ⟨by rfl, ?_⟩) (by assumption) ?_
          rotate_left
          · (intro w hSw; (try dsimp only at hSw); go_simp; first | done | with_reducible rfl)
          try simp only [Act.put, List.setIfInBounds_toArray, List.set_cons_zero, List.set_cons_succ]
          refine wpAnyH_take (i := 17) (oi := ⟨some 81, _, _, _, _, _⟩) (v := ?_) rfl (by kernel_rfl) (by kernel_rfl) (by kernel_rfl) (fun _ _ _ h => h) (Or.inl ⟨by rfl, ?_⟩) (by assumption) ?_
          rotate_left
          · (intro w hSw; (try dsimp only at hSw); go_simp; first | done | with_reducible rfl)
          try simp only [Act.put, List.setIfInBounds_toArray, List.set_cons_zero, List.set_cons_succ]
          refine wpAnyH_ready (rs := [18]) (by kernel_rfl) (by simp) ?_
          refine AllReadyH.cons (o := ⟨none, _, _, _, _, _⟩) rfl (fun K hK => ?_) AllReadyH.nil
          have z3 := z2.2.1
          have z4 := z2.2.2.1
          go_simp
          refine hK.out _ _ (z2.2.2.2 _) (fun hHeld => ?_)
          clear hK K
          try simp only [Act.put, List.setIfInBounds_toArray, List.set_cons_zero, List.set_cons_succ]
          refine wpAnyH_done (by kernel_rfl) ?_ _
          clear hHeld z2 z3 z4
          obtain ⟨e1, e2, e3, e4, e5⟩ := stage_end hT.out hgrow2 hown2 hlie2 HVB.out HD.out hDl hd rfl (S.disks.getD d default).dead (fun c hc => by match c, hc with | 3, _ => rfl | (c + 4), _ => rfl)
          have HEE := Lib.hid (HE.out _ _ _ e1 (by exact e2) (by rw [hput, List.length_append]; show World.ownsRow _ _ _ _ _ _ _; rw [show ats (L ++ [(n, b)]) = ats L ++ [.int .i64 (n : Int)] by simp [ats]]; exact e3) (by rw [hput, List.length_append, show bys (L ++ [(n, b)]) = bys L ++ [.string s] by simp [bys, HB.out]]; exact e4) hT.out.na e5)
          clear e1 e2 e3 e4 e5 hown2 hgrow2 hlie2
          go_wp2
          go_end0
          exact ⟨rfl, _, HEE.out⟩
      · go_simp
        refine hK.out _ _ (by exact (World.cell?_alloc_lt _ _ ⟨q, 0, none⟩ (by first | exact hql | exact hql1)).trans c0) (fun hHeld => ?_)
        clear hK K
        try simp only [Act.put, List.setIfInBounds_toArray, List.set_cons_zero, List.set_cons_succ]
        refine wpAnyH_ready (rs := [12]) (by kernel_rfl) (by simp) ?_
        refine AllReadyH.cons (o := ⟨some 58, _, _, _, _, _⟩) rfl (fun K hK => ?_) AllReadyH.nil
        go_simp
        refine hK.out _ _ (by exact (World.cell?_alloc_lt _ _ ⟨q, 0, none⟩ (by first | exact hql | exact hql1)).trans c0) (fun hHeld => ?_)
        clear hK K
        try simp only [Act.put, List.setIfInBounds_toArray, List.set_cons_zero, List.set_cons_succ]
        refine wpAnyH_ready (rs := [15]) (by kernel_rfl) (by simp) ?_
        refine AllReadyH.cons (o := ⟨some 61, _, _, _, _, _⟩) rfl (fun K hK => ?_) AllReadyH.nil
        refine step_ints (v := .slice A L.length ca) (xs := ats L) (u := .int .i64 (n : Int)) (q := w.heap.size) rfl rfl rfl rfl Q1.out Q0.out rfl (by omega) ?_
        intro g2 cap2 w2 hown2 hgrow2 hlie2 hg2
        have z2 := hAft1 w2 hgrow2
        refine hK.out _ _ (z2.1) (fun hHeld => ?_)
        clear hK K
        try simp only [Act.put, List.setIfInBounds_toArray, List.set_cons_zero, List.set_cons_succ]
        refine wpAnyH_take (i := 16) (oi := ⟨some 62, _, _, _, _, _⟩) (v := ?_) rfl (by kernel_rfl) (by kernel_rfl) (by kernel_rfl) (fun _ _ _ h => h) (Or.inl ⟨by rfl, ?_⟩) (by assumption) ?_
        rotate_left
        · (intro w hSw; (try dsimp only at hSw); go_simp; first | done | with_reducible rfl)
        try simp only [Act.put, List.setIfInBounds_toArray, List.set_cons_zero, List.set_cons_succ]
        refine wpAnyH_take (i := 17) (oi := ⟨some 63, _, _, _, _, _⟩) (v := ?_) rfl (by kernel_rfl) (by kernel_rfl) (by kernel_rfl) (fun _ _ _ h => h) (Or.inl ⟨by rfl, ?_⟩) (by assumption) ?_
        rotate_left
        · (intro w hSw; (try dsimp only at hSw); go_simp; first | done | with_reducible rfl)
        try simp only [Act.put, List.setIfInBounds_toArray, List.set_cons_zero, List.set_cons_succ]
        refine wpAnyH_ready (rs := [18]) (by kernel_rfl) (by simp) ?_
        refine AllReadyH.cons (o := ⟨none, _, _, _, _, _⟩) rfl (fun K hK => ?_) AllReadyH.nil
        have z3 := z2.2.1
        have z4 := z2.2.2.1
        go_simp
        refine hK.out _ _ (z2.2.2.2 _) (fun hHeld => ?_)
        clear hK K
        try simp only [Act.put, List.setIfInBounds_toArray, List.set_cons_zero, List.set_cons_succ]
        refine wpAnyH_done (by kernel_rfl) ?_ _
        clear hHeld z2 z3 z4
        have hT := Lib.hid (stage_is hgrow2 hown2 hlie2 HVA.out HVB.out HQ.out HD.out hDq hql hDl HAB.out c0 k1 f1 HY.out HROW.out)
        have hql1 : q < (w2.setCell ⟨D, d * 4, none⟩ (.slice (some ⟨g2, 0, none⟩) (L.length + 1) cap2)).heap.size := block_lt_of_cell hT.out.c0
        clear hown2 hgrow2 hlie2
        go_wp2
        generalize w2.setCell ⟨D, d * 4, none⟩ (.slice (some ⟨g2, 0, none⟩) (L.length + 1) cap2) = W1 at *
        generalize (Value.slice (some ⟨g2, 0, none⟩) (L.length + 1) cap2) = v1 at *
        have m0 := hT.out.c0
        have m1 := hT.out.c1
        have m2 := hT.out.f1
        have mB : (W1.alloc (.cells #[.string s] 9)).cell? ⟨D, d * 4 + 1, none⟩ = some (.slice B L.length cb) := (World.cell?_alloc_lt _ _ ⟨D, d * 4 + 1, none⟩ (block_lt_of_cell m1)).trans m1
        have q2 : (W1.drew.alloc (.cells #[.string s] 9)).cell? ⟨W1.heap.size, 0, none⟩ = some (.string s) := cell_of_row _ _ 0 _ _ _ (heap_alloc_new W1.drew (.cells #[.string s] 9))
        have q3 : (W1.drew.alloc (.cells #[.string s] 9)).ownsRow 0 9 1 (.slice B L.length cb) L.length (bys L) := World.ownsRow.alloc (w := W1.drew) hT.out.by_ _
        have hAft2 : ∀ W2 : World, (W1.drew.alloc (.cells #[.string s] 9)).grownBy W2 (Value.slice B L.length cb).ownBlock → W2.cell? ⟨q, 0, none⟩ = some (.slice (some ⟨D, 0, none⟩) k k) ∧ W2.cell? ⟨D, d * 4 + 1, none⟩ = some (.slice B L.length cb) ∧ W2.frozen? ⟨D, d * 4 + 1, none⟩ = false ∧ ∀ v, (W2.setCell ⟨D, d * 4 + 1, none⟩ v).cell? ⟨q, 0, none⟩ = some (.slice (some ⟨D, 0, none⟩) k k) := fun W2 hg => by
          have a1 := (World.cell?_of_block (a := ⟨q, 0, none⟩) (app_block hg hql1 hBq)).trans m0
          have a2 := app_block hg (block_lt_of_cell m1) hBD
          exact ⟨a1, (World.cell?_of_block (a := ⟨D, d * 4 + 1, none⟩) a2).trans m1, (World.frozen?_of_block (a := ⟨D, d * 4 + 1, none⟩) a2).trans m2, fun v => (cell_set_other _ _ _ _ (show q ≠ D from Ne.symm hDq)).trans a1⟩
        have Q2 := Lib.hid q2
        have Q3 := Lib.hid q3
        clear q2 q3
        refine wp_region_held_drew (S := fun W' => W'.cell? ⟨q, 0, none⟩ = some (.slice (some ⟨D, 0, none⟩) k k)) (by kernel_rfl) (by exact hT.out.c0) (fun hHeld => ?_)
        refine wpAnyH_take (i := 0) (oi := ⟨some 64, _, _, _, _, _⟩) (v := ?_) rfl (by kernel_rfl) (by kernel_rfl) (by kernel_rfl) (fun _ _ _ h => h) (Or.inl ⟨by rfl, ?_⟩) (by assumption) ?_
        rotate_left
        · (intro w hSw; (try dsimp only at hSw); go_simp; first | done | with_reducible rfl)
        try simp only [Act.put, List.setIfInBounds_toArray, List.set_cons_zero, List.set_cons_succ]
        refine wpAnyH_take (i := 1) (oi := ⟨some 65, _, _, _, _, _⟩) (v := ?_) rfl (by kernel_rfl) (by kernel_rfl) (by kernel_rfl) (fun _ _ _ h => h) (Or.inl ⟨by rfl, ?_⟩) (by assumption) ?_
        rotate_left
        · (intro w hSw; (try dsimp only at hSw); go_simp; first | done | with_reducible rfl)
        try simp only [Act.put, List.setIfInBounds_toArray, List.set_cons_zero, List.set_cons_succ]
        refine wpAnyH_take (i := 2) (oi := ⟨some 66, _, _, _, _, _⟩) (v := ?_) rfl (by kernel_rfl) (by kernel_rfl) (by kernel_rfl) (fun _ _ _ h => h) (Or.inl ⟨by rfl, ?_⟩) (by assumption) ?_
        rotate_left
        · (intro w hSw; (try dsimp only at hSw); go_simp; first | done | with_reducible rfl)
        try simp only [Act.put, List.setIfInBounds_toArray, List.set_cons_zero, List.set_cons_succ]
        refine wpAnyH_take (i := 3) (oi := ⟨some 67, _, _, _, _, _⟩) (v := ?_) rfl (by kernel_rfl) (by kernel_rfl) (by kernel_rfl) (fun _ _ _ h => h) (Or.inl ⟨by rfl, ?_⟩) (by assumption) ?_
        rotate_left
        · (intro w hSw; (try dsimp only at hSw); go_simp; first | done | with_reducible rfl)
        try simp only [Act.put, List.setIfInBounds_toArray, List.set_cons_zero, List.set_cons_succ]
        refine wpAnyH_take (i := 4) (oi := ⟨some 68, _, _, _, _, _⟩) (v := ?_) rfl (by kernel_rfl) (by kernel_rfl) (by kernel_rfl) (fun _ _ _ h => h) (Or.inl ⟨by rfl, ?_⟩) (by assumption) ?_
        rotate_left
        · (intro w hSw; (try dsimp only at hSw); go_simp; first | done | with_reducible rfl)
        try simp only [Act.put, List.setIfInBounds_toArray, List.set_cons_zero, List.set_cons_succ]
        refine wpAnyH_take (i := 5) (oi := ⟨some 69, _, _, _, _, _⟩) (v := ?_) rfl (by kernel_rfl) (by kernel_rfl) (by kernel_rfl) (fun _ _ _ h => h) (Or.inl ⟨by rfl, ?_⟩) (by assumption) ?_
        rotate_left
        · (intro w hSw; (try dsimp only at hSw); go_simp; first | done | with_reducible rfl)
        try simp only [Act.put, List.setIfInBounds_toArray, List.set_cons_zero, List.set_cons_succ]
        refine wpAnyH_take (i := 6) (oi := ⟨some 70, _, _, _, _, _⟩) (v := ?_) rfl (by kernel_rfl) (by kernel_rfl) (by kernel_rfl) (fun _ _ _ h => h) (Or.inl ⟨by rfl, ?_⟩) (by assumption) ?_
        rotate_left
        · (intro w hSw; (try dsimp only at hSw); go_simp; first | done | with_reducible rfl)
        try simp only [Act.put, List.setIfInBounds_toArray, List.set_cons_zero, List.set_cons_succ]
        refine wpAnyH_take (i := 7) (oi := ⟨some 71, _, _, _, _, _⟩) (v := ?_) rfl (by kernel_rfl) (by kernel_rfl) (by kernel_rfl) (fun _ _ _ h => h) (Or.inl ⟨by rfl, ?_⟩) (by assumption) ?_
        rotate_left
        · (intro w hSw; (try dsimp only at hSw); go_simp; first | done | with_reducible rfl)
        try simp only [Act.put, List.setIfInBounds_toArray, List.set_cons_zero, List.set_cons_succ]
        refine wpAnyH_take (i := 8) (oi := ⟨some 72, _, _, _, _, _⟩) (v := ?_) rfl (by kernel_rfl) (by kernel_rfl) (by kernel_rfl) (fun _ _ _ h => h) (Or.inl ⟨by rfl, ?_⟩) (by assumption) ?_
        rotate_left
        · (intro w hSw; (try dsimp only at hSw); go_simp; first | done | with_reducible rfl)
        try simp only [Act.put, List.setIfInBounds_toArray, List.set_cons_zero, List.set_cons_succ]
        refine wpAnyH_take (i := 9) (oi := ⟨some 73, _, _, _, _, _⟩) (v := ?_) rfl (by kernel_rfl) (by kernel_rfl) (by kernel_rfl) (fun _ _ _ h => h) (Or.inl ⟨by rfl, ?_⟩) (by assumption) ?_
        rotate_left
        · (intro w hSw; (try dsimp only at hSw); go_simp; first | done | with_reducible rfl)
        try simp only [Act.put, List.setIfInBounds_toArray, List.set_cons_zero, List.set_cons_succ]
        refine wpAnyH_take (i := 10) (oi := ⟨some 74, _, _, _, _, _⟩) (v := ?_) rfl (by kernel_rfl) (by kernel_rfl) (by kernel_rfl) (fun _ _ _ h => h) (Or.inl ⟨by rfl, ?_⟩) (by assumption) ?_
        rotate_left
        · (intro w hSw; (try dsimp only at hSw); go_simp; first | done | with_reducible rfl)
        try simp only [Act.put, List.setIfInBounds_toArray, List.set_cons_zero, List.set_cons_succ]
        refine wpAnyH_take (i := 11) (oi := ⟨some 75, _, _, _, _, _⟩) (v := ?_) rfl (by kernel_rfl) (by kernel_rfl) (by kernel_rfl) (fun _ _ _ h => h) (Or.inl ⟨by rfl, ?_⟩) (by assumption) ?_
        rotate_left
        · (intro w hSw; (try dsimp only at hSw); go_simp; first | done | with_reducible rfl)
        try simp only [Act.put, List.setIfInBounds_toArray, List.set_cons_zero, List.set_cons_succ]
        refine wpAnyH_take (i := 13) (oi := ⟨some 77, _, _, _, _, _⟩) (v := ?_) rfl (by kernel_rfl) (by kernel_rfl) (by kernel_rfl) (fun _ _ _ h => h) (Or.inl ⟨by rfl, ?_⟩) (by assumption) ?_
        rotate_left
        · (intro w hSw; (try dsimp only at hSw); go_simp; first | done | with_reducible rfl)
        try simp only [Act.put, List.setIfInBounds_toArray, List.set_cons_zero, List.set_cons_succ]
        refine wpAnyH_ready (rs := [12, 14]) (by kernel_rfl) (by simp) ?_
        refine AllReadyH.cons (o := ⟨some 76, _, _, _, _, _⟩) rfl (fun K hK => ?_) (AllReadyH.cons (o := ⟨some 78, _, _, _, _, _⟩) rfl (fun K hK => ?_) AllReadyH.nil)
        · go_simp
          refine hK.out _ _ (by exact hT.out.c0) (fun hHeld => ?_)
          clear hK K
          try simp only [Act.put, List.setIfInBounds_toArray, List.set_cons_zero, List.set_cons_succ]
          refine wpAnyH_ready (rs := [14]) (by kernel_rfl) (by simp) ?_
          refine AllReadyH.cons (o := ⟨some 78, _, _, _, _, _⟩) rfl (fun K hK => ?_) AllReadyH.nil
          go_simp
          refine hK.out _ _ (by exact (World.cell?_alloc_lt _ _ ⟨q, 0, none⟩ (by first | exact hql | exact hql1)).trans hT.out.c0) (fun hHeld => ?_)
          clear hK K
          try simp only [Act.put, List.setIfInBounds_toArray, List.set_cons_zero, List.set_cons_succ]
          refine wpAnyH_ready (rs := [15]) (by kernel_rfl) (by simp) ?_
          refine AllReadyH.cons (o := ⟨some 79, _, _, _, _, _⟩) rfl (fun K hK => ?_) AllReadyH.nil
          refine step_texts (v := .slice B L.length cb) (xs := bys L) (u := .string s) (q := W1.heap.size) rfl rfl rfl rfl Q3.out Q2.out rfl (by omega) ?_
          intro g2 cap2 w2 hown2 hgrow2 hlie2 hg2
          have z2 := hAft2 w2 hgrow2
          refine hK.out _ _ (z2.1) (fun hHeld => ?_)
          clear hK K
          try simp only [Act.put, List.setIfInBounds_toArray, List.set_cons_zero, List.set_cons_succ]
          refine wpAnyH_take (i := 16) (oi := ⟨some 80, _, _, _, _, _⟩) (v := ?_) rfl (by kernel_rfl) (by kernel_rfl) (by kernel_rfl) (fun _ _ _ h => h) (Or.inl ⟨by rfl, ?_⟩) (by assumption) ?_
          rotate_left
          · (intro w hSw; (try dsimp only at hSw); go_simp; first | done | with_reducible rfl)
          try simp only [Act.put, List.setIfInBounds_toArray, List.set_cons_zero, List.set_cons_succ]
          refine wpAnyH_take (i := 17) (oi := ⟨some 81, _, _, _, _, _⟩) (v := ?_) rfl (by kernel_rfl) (by kernel_rfl) (by kernel_rfl) (fun _ _ _ h => h) (Or.inl ⟨by rfl, ?_⟩) (by assumption) ?_
          rotate_left
          · (intro w hSw; (try dsimp only at hSw); go_simp; first | done | with_reducible rfl)
          try simp only [Act.put, List.setIfInBounds_toArray, List.set_cons_zero, List.set_cons_succ]
          refine wpAnyH_ready (rs := [18]) (by kernel_rfl) (by simp) ?_
          refine AllReadyH.cons (o := ⟨none, _, _, _, _, _⟩) rfl (fun K hK => ?_) AllReadyH.nil
          have z3 := z2.2.1
          have z4 := z2.2.2.1
          go_simp
          refine hK.out _ _ (z2.2.2.2 _) (fun hHeld => ?_)
          clear hK K
          try simp only [Act.put, List.setIfInBounds_toArray, List.set_cons_zero, List.set_cons_succ]
          refine wpAnyH_done (by kernel_rfl) ?_ _
          clear hHeld z2 z3 z4
          obtain ⟨e1, e2, e3, e4, e5⟩ := stage_end hT.out hgrow2 hown2 hlie2 HVB.out HD.out hDl hd rfl (S.disks.getD d default).dead (fun c hc => by match c, hc with | 3, _ => rfl | (c + 4), _ => rfl)
          have HEE := Lib.hid (HE.out _ _ _ e1 (by exact e2) (by rw [hput, List.length_append]; show World.ownsRow _ _ _ _ _ _ _; rw [show ats (L ++ [(n, b)]) = ats L ++ [.int .i64 (n : Int)] by simp [ats]]; exact e3) (by rw [hput, List.length_append, show bys (L ++ [(n, b)]) = bys L ++ [.string s] by simp [bys, HB.out]]; exact e4) hT.out.na e5)
          clear e1 e2 e3 e4 e5 hown2 hgrow2 hlie2
          go_wp2
          go_end0
          exact ⟨rfl, _, HEE.out⟩
        · go_simp
          refine hK.out _ _ (by exact (World.cell?_alloc_lt _ _ ⟨q, 0, none⟩ (by first | exact hql | exact hql1)).trans hT.out.c0) (fun hHeld => ?_)
          clear hK K
          try simp only [Act.put, List.setIfInBounds_toArray, List.set_cons_zero, List.set_cons_succ]
          refine wpAnyH_ready (rs := [12]) (by kernel_rfl) (by simp) ?_
          refine AllReadyH.cons (o := ⟨some 76, _, _, _, _, _⟩) rfl (fun K hK => ?_) AllReadyH.nil
          go_simp
          refine hK.out _ _ (by exact (World.cell?_alloc_lt _ _ ⟨q, 0, none⟩ (by first | exact hql | exact hql1)).trans hT.out.c0) (fun hHeld => ?_)
          clear hK K
          try simp only [Act.put, List.setIfInBounds_toArray, List.set_cons_zero, List.set_cons_succ]
          refine wpAnyH_ready (rs := [15]) (by kernel_rfl) (by simp) ?_
          refine AllReadyH.cons (o := ⟨some 79, _, _, _, _, _⟩) rfl (fun K hK => ?_) AllReadyH.nil
          refine step_texts (v := .slice B L.length cb) (xs := bys L) (u := .string s) (q := W1.heap.size) rfl rfl rfl rfl Q3.out Q2.out rfl (by omega) ?_
          intro g2 cap2 w2 hown2 hgrow2 hlie2 hg2
          have z2 := hAft2 w2 hgrow2
          refine hK.out _ _ (z2.1) (fun hHeld => ?_)
          clear hK K
          try simp only [Act.put, List.setIfInBounds_toArray, List.set_cons_zero, List.set_cons_succ]
          refine wpAnyH_take (i := 16) (oi := ⟨some 80, _, _, _, _, _⟩) (v := ?_) rfl (by kernel_rfl) (by kernel_rfl) (by kernel_rfl) (fun _ _ _ h => h) (Or.inl ⟨by rfl, ?_⟩) (by assumption) ?_
          rotate_left
          · (intro w hSw; (try dsimp only at hSw); go_simp; first | done | with_reducible rfl)
          try simp only [Act.put, List.setIfInBounds_toArray, List.set_cons_zero, List.set_cons_succ]
          refine wpAnyH_take (i := 17) (oi := ⟨some 81, _, _, _, _, _⟩) (v := ?_) rfl (by kernel_rfl) (by kernel_rfl) (by kernel_rfl) (fun _ _ _ h => h) (Or.inl ⟨by rfl, ?_⟩) (by assumption) ?_
          rotate_left
          · (intro w hSw; (try dsimp only at hSw); go_simp; first | done | with_reducible rfl)
          try simp only [Act.put, List.setIfInBounds_toArray, List.set_cons_zero, List.set_cons_succ]
          refine wpAnyH_ready (rs := [18]) (by kernel_rfl) (by simp) ?_
          refine AllReadyH.cons (o := ⟨none, _, _, _, _, _⟩) rfl (fun K hK => ?_) AllReadyH.nil
          have z3 := z2.2.1
          have z4 := z2.2.2.1
          go_simp
          refine hK.out _ _ (z2.2.2.2 _) (fun hHeld => ?_)
          clear hK K
          try simp only [Act.put, List.setIfInBounds_toArray, List.set_cons_zero, List.set_cons_succ]
          refine wpAnyH_done (by kernel_rfl) ?_ _
          clear hHeld z2 z3 z4
          obtain ⟨e1, e2, e3, e4, e5⟩ := stage_end hT.out hgrow2 hown2 hlie2 HVB.out HD.out hDl hd rfl (S.disks.getD d default).dead (fun c hc => by match c, hc with | 3, _ => rfl | (c + 4), _ => rfl)
          have HEE := Lib.hid (HE.out _ _ _ e1 (by exact e2) (by rw [hput, List.length_append]; show World.ownsRow _ _ _ _ _ _ _; rw [show ats (L ++ [(n, b)]) = ats L ++ [.int .i64 (n : Int)] by simp [ats]]; exact e3) (by rw [hput, List.length_append, show bys (L ++ [(n, b)]) = bys L ++ [.string s] by simp [bys, HB.out]]; exact e4) hT.out.na e5)
          clear e1 e2 e3 e4 e5 hown2 hgrow2 hlie2
          go_wp2
          go_end0
          exact ⟨rfl, _, HEE.out⟩
end Go.Proofs.Ytbkcdomapdflaaa.Sh
