/-
  The definition's Write, done; what is left when a disk's waiting row is another one.
  Conditions: the definition's shelf lies in memory.
-/
import Derived.Test.YtbkcdomapdflaaaKf
namespace Go.Proofs.Ytbkcdomapdflaaa.Sh
open Go.RowKit Go.Maps

theorem row_waits {w2 : World} {D d k : Nat} {g : Gr} {gs : Nat → Gr} {dead : Nat → Bool} {v' : Value} (hd : gs d = g)
    (h : w2.ownsRow 0 79 4 (.slice (some ⟨D, 0, none⟩) k k) k (rowOf (fun i c => diskR (gs i) (dead i) c) k 4)) :
    (w2.setCell ⟨D, d * 4 + 2, none⟩ v').ownsRow 0 79 4 (.slice (some ⟨D, 0, none⟩) k k) k (rowOf (fun x c => if x = d then diskR ⟨g.a, g.s, v'⟩ (dead d) c else diskR (gs x) (dead x) c) k 4) := by
  have h1 := (h.stored (d * 4 + 2) v').1
  rw [rowOf_set _ (by decide)] at h1
  have e : rowOf (fun x c => if x = d then diskR ⟨g.a, g.s, v'⟩ (dead d) c else diskR (gs x) (dead x) c) k 4 = rowOf (fun a b => if a = d ∧ b = 2 then v' else diskR (gs a) (dead a) b) k 4 := by
    refine rowOf_congr (by decide) fun x c _ hc => ?_
    by_cases e : x = d
    · subst e
      rw [if_pos rfl]
      match c, hc with
      | 0, _ => simp [diskR, hd]
      | 1, _ => simp [diskR, hd]
      | 2, _ => simp [diskR]
      | 3, _ => simp [diskR]
    · rw [if_neg e, if_neg (fun h => e h.1)]
  rw [e]
  exact h1
def Dk.setWaits (k : Dk) (W : List (Nat × Bs)) : Dk := { k with waits := W }
theorem rwaits_end {w w2 : World} {q D : Nat} {S : Sf} {F : Nat → Prop} {gs : Nat → Gr} {Ls : Nat → List (Nat × Bs)} {st : Bool} {l : Int} (h : RefIs w q S F D gs Ls st l) {d : Nat} (hd : d < S.disks.length) (v' : Value) (W : List (Nat × Bs))
    (hO : Only (fun b => (gs d).v.ownBlock = some b) w w2) (hW : (w2.setCell ⟨D, d * 4 + 2, none⟩ v').ownsRow 0 92 2 v' W.length (flat W)) (hf : ∀ x ∈ W, x.1 < S.sectors ∧ Sec x.2) (hn : ∀ b, v'.ownBlock = some b → (gs d).v.ownBlock = some b ∨ w.heap.size ≤ b) :
    RefIs (w2.setCell ⟨D, d * 4 + 2, none⟩ v') q { S with disks := S.disks.set d ((S.disks.getD d default).setWaits W) } (fun b => F b ∨ (⟨(gs d).a, (gs d).s, v'⟩ : Gr).has b) D (updR gs d ⟨(gs d).a, (gs d).s, v'⟩) (updL Ls d (Ls d)) st l ∧
    Only F w (w2.setCell ⟨D, d * 4 + 2, none⟩ v') ∧ ∀ b, (⟨(gs d).a, (gs d).s, v'⟩ : Gr).has b → (gs d).has b ∨ w.heap.size ≤ b := by
  have hk := h.disk d hd
  have hvD : (gs d).v.ownBlock ≠ some D := fun e => h.nD hd (.inr (.inr e))
  have hvq : (gs d).v.ownBlock ≠ some q := fun e => h.nq hd (.inr (.inr e))
  have hsame : ∀ b, b < w.heap.size → b ≠ D → (gs d).v.ownBlock ≠ some b → (w2.setCell ⟨D, d * 4 + 2, none⟩ v').heap[b]? = w.heap[b]? := fun b hb h1 h2 => (heap_set_other _ _ _ h1).trans (hO.block b hb h2)
  have hnew : ∀ b, (⟨(gs d).a, (gs d).s, v'⟩ : Gr).has b → (gs d).has b ∨ w.heap.size ≤ b := by
    rintro b (hb | hb | hb)
    · exact .inl (.inl hb)
    · exact .inl (.inr (.inl hb))
    · exact (hn b hb).imp (fun e => .inr (.inr e)) id
  have hrow := row_waits (v' := v') (g := gs d) (gs := gs) (d := d) (dead := fun i => (S.disks.getD i default).dead) rfl (same_row h.row (w' := w2) fun b hb => by injection hb with hb; subst hb; exact hO.block _ h.Dlt hvD)
  have hO2 : Only F w (w2.setCell ⟨D, d * 4 + 2, none⟩ v') := Only.setCell (p := ⟨D, d * 4 + 2, none⟩) (hO.mono fun b hb => h.inF.2.2 d b hd (.inr (.inr hb))) (.inl h.inF.2.1) _
  have hdk : RDk (w2.setCell ⟨D, d * 4 + 2, none⟩ v') S.sectors ⟨(gs d).a, (gs d).s, v'⟩ (Ls d) ((S.disks.getD d default).setWaits W) := by
    refine ⟨same_row hk.at_ fun b hb => hsame b (hk.at_.lt b hb).2 (fun e => h.nD hd (.inl (by rw [hb, e]))) (row_ne_row hk.at_ hk.waits (by decide) hb), same_row hk.by_ fun b hb => hsame b (hk.by_.lt b hb).2 (fun e => h.nD hd (.inr (.inl (by rw [hb, e])))) (row_ne_row hk.by_ hk.waits (by decide) hb), hW, hk.len, hk.says, hk.keys, hk.low, hf, hk.secs⟩
  refine ⟨?_, hO2, hnew⟩
  exact h.turned hd ⟨(gs d).a, (gs d).s, v'⟩ (Ls d) ((S.disks.getD d default).setWaits W) S.off S.left S.count st l (h.pow.same rfl rfl) ((hsame q h.qlt h.qD hvq).trans h.root) hrow hdk (fun b hb _ h2 h3 => hsame b (h.ltF b hb) h2 (fun e => h3 (.inr (.inr e)))) hO2.size hnew
theorem info_rwrite : (Try.prog.info? 92).map (fun i => (i.zero, i.size, i.bytes)) = some (some (.agg #[.int .i64 0, .string ⟨#[]⟩]), 2, 24) := by kernel_rfl
theorem step_writes {ops : Array Oper} {o : Oper} {a : Act} {w : World} {K : Act → World → Prop} {Q : Exit → Act → World → Prop} {E : Prop} (hgd : o.guard = none)
    (ho : o.op = .call { callee := .builtin .append, args := #[.tmp 40, .tmp 44], argTypes := #[77, 77] })
    {v : Value} {n q x : Nat} {s : ByteArray} {xs : List Value} (hs : a.eval (.tmp 40) = v) (hx : a.eval (.tmp 44) = .slice (some ⟨q, 0, none⟩) 1 1) (hown : w.ownsRow 0 92 2 v n xs)
    (hc : ∀ j u, [Value.int .i64 (x : Int), .string s][j]? = some u → w.cell? ((⟨q, 0, none⟩ : Addr).add j) = some u) (hn : n < 4398046511104)
    (h : ∀ g cap w', w'.ownsRow 0 92 2 (.slice (some ⟨g, 0, none⟩) (n + 1) cap) (n + 1) (xs ++ [.int .i64 (x : Int), .string s]) → w.grownBy w' v.ownBlock → (v.ownBlock = some g ∨ g = w.heap.size) → g < w'.heap.size → K (a.put o.dst (.slice (some ⟨g, 0, none⟩) (n + 1) cap)) w') :
    if Region.wanted o (yielded ops a.tmps) = true then Oper.wp Try.prog o a w K Q else E := by
  obtain ⟨i0, hi, hz0, hz1, hz2⟩ := info_parts info_rwrite
  exact step_append_lies w hgd (.tmp 40) (.tmp 44) 77 ho 0 92 i0 _ 2 24 Try.underlying77 hi hz0 hz1 hz2 rfl (by decide) v n xs hs hown ⟨q, 0, none⟩ 1 1 [.int .i64 (x : Int), .string s] hx rfl hc (one2 _ _) (by decide) (by unfold maxLen; omega) (by omega) (Nat.zero_le _) _ rfl h
theorem write_left {w w1 w2 : World} {q D d n g2 cap2 : Nat} {S : Sf} {F : Nat → Prop} {gs : Nat → Gr} {Ls : Nat → List (Nat × Bs)} {st : Bool} {l : Int} {b : Bs} {s : ByteArray} {A : Option Addr} {ca : Nat} {W : List (Nat × Bs)}
    (h1 : RefIs w1 q { disks := S.disks, sectors := S.sectors, count := wrap64 (S.count + 1), off := offAt S.left S.off, left := S.left - 1 } F D gs Ls st l) (hd : d < S.disks.length) (hF : F q) (hO1 : Only (fun b => b = q) w w1)
    (hW : (S.disks.getD d default).waits = W) (hva : (gs d).v = .slice A W.length ca) (hb : Sec b) (hn : n < S.sectors) (hs : sv b = .string s) (hfit : ∀ x ∈ W, x.1 < S.sectors ∧ Sec x.2) (hvD : (Value.slice A W.length ca).ownBlock ≠ some D)
    (hgrow : (w1.drew.alloc (.cells #[.int .i64 (n : Int), .string s] 92)).grownBy w2 (Value.slice A W.length ca).ownBlock)
    (hown : w2.ownsRow 0 92 2 (.slice (some ⟨g2, 0, none⟩) (W.length + 1) cap2) (W.length + 1) (flat W ++ [.int .i64 (n : Int), .string s]))
    (hlie : (Value.slice A W.length ca).ownBlock = some g2 ∨ g2 = (w1.drew.alloc (.cells #[.int .i64 (n : Int), .string s] 92)).heap.size) :
    RLeft F w q (S.doWrite d n b) (w2.setCell ⟨D, d * 4 + 2, none⟩ (.slice (some ⟨g2, 0, none⟩) (W.length + 1) cap2)) := by
  have hsz : (w1.drew.alloc (.cells #[.int .i64 (n : Int), .string s] 92)).heap.size = w1.heap.size + 1 := by simp
  rw [hsz] at hlie
  have hgD : g2 ≠ D := fun e => hlie.elim (fun h => hvD (by rw [h, e])) (fun h => by have := h1.Dlt; omega)
  have hO2 : Only (fun b => (gs d).v.ownBlock = some b) w1 w2 := ((Only.refl _ w1).drew.alloc _).grown hgrow (fun b hb => .inl (by rw [hva]; exact hb))
  have hlen : (W ++ [(n, b)]).length = W.length + 1 := by simp
  have h2 := rwaits_end (w2 := w2) h1 (d := d) hd (.slice (some ⟨g2, 0, none⟩) (W.length + 1) cap2) (W ++ [(n, b)]) hO2 (by
    rw [hlen, flat_snoc, hs]
    exact same_row hown fun b hb => heap_set_other _ _ _ (by injection hb with hb; subst hb; exact hgD)) (fun x hx => by
      rcases List.mem_append.1 hx with hx | hx
      · exact hfit x hx
      · simp at hx; subst hx; exact ⟨hn, hb⟩) (fun b hb => by
      injection hb with hb
      subst hb
      rcases hlie with h | h
      · exact .inl (by rw [hva]; exact h)
      · exact .inr (by show w1.heap.size ≤ g2; omega))
  obtain ⟨h3, h4, h5⟩ := h2
  have e : (S.doWrite d n b) = { disks := S.disks.set d ((S.disks.getD d default).setWaits (W ++ [(n, b)])), sectors := S.sectors, count := wrap64 (S.count + 1), off := offAt S.left S.off, left := S.left - 1 } := by
    unfold Sf.doWrite Dk.write Dk.setWaits
    rw [hW]
  rw [e]
  refine ⟨_, ⟨_, _, _, _, _, h3⟩, ?_, ?_⟩
  · exact (hO1.mono fun b hb => by rw [hb]; exact hF).trans h4 (fun b hb => .inl hb)
  · rintro b (hb | hb)
    · exact .inl hb
    · rcases h5 b hb with h | h
      · exact .inl (h1.inF.2.2 d b hd h)
      · exact .inr (Nat.le_trans hO1.size h)
set_option maxRecDepth 20000 in
set_option maxHeartbeats 1600000 in
theorem rwrite_done {w : World} {q D : Nat} {S : Sf} {F : Nat → Prop} {gs : Nat → Gr} {Ls : Nat → List (Nat × Bs)} {st : Bool} {l : Int} (h : RefIs w q S F D gs Ls st l) (d n : Nat) (b : Bs) (hd : d < S.disks.length) (hn : n < S.sectors) (hb : Sec b) (hs : (strL b).size = 128) (hy : why S d = 0) (hL : (S.disks.getD d default).waits.length < 4398046511104) :
    Calls Try.prog 30 #[.pointer (some ⟨q, 0, none⟩), .int .i64 d, .int .i64 n, sv b] w fun e w' => e = .returned (.int .i64 0) ∧ RLeft F w q (S.doWrite d n b) w' := by
  have ho : S.off = false := by
    unfold why at hy
    cases h : S.off
    · rfl
    · rw [h, if_pos rfl] at hy; cases hy
  have hc := Lib.hid (rhas_yes h d n hd hn)
  have hw := Lib.hid (rwhy_any h d hd hy)
  have hsp := Lib.hid (rspend_any h ho)
  have hq2 : (((strL b).size : Int) == 128) = true := by rw [beq_iff_eq]; omega
  have hF : F q := h.inF.1
  have HB := Lib.hid (show sv b = .string (strL b) from rfl)
  rw [HB.out]
  generalize strL b = s at *
  clear hs hy h
  go_enter Try.func30, Try.ntmps30
  go_wp2_with (first
    | (go_at_call 47; refine hc.out.mono ?_; rintro e w' ⟨rfl, rfl⟩)
    | (go_at_call 48; refine hw.out.mono ?_; rintro e w' ⟨rfl, rfl⟩)
    | (go_at_call 50; refine hsp.out.mono ?_; rintro e w1 ⟨rfl, hO1, h1⟩))
  clear hc hw hsp
  have hd1 : d < (Sf.mk S.disks S.sectors (wrap64 (S.count + 1)) (offAt S.left S.off) (S.left - 1)).disks.length := hd
  have c0 := h1.c0
  have k2 := h1.dc hd1 (c := 2) (by decide)
  have f2 := h1.dfree (d * 4 + 2)
  have hDq : D ≠ q := Ne.symm h1.qD
  have hql := h1.qlt
  have hDl := h1.Dlt
  have hm := h1.most
  have hwt := (h1.disk d hd1).waits
  have hfit := (h1.disk d hd1).fits
  have hvD : (gs d).v.ownBlock ≠ some D := fun e => h1.nD hd1 (.inr (.inr e))
  have hvq : (gs d).v.ownBlock ≠ some q := fun e => h1.nq hd1 (.inr (.inr e))
  have H1 := Lib.hid h1
  simp only [diskR] at k2 c0 hm hwt
  obtain ⟨A, ca, hva⟩ := own_shape2 hwt
  have HVA := Lib.hid hva
  rw [hva] at k2 hwt hvD hvq
  clear hva h1
  change ∀ x ∈ (S.disks.getD d default).waits, x.1 < S.sectors ∧ Sec x.2 at hfit
  generalize hWW : (S.disks.getD d default).waits = W at *
  have HWW := Lib.hid hWW
  clear hWW
  have HFIT := Lib.hid hfit
  have HWT := Lib.hid hwt
  have HO1 := Lib.hid hO1
  clear hfit hwt hO1
  generalize hkk : S.disks.length = k at *
  have q0 : ∀ j u, [Value.int .i64 (n : Int), .string s][j]? = some u → (w1.drew.alloc (.cells #[.int .i64 (n : Int), .string s] 92)).cell? ((⟨w1.heap.size, 0, none⟩ : Addr).add j) = some u := cells2_new w1.drew _ _ _
  have q1 : (w1.drew.alloc (.cells #[.int .i64 (n : Int), .string s] 92)).ownsRow 0 92 2 (.slice A W.length ca) W.length (flat W) := World.ownsRow.alloc (w := w1.drew) HWT.out _
  have kB : (w1.alloc (.cells #[.int .i64 (n : Int), .string s] 92)).cell? ⟨D, d * 4 + 2, none⟩ = some (.slice A W.length ca) := (World.cell?_alloc_lt _ _ ⟨D, d * 4 + 2, none⟩ hDl).trans k2
  have hAft : ∀ W2 : World, (w1.drew.alloc (.cells #[.int .i64 (n : Int), .string s] 92)).grownBy W2 (Value.slice A W.length ca).ownBlock → W2.cell? ⟨q, 0, none⟩ = some (.slice (some ⟨D, 0, none⟩) k k) ∧ W2.cell? ⟨D, d * 4 + 2, none⟩ = some (.slice A W.length ca) ∧ W2.frozen? ⟨D, d * 4 + 2, none⟩ = false ∧ ∀ v, (W2.setCell ⟨D, d * 4 + 2, none⟩ v).cell? ⟨q, 0, none⟩ = some (.slice (some ⟨D, 0, none⟩) k k) := fun W2 hg => by
    have a1 := (World.cell?_of_block (a := ⟨q, 0, none⟩) (app_block hg hql hvq)).trans c0
    have a2 := app_block hg hDl hvD
    exact ⟨a1, (World.cell?_of_block (a := ⟨D, d * 4 + 2, none⟩) a2).trans k2, (World.frozen?_of_block (a := ⟨D, d * 4 + 2, none⟩) a2).trans f2, fun v => (cell_set_other _ _ _ _ (show q ≠ D from Ne.symm hDq)).trans a1⟩
  have Q0 := Lib.hid q0
  have Q1 := Lib.hid q1
  clear q0 q1
  refine wp_region_held_drew (S := fun W' => W'.cell? ⟨q, 0, none⟩ = some (.slice (some ⟨D, 0, none⟩) k k)) (by kernel_rfl) (by exact c0) (fun hHeld => ?_)
  refine wpAnyH_take (i := 0) (oi := ⟨some 28, _, _, _, _, _⟩) (v := ?_) rfl (by kernel_rfl) (by kernel_rfl) (by kernel_rfl) (fun _ _ _ h => h) (Or.inl ⟨by rfl, ?_⟩) (by assumption) ?_
  rotate_left
  · (intro w hSw; (try dsimp only at hSw); go_simp; first | done | with_reducible rfl)
  try simp only [Act.put, List.setIfInBounds_toArray, List.set_cons_zero, List.set_cons_succ]
  refine wpAnyH_take (i := 1) (oi := ⟨some 29, _, _, _, _, _⟩) (v := ?_) rfl (by kernel_rfl) (by kernel_rfl) (by kernel_rfl) (fun _ _ _ h => h) (Or.inl ⟨by rfl, ?_⟩) (by assumption) ?_
  rotate_left
  · (intro w hSw; (try dsimp only at hSw); go_simp; first | done | with_reducible rfl)
  try simp only [Act.put, List.setIfInBounds_toArray, List.set_cons_zero, List.set_cons_succ]
  refine wpAnyH_take (i := 2) (oi := ⟨some 30, _, _, _, _, _⟩) (v := ?_) rfl (by kernel_rfl) (by kernel_rfl) (by kernel_rfl) (fun _ _ _ h => h) (Or.inl ⟨by rfl, ?_⟩) (by assumption) ?_
  rotate_left
  · (intro w hSw; (try dsimp only at hSw); go_simp; first | done | with_reducible rfl)
  try simp only [Act.put, List.setIfInBounds_toArray, List.set_cons_zero, List.set_cons_succ]
  refine wpAnyH_take (i := 3) (oi := ⟨some 31, _, _, _, _, _⟩) (v := ?_) rfl (by kernel_rfl) (by kernel_rfl) (by kernel_rfl) (fun _ _ _ h => h) (Or.inl ⟨by rfl, ?_⟩) (by assumption) ?_
  rotate_left
  · (intro w hSw; (try dsimp only at hSw); go_simp; first | done | with_reducible rfl)
  try simp only [Act.put, List.setIfInBounds_toArray, List.set_cons_zero, List.set_cons_succ]
  refine wpAnyH_take (i := 4) (oi := ⟨some 32, _, _, _, _, _⟩) (v := ?_) rfl (by kernel_rfl) (by kernel_rfl) (by kernel_rfl) (fun _ _ _ h => h) (Or.inl ⟨by rfl, ?_⟩) (by assumption) ?_
  rotate_left
  · (intro w hSw; (try dsimp only at hSw); go_simp; first | done | with_reducible rfl)
  try simp only [Act.put, List.setIfInBounds_toArray, List.set_cons_zero, List.set_cons_succ]
  refine wpAnyH_take (i := 5) (oi := ⟨some 33, _, _, _, _, _⟩) (v := ?_) rfl (by kernel_rfl) (by kernel_rfl) (by kernel_rfl) (fun _ _ _ h => h) (Or.inl ⟨by rfl, ?_⟩) (by assumption) ?_
  rotate_left
  · (intro w hSw; (try dsimp only at hSw); go_simp; first | done | with_reducible rfl)
  try simp only [Act.put, List.setIfInBounds_toArray, List.set_cons_zero, List.set_cons_succ]
  refine wpAnyH_take (i := 6) (oi := ⟨some 34, _, _, _, _, _⟩) (v := ?_) rfl (by kernel_rfl) (by kernel_rfl) (by kernel_rfl) (fun _ _ _ h => h) (Or.inl ⟨by rfl, ?_⟩) (by assumption) ?_
  rotate_left
  · (intro w hSw; (try dsimp only at hSw); go_simp; first | done | with_reducible rfl)
  try simp only [Act.put, List.setIfInBounds_toArray, List.set_cons_zero, List.set_cons_succ]
  refine wpAnyH_take (i := 7) (oi := ⟨some 35, _, _, _, _, _⟩) (v := ?_) rfl (by kernel_rfl) (by kernel_rfl) (by kernel_rfl) (fun _ _ _ h => h) (Or.inl ⟨by rfl, ?_⟩) (by assumption) ?_
  rotate_left
  · (intro w hSw; (try dsimp only at hSw); go_simp; first | done | with_reducible rfl)
  try simp only [Act.put, List.setIfInBounds_toArray, List.set_cons_zero, List.set_cons_succ]
  refine wpAnyH_take (i := 8) (oi := ⟨some 36, _, _, _, _, _⟩) (v := ?_) rfl (by kernel_rfl) (by kernel_rfl) (by kernel_rfl) (fun _ _ _ h => h) (Or.inl ⟨by rfl, ?_⟩) (by assumption) ?_
  rotate_left
  · (intro w hSw; (try dsimp only at hSw); go_simp; first | done | with_reducible rfl)
  try simp only [Act.put, List.setIfInBounds_toArray, List.set_cons_zero, List.set_cons_succ]
  refine wpAnyH_take (i := 9) (oi := ⟨some 37, _, _, _, _, _⟩) (v := ?_) rfl (by kernel_rfl) (by kernel_rfl) (by kernel_rfl) (fun _ _ _ h => h) (Or.inl ⟨by rfl, ?_⟩) (by assumption) ?_
  rotate_left
  · (intro w hSw; (try dsimp only at hSw); go_simp; first | done | with_reducible rfl)
  try simp only [Act.put, List.setIfInBounds_toArray, List.set_cons_zero, List.set_cons_succ]
  refine wpAnyH_take (i := 10) (oi := ⟨some 38, _, _, _, _, _⟩) (v := ?_) rfl (by kernel_rfl) (by kernel_rfl) (by kernel_rfl) (fun _ _ _ h => h) (Or.inl ⟨by rfl, ?_⟩) (by assumption) ?_
  rotate_left
  · (intro w hSw; (try dsimp only at hSw); go_simp; first | done | with_reducible rfl)
  try simp only [Act.put, List.setIfInBounds_toArray, List.set_cons_zero, List.set_cons_succ]
  refine wpAnyH_take (i := 11) (oi := ⟨some 39, _, _, _, _, _⟩) (v := ?_) rfl (by kernel_rfl) (by kernel_rfl) (by kernel_rfl) (fun _ _ _ h => h) (Or.inl ⟨by rfl, ?_⟩) (by assumption) ?_
  rotate_left
  · (intro w hSw; (try dsimp only at hSw); go_simp; first | done | with_reducible rfl)
  try simp only [Act.put, List.setIfInBounds_toArray, List.set_cons_zero, List.set_cons_succ]
  refine wpAnyH_take (i := 13) (oi := ⟨some 41, _, _, _, _, _⟩) (v := ?_) rfl (by kernel_rfl) (by kernel_rfl) (by kernel_rfl) (fun _ _ _ h => h) (Or.inl ⟨by rfl, ?_⟩) (by assumption) ?_
  rotate_left
  · (intro w hSw; (try dsimp only at hSw); go_simp; first | done | with_reducible rfl)
  try simp only [Act.put, List.setIfInBounds_toArray, List.set_cons_zero, List.set_cons_succ]
  refine wpAnyH_take (i := 14) (oi := ⟨some 42, _, _, _, _, _⟩) (v := ?_) rfl (by kernel_rfl) (by kernel_rfl) (by kernel_rfl) (fun _ _ _ h => h) (Or.inl ⟨by rfl, ?_⟩) (by assumption) ?_
  rotate_left
  · (intro w hSw; (try dsimp only at hSw); go_simp; first | done | with_reducible rfl)
  try simp only [Act.put, List.setIfInBounds_toArray, List.set_cons_zero, List.set_cons_succ]
  refine wpAnyH_take (i := 15) (oi := ⟨some 43, _, _, _, _, _⟩) (v := ?_) rfl (by kernel_rfl) (by kernel_rfl) (by kernel_rfl) (fun _ _ _ h => h) (Or.inl ⟨by rfl, ?_⟩) (by assumption) ?_
  rotate_left
  · (intro w hSw; (try dsimp only at hSw); go_simp; first | done | with_reducible rfl)
  try simp only [Act.put, List.setIfInBounds_toArray, List.set_cons_zero, List.set_cons_succ]
  refine wpAnyH_ready (rs := [12, 16]) (by kernel_rfl) (by simp) ?_
  refine AllReadyH.cons (o := ⟨some 40, _, _, _, _, _⟩) rfl (fun K hK => ?_) (AllReadyH.cons (o := ⟨some 44, _, _, _, _, _⟩) rfl (fun K hK => ?_) AllReadyH.nil)
  · go_simp
    refine hK.out _ _ (by exact c0) (fun hHeld => ?_)
    clear hK K
    try simp only [Act.put, List.setIfInBounds_toArray, List.set_cons_zero, List.set_cons_succ]
    refine wpAnyH_ready (rs := [16]) (by kernel_rfl) (by simp) ?_
    refine AllReadyH.cons (o := ⟨some 44, _, _, _, _, _⟩) rfl (fun K hK => ?_) AllReadyH.nil
    go_simp
    refine hK.out _ _ (by exact (World.cell?_alloc_lt _ _ ⟨q, 0, none⟩ hql).trans c0) (fun hHeld => ?_)
    clear hK K
    try simp only [Act.put, List.setIfInBounds_toArray, List.set_cons_zero, List.set_cons_succ]
    refine wpAnyH_ready (rs := [17]) (by kernel_rfl) (by simp) ?_
    refine AllReadyH.cons (o := ⟨some 45, _, _, _, _, _⟩) rfl (fun K hK => ?_) AllReadyH.nil
    refine step_writes (v := .slice A W.length ca) (xs := flat W) (x := n) (s := s) (q := w1.heap.size) rfl rfl rfl rfl Q1.out Q0.out hL ?_
    intro g2 cap2 w2 hown2 hgrow2 hlie2 hg2
    have z2 := hAft w2 hgrow2
    refine hK.out _ _ (z2.1) (fun hHeld => ?_)
    clear hK K
    try simp only [Act.put, List.setIfInBounds_toArray, List.set_cons_zero, List.set_cons_succ]
    refine wpAnyH_take (i := 18) (oi := ⟨some 46, _, _, _, _, _⟩) (v := ?_) rfl (by kernel_rfl) (by kernel_rfl) (by kernel_rfl) (fun _ _ _ h => h) (Or.inl ⟨by rfl, ?_⟩) (by assumption) ?_
    rotate_left
    · (intro w hSw; (try dsimp only at hSw); go_simp; first | done | with_reducible rfl)
    try simp only [Act.put, List.setIfInBounds_toArray, List.set_cons_zero, List.set_cons_succ]
    refine wpAnyH_take (i := 19) (oi := ⟨some 47, _, _, _, _, _⟩) (v := ?_) rfl (by kernel_rfl) (by kernel_rfl) (by kernel_rfl) (fun _ _ _ h => h) (Or.inl ⟨by rfl, ?_⟩) (by assumption) ?_
    rotate_left
    · (intro w hSw; (try dsimp only at hSw); go_simp; first | done | with_reducible rfl)
    try simp only [Act.put, List.setIfInBounds_toArray, List.set_cons_zero, List.set_cons_succ]
    refine wpAnyH_ready (rs := [20]) (by kernel_rfl) (by simp) ?_
    refine AllReadyH.cons (o := ⟨none, _, _, _, _, _⟩) rfl (fun K hK => ?_) AllReadyH.nil
    have z3 := z2.2.1
    have z4 := z2.2.2.1
    go_simp
    refine hK.out _ _ (z2.2.2.2 _) (fun hHeld => ?_)
    clear hK K
    try simp only [Act.put, List.setIfInBounds_toArray, List.set_cons_zero, List.set_cons_succ]
    refine wpAnyH_done (by kernel_rfl) ?_ _
    clear hHeld z2 z3 z4
    have hend := write_left H1.out (by rw [hkk]; exact hd1) hF HO1.out HWW.out HVA.out hb hn HB.out HFIT.out hvD hgrow2 hown2 hlie2
    have HE := Lib.hid hend
    clear hend hown2 hgrow2 hlie2
    go_wp2
    go_ret
    exact ⟨rfl, HE.out⟩
  · go_simp
    refine hK.out _ _ (by exact (World.cell?_alloc_lt _ _ ⟨q, 0, none⟩ hql).trans c0) (fun hHeld => ?_)
    clear hK K
    try simp only [Act.put, List.setIfInBounds_toArray, List.set_cons_zero, List.set_cons_succ]
    refine wpAnyH_ready (rs := [12]) (by kernel_rfl) (by simp) ?_
    refine AllReadyH.cons (o := ⟨some 40, _, _, _, _, _⟩) rfl (fun K hK => ?_) AllReadyH.nil
    go_simp
    refine hK.out _ _ (by exact (World.cell?_alloc_lt _ _ ⟨q, 0, none⟩ hql).trans c0) (fun hHeld => ?_)
    clear hK K
    try simp only [Act.put, List.setIfInBounds_toArray, List.set_cons_zero, List.set_cons_succ]
    refine wpAnyH_ready (rs := [17]) (by kernel_rfl) (by simp) ?_
    refine AllReadyH.cons (o := ⟨some 45, _, _, _, _, _⟩) rfl (fun K hK => ?_) AllReadyH.nil
    refine step_writes (v := .slice A W.length ca) (xs := flat W) (x := n) (s := s) (q := w1.heap.size) rfl rfl rfl rfl Q1.out Q0.out hL ?_
    intro g2 cap2 w2 hown2 hgrow2 hlie2 hg2
    have z2 := hAft w2 hgrow2
    refine hK.out _ _ (z2.1) (fun hHeld => ?_)
    clear hK K
    try simp only [Act.put, List.setIfInBounds_toArray, List.set_cons_zero, List.set_cons_succ]
    refine wpAnyH_take (i := 18) (oi := ⟨some 46, _, _, _, _, _⟩) (v := ?_) rfl (by kernel_rfl) (by kernel_rfl) (by kernel_rfl) (fun _ _ _ h => h) (Or.inl ⟨by rfl, ?_⟩) (by assumption) ?_
    rotate_left
    · (intro w hSw; (try dsimp only at hSw); go_simp; first | done | with_reducible rfl)
    try simp only [Act.put, List.setIfInBounds_toArray, List.set_cons_zero, List.set_cons_succ]
    refine wpAnyH_take (i := 19) (oi := ⟨some 47, _, _, _, _, _⟩) (v := ?_) rfl (by kernel_rfl) (by kernel_rfl) (by kernel_rfl) (fun _ _ _ h => h) (Or.inl ⟨by rfl, ?_⟩) (by assumption) ?_
    rotate_left
    · (intro w hSw; (try dsimp only at hSw); go_simp; first | done | with_reducible rfl)
    try simp only [Act.put, List.setIfInBounds_toArray, List.set_cons_zero, List.set_cons_succ]
    refine wpAnyH_ready (rs := [20]) (by kernel_rfl) (by simp) ?_
    refine AllReadyH.cons (o := ⟨none, _, _, _, _, _⟩) rfl (fun K hK => ?_) AllReadyH.nil
    have z3 := z2.2.1
    have z4 := z2.2.2.1
    go_simp
    refine hK.out _ _ (z2.2.2.2 _) (fun hHeld => ?_)
    clear hK K
    try simp only [Act.put, List.setIfInBounds_toArray, List.set_cons_zero, List.set_cons_succ]
    refine wpAnyH_done (by kernel_rfl) ?_ _
    clear hHeld z2 z3 z4
    have hend := write_left H1.out (by rw [hkk]; exact hd1) hF HO1.out HWW.out HVA.out hb hn HB.out HFIT.out hvD hgrow2 hown2 hlie2
    have HE := Lib.hid hend
    clear hend hown2 hgrow2 hlie2
    go_wp2
    go_ret
    exact ⟨rfl, HE.out⟩
end Go.Proofs.Ytbkcdomapdflaaa.Sh
