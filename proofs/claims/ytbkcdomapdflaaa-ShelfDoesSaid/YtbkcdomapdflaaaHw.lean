/-
  The contract of a disk's write: it waits behind all of the disk's.
  Conditions: the disk lies in memory as 'DiskIs' says; the sector is one of its own; fewer than 2^40 writes wait.
-/
import Derived.Test.YtbkcdomapdflaaaHr
import Derived.Deep.DeepFit
namespace Go.Proofs.Ytbkcdomapdflaaa.Sh
open Go.RowKit Go.Maps

theorem own_shape2 {w : World} {base : Nat} {e : TypeId} {size : Nat} {v : Value} {n : Nat} {xs : List Value} (h : w.ownsRow base e size v n xs) : ∃ A c, v = .slice A n c := by
  rcases h.2 with ⟨rfl, rfl⟩ | ⟨g, cap, cur, rfl, _⟩
  · exact ⟨none, 0, rfl⟩
  · exact ⟨_, _, rfl⟩
theorem row_ne_map {w : World} {base : Nat} {e : TypeId} {size : Nat} {v : Value} {n m c : Nat} {xs : List Value} {f : Int → Option Nat} (h : w.ownsRow base e size v n xs) (hm : MapIs w m c f) : v.ownBlock ≠ some m := by
  intro e
  obtain ⟨Dm, ⟨es, clock, hb, _⟩, _⟩ := hm
  rcases h.2 with ⟨rfl, rfl⟩ | ⟨g, cap, cur, rfl, _, hh, _⟩
  · cases e
  · simp only [Value.ownBlock, Option.some.injEq] at e
    subst e
    rw [hb] at hh
    cases hh
theorem cells2_new (w : World) (x y : Value) (t : TypeId) : ∀ j u, [x, y][j]? = some u → (w.alloc (.cells #[x, y] t)).cell? ((⟨w.heap.size, 0, none⟩ : Addr).add j) = some u := by
  intro j u hu
  have e : (⟨w.heap.size, 0, none⟩ : Addr).add j = ⟨w.heap.size, j, none⟩ := by unfold Addr.add; split <;> simp_all
  rw [e, World.cell?_alloc_at _ _ _ _ rfl]
  match j, hu with
  | 0, hu => simpa using hu
  | 1, hu => simpa using hu
theorem one2 (n : Int) (s : ByteArray) : ∀ u ∈ [Value.int .i64 n, .string s], u.oneCell' = true := by
  intro u hu
  simp only [List.mem_cons, List.not_mem_nil, or_false] at hu
  rcases hu with rfl | rfl <;> rfl
theorem info_write : (Try.prog.info? 87).map (fun i => (i.zero, i.size, i.bytes)) = some (some (.agg #[.int .i64 0, .string ⟨#[]⟩]), 2, 24) := by kernel_rfl
set_option maxRecDepth 20000 in
theorem dwrite_any (w : World) (D o sectors n : Nat) (b : Bs) (g : Gh) (k : Dk) (h : DiskIs w sectors g k) (hn : n < sectors) (hs : sectors ≤ 4096) (hD : ¬ g.has D)
    (hL : k.waits.length < 4398046511104)
    (c1 : w.cell? ⟨D, o + 1, none⟩ = some g.v) (f1 : w.frozen? ⟨D, o + 1, none⟩ = false) (c2 : w.cell? ⟨D, o + 2, none⟩ = some (.map (some g.m))) :
    Calls Try.prog 22 #[.pointer (some ⟨D, o, none⟩), .int .i64 n, sv b] w fun e w' => e = .returned (.tuple #[]) ∧
      ∃ w1 v, w' = w1.setCell ⟨D, o + 1, none⟩ v ∧ Only (fun b => b = g.m ∨ g.v.ownBlock = some b) w w1 ∧
        w1.ownsRow 0 87 2 v (k.waits.length + 1) (flat (k.waits ++ [(n, b)])) ∧ MapIs w1 g.m (k.waits.length + 1) (lastOf (k.waits ++ [(n, b)])) ∧ ∀ b', v.ownBlock = some b' → g.v.ownBlock = some b' ∨ w.heap.size ≤ b' := by
  obtain ⟨i0, hi, hz0, hz1, hz2⟩ := info_parts info_write
  obtain ⟨Dm, hown, hf⟩ := h.map
  have hrow := h.waits
  have hkey := keyInt n (by omega)
  have hval := elInt k.waits.length (by omega)
  obtain ⟨A, cap, hv⟩ := own_shape2 hrow
  have hD1 : g.m ≠ D := fun e => hD (.inr (.inl e))
  have hD2 : g.v.ownBlock ≠ some D := fun e => hD (.inr (.inr e))
  have hmr := row_ne_map hrow h.map
  have hDlt := block_lt_of_cell c1
  rw [hv] at hrow c1 hD2 hmr
  generalize hLL : k.waits.length = L at *
  have HL := Lib.hid hLL
  clear hLL h hD
  have HS := Lib.hid (show sv b = .string (strL b) from rfl)
  show Calls Try.prog 22 #[.pointer (some ⟨D, o, none⟩), .int .i64 n, .string (strL b)] w _
  generalize strL b = s at *
  go_enter Try.func22, Try.ntmps22
  go_wp2
  go_still_tail 10, (by kernel_rfl)
  change wpList _ _ _ _ _ w.drew
  go_wp2_with (first
    | (at_mapUpdate; refine wpList_mapUpdate_own _ rfl _ _ _ 51 rfl 3 3 lawInt Try.underlying51 _ g.m L Dm rfl hown.drew (by unfold maxLen; omega) _ _ _ rfl rfl hkey _ [] hval ?_; intro w1 hown1 hgrow1; have k1 : w1.cell? ⟨D, o + 1, none⟩ = some (.slice A L cap) := hgrow1.cell (w := w.drew) c1 (fun e => hD1 (by injection e with e; exact e.symm)); have k2 : w1.frozen? ⟨D, o + 1, none⟩ = false := (World.frozen?_of_block (w := w) (hgrow1.block D hDlt (fun e => hD1 (by injection e with e; exact e.symm)))).trans f1; have hD1lt := block_lt_of_cell k1; have hrow1 := hrow.kept (w := w.drew) hgrow1 (.inr hmr))
    | (at_builtin; go_must (refine wpList_append_lies _ rfl _ _ 52 rfl 0 87 i0 _ 2 24 Try.underlying52 hi hz0 hz1 hz2 rfl (by decide) _ L _ rfl (hrow1.alloc _) ⟨w1.heap.size, 0, none⟩ 1 1 [.int .i64 (n : Int), .string s] rfl rfl (cells2_new _ _ _ _) (one2 _ _) (by decide) (by unfold maxLen; omega) (by omega) (Nat.zero_le _) _ rfl ?_; intro g2 cap2 w2 hown2 hgrow2 hlie _; have k3 : w2.cell? ⟨D, o + 1, none⟩ = some (.slice A L cap) := hgrow2.cell ((World.cell?_alloc_lt w1 _ ⟨D, o + 1, none⟩ hD1lt).trans k1) (fun e => hD2 e.symm); have k4 : w2.frozen? ⟨D, o + 1, none⟩ = false := (World.frozen?_of_block (w := w1) ((hgrow2.block D (Nat.lt_of_lt_of_le hD1lt (by simp)) (fun e => hD2 e.symm)).trans (Below.heap_alloc _ _ _ hD1lt))).trans k2))
    | go_in)
  go_end0
  have hm2 : w2.heap[g.m]? = w1.heap[g.m]? := (hgrow2.block g.m (Nat.lt_of_lt_of_le hown1.lt (by simp)) (fun e => hmr e.symm)).trans (Below.heap_alloc _ _ _ hown1.lt)
  have hOnly : Only (fun b => b = g.m ∨ (Value.slice A L cap).ownBlock = some b) w w2 :=
    (((Only.refl _ w).drew.grown hgrow1 (fun b e => .inl (.inl (by injection e with e; exact e.symm)))).alloc _).grown hgrow2 (fun b e => .inl (.inr e))
  have hLie : ∀ b', (Value.slice (some ⟨g2, 0, none⟩) (L + 1) cap2).ownBlock = some b' → (Value.slice A L cap).ownBlock = some b' ∨ w.heap.size ≤ b' := by
    intro b' hb'
    simp only [Value.ownBlock, Option.some.injEq] at hb'
    subst hb'
    rcases hlie with e | e
    · exact .inl e
    · right
      have h1 := hgrow1.size
      have h2 : w.drew.heap.size = w.heap.size := rfl
      rw [e]
      simp
      omega
  refine ⟨rfl, w2, _, rfl, hOnly, ?_, ⟨_, same_map hown1 hm2, ?_⟩, hLie⟩
  · rw [flat_snoc, HS.out]; exact hown2
  · intro x
    rw [lastOf_snoc, HL.out]
    exact put_is (f := lastOf k.waits) hown.isMap n L hf x
end Go.Proofs.Ytbkcdomapdflaaa.Sh
